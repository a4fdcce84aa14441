/-
  The law: awake.
-/
import Derived.Test.YtpdmpekkmblgmaaPB3
import Derived.Test.YtpdmpekkmblgmaaPC
import Derived.Test.YtpdmpekkmblgmaaP5c
import Derived.Test.YtpdmpekkmblgmaaP6
namespace Go.Proofs.Ytpdmpekkmblgmaa
open Go.ChangeShapes Go.WideShapes Go.ChangeAt Go.RowKit Go.Maps Go.Shelf
set_option linter.unusedVariables false
set_option linter.unusedSimpArgs false
attribute [local go_sem] Oper.semAt_some

theorem nbs_srt (xs : List LK) (v : Int) : ((nbs (srt xs) v).Perm (nbs xs v)) := (srt_perm xs).filterMap _
theorem dg_srt (xs : List LK) (v : Int) : dg (srt xs) v = dg xs v := (nbs_srt xs v).length_eq
theorem crowded_srt (n : Int) (xs : List LK) : crowded n (srt xs) = crowded n xs := by
  unfold crowded
  congr 1
  funext v
  rw [dg_srt]
/-- Strictly in order. -/
def Up (xs : List LK) : Prop := xs.Pairwise fun p q => ltL p q = true
theorem up_unique : ∀ {xs ys : List LK}, Up xs → Up ys → (∀ p, p ∈ xs ↔ p ∈ ys) → xs = ys
  | [], [], _, _, _ => rfl
  | [], y :: ys, _, _, h => absurd ((h y).2 (.head _)) (by simp)
  | x :: xs, [], _, _, h => absurd ((h x).1 (.head _)) (by simp)
  | x :: xs, y :: ys, hx, hy, h => by
    have hx1 := List.pairwise_cons.1 hx
    have hy1 := List.pairwise_cons.1 hy
    have irr : ∀ p, ltL p p = false := fun p => (ltL_no p p).2 (by omega)
    have e : x = y := by
      rcases List.mem_cons.1 ((h x).1 (.head _)) with e | e
      · exact e
      · rcases List.mem_cons.1 ((h y).2 (.head _)) with e' | e'
        · exact e'.symm
        · have h1 := hy1.1 x e
          have h2 := hx1.1 y e'
          have h3 := ltL_swo.trans y x y h1 h2
          rw [show ltOf ordL y y = ltL y y from rfl, irr] at h3
          cases h3
    subst e
    congr 1
    refine up_unique hx1.2 hy1.2 fun p => ?_
    constructor
    · intro hp
      rcases List.mem_cons.1 ((h p).1 (.tail _ hp)) with e | e
      · have h1 := hx1.1 p hp
        rw [e, irr] at h1
        cases h1
      · exact e
    · intro hp
      rcases List.mem_cons.1 ((h p).2 (.tail _ hp)) with e | e
      · have h1 := hy1.1 p hp
        rw [e, irr] at h1
        cases h1
      · exact e
theorem srt_up {xs : List LK} (h : xs.Nodup) : Up (srt xs) := by
  have h1 : (srt xs).Pairwise fun x y => (!ltL y x) = true := by
    refine List.pairwise_mergeSort (le := fun x y => !ltL y x) ?_ ?_ xs
    · intro a b c h1 h2
      simp only [Bool.not_eq_true'] at *
      exact ltL_swo.ntrans c b a h2 h1
    · intro a b
      simp only [Bool.or_eq_true, Bool.not_eq_true']
      by_cases h : ltL b a = true
      · right
        refine (ltL_no a b).2 ?_
        have := (ltL_iff b a).1 h
        omega
      · left
        simpa using h
  have h2 : (srt xs).Nodup := (srt_perm xs).nodup_iff.2 h
  unfold Up
  refine (List.Pairwise.and h1 h2).imp ?_
  rintro x y ⟨h3, h4⟩
  simp only [Bool.not_eq_true'] at h3
  have h5 := (ltL_no y x).1 h3
  refine (ltL_iff x y).2 ?_
  have h6 : ¬ (x.1 = y.1 ∧ x.2 = y.2) := fun e => h4 (Prod.ext e.1 e.2)
  omega
theorem ring4 : srt (ringL 4) = [(0, 1), (0, 3), (1, 2), (2, 3)] := by
  refine up_unique (srt_up (by decide)) ?_ ?_
  · unfold Up; decide
  · intro p
    rw [srt_mem]
    show p ∈ [((0 : Int), (1 : Int)), (1, 2), (2, 3), (0, 3)] ↔ _
    simp only [List.mem_cons, List.not_mem_nil, or_false]
    constructor <;> (rintro (h | h | h | h) <;> simp [h])
theorem crowd4 : crowded 4 (srt (ringL 4)) = false := by rw [crowded_srt]; decide
theorem crowd8 : crowded 8 (srt (treeL 8 8)) = true := by rw [crowded_srt]; decide
theorem wide4 : widthL [(0, 1), (0, 3), (1, 2), (2, 3)] 4 4 = 2 := by decide
theorem fit4 : fit 4 [(0, 1), (0, 3), (1, 2), (2, 3)] = true := by decide
theorem rnd01 : rnd 0 1 = 167951807 := by decide
theorem rd_lit {W : World} {b : Nat} (xs : List LK) (h : W.heap[b]? = some (.cells (csL xs).toArray 49 (0, 0))) (hx : xs.length ≤ 1000) : RdL W (some ⟨b, 0, none⟩) xs.length xs.length xs := by
  refine LstL.rd (W := W) ⟨rfl, Nat.le_refl _, by omega, .inr ⟨b, 0, _, rfl, h, by simp [csL_len, Nat.mul_comm], ?_⟩⟩ (by omega)
  rw [List.drop_zero]
  exact List.take_of_length_le (by simp [csL_len])
theorem awake_links (w : World) : Calls Try.prog 8 #[.int .i64 2, .int .i64 4, .int .i64 0] w fun e w' => ∃ a m c, e = .returned (.tuple #[.slice a m c, .int .i64 0]) ∧ RdL w' a m c [(0, 1), (0, 3), (1, 2), (2, 3)] ∧ Below w.heap.size w w' := by
  refine (links_2 4 0 w).mono ?_
  rintro e w' ⟨a, m, c, rfl, hr, hb⟩
  have h1 : errL 4 (!few 4) (ringL 4) = 0 := by unfold errL; rw [if_neg (by decide), crowd4]; rfl
  have h2 : resL 4 (!few 4) (ringL 4) = [(0, 1), (0, 3), (1, 2), (2, 3)] := by unfold resL; rw [if_neg (by decide), crowd4, ring4]; rfl
  refine ⟨a, m, c, ?_, ?_, hb⟩
  · rw [show (4 : Int).toNat = 4 from rfl, h1]
  · rw [show (4 : Int).toNat = 4 from rfl, h2] at hr
    exact hr
theorem awake_crowd (w : World) : Calls Try.prog 8 #[.int .i64 3, .int .i64 8, .int .i64 0] w fun e w' => ∃ a m c, e = .returned (.tuple #[.slice a m c, .int .i64 43]) ∧ Below w.heap.size w w' := by
  refine (links_3 8 0 w).mono ?_
  rintro e w' ⟨a, m, c, rfl, hr, hb⟩
  have h1 : errL 8 (!few 8) (treeL 8 8) = 43 := by unfold errL; rw [if_neg (by decide), crowd8]; rfl
  refine ⟨a, m, c, ?_, hb⟩
  rw [show (8 : Int).toNat = 8 from rfl]
  rw [show errL 8 (!few 8) (treeL 8 ((8 : Nat) : Int)) = 43 from h1]
set_option maxRecDepth 100000 in
set_option maxHeartbeats 1000000 in
theorem awake_any (w : World) : Calls Try.prog 13 #[] w fun e w' => e = .returned (.bool true) ∧ Below w.heap.size w w' := by
  have K8 := awake_links w
  have KX := fun W => awake_crowd W
  have KR : ∀ W, Calls Try.prog 11 #[.int .u64 0, .int .i64 1] W fun e w' => e = .returned (.int .u64 167951807) ∧ Below W.heap.size W w' := fun W => by have := random_any 0 1 W; rw [rnd01] at this; exact this
  go_enter Try.func13, Try.ntmps13
  go_wp2_with (first
    | (go_at_call 8; refine K8.mono ?_; clear K8; rintro e w1 ⟨a, m, c, rfl, R1, b1⟩)
    | (go_at_call 8; refine (KX _).mono ?_; clear KX; rintro e w2 ⟨a2, m2, c2, rfl, b2⟩; have R2 := R1.below b2; have B2 := b1.trans (b2.mono b1.size))
    | (go_at_call 10; refine (same_any a m c [(0, 1), (0, 3), (1, 2), (2, 3)] _ 4 4 [(0, 1), (0, 3), (1, 2), (2, 3)] _ (R2.below ((Below.refl _ _).alloc (Nat.le_refl _) _)) (rd_lit [(0, 1), (0, 3), (1, 2), (2, 3)] (World.alloc_heap_new w2 _) (by decide))).mono ?_; rintro e w3 ⟨⟨r, rfl, hr, b3⟩⟩; have e1 : r = true := hr.2 rfl; subst e1; have R3 := (R2.below ((Below.refl _ w2).alloc (Nat.le_refl _) _)).below b3; have B3 := (B2.alloc B2.size _).trans (b3.mono (Nat.le_trans B2.size (by simp))))
    | (go_at_call 11; refine (KR _).mono ?_; clear KR; rintro e w4 ⟨rfl, b4⟩; have R4 := R3.below b4; have B4 := B3.trans (b4.mono B3.size); have KW := width_any 4 a m c [(0, 1), (0, 3), (1, 2), (2, 3)] w4 R4 fit4; rw [wide4] at KW)
    | (go_at_call 23; refine KW.mono ?_; clear KW; rintro e w5 ⟨rfl, b5⟩))
  go_ret
  exact ⟨rfl, B4.trans (b5.mono B4.size)⟩
end Go.Proofs.Ytpdmpekkmblgmaa
