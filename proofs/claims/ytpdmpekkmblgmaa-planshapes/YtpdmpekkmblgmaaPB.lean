/-
  Package plan: Links: a line, a ring, a star.
-/
import Derived.Test.YtpdmpekkmblgmaaPA
import Derived.Test.YtpdmpekkmblgmaaP7c
import Derived.Test.YtpdmpekkmblgmaaP5
namespace Go.Proofs.Ytpdmpekkmblgmaa
open Go.ChangeShapes Go.WideShapes Go.ChangeAt Go.RowKit Go.Maps Go.Shelf
set_option linter.unusedVariables false
set_option linter.unusedSimpArgs false
attribute [local go_sem] Oper.semAt_some

/-- What Links answers, where bad numbers are told first; xs: what the shape hands out. -/
def errL (n : Int) (bad : Bool) (xs : List LK) : Int := if bad = true then 31 else if crowded n (srt xs) = true then 43 else 0
def resL (n : Int) (bad : Bool) (xs : List LK) : List LK := if bad = true then [] else if crowded n (srt xs) = true then [] else srt xs
def LnkP (w : World) (n : Int) (bad : Bool) (xs : List LK) (e : Ending) (w' : World) : Prop := ∃ a m c, e = .returned (.tuple #[.slice a m c, .int .i64 (errL n bad xs)]) ∧ RdL w' a m c (resL n bad xs) ∧ Below w.heap.size w w'
theorem LnkP.bad {w : World} {n : Int} {xs : List LK} {w' : World} (b : Below w.heap.size w w') : LnkP w n true xs (.returned (.tuple #[.slice none 0 0, .int .i64 31])) w' := ⟨none, 0, 0, rfl, rdL_nil _, b⟩
theorem LnkP.crowd {w : World} {n : Int} {xs : List LK} {w' : World} (b : Below w.heap.size w w') (h : crowded n (srt xs) = true) : LnkP w n false xs (.returned (.tuple #[.slice none 0 0, .int .i64 43])) w' := by
  refine ⟨none, 0, 0, ?_, ?_, b⟩
  · unfold errL; rw [if_neg (by decide), if_pos h]
  · unfold resL; rw [if_neg (by decide), if_pos h]; exact rdL_nil _
theorem LnkP.good {w : World} {n : Int} {xs : List LK} {w' : World} {a : Option Addr} {m c : Nat} (b : Below w.heap.size w w') (h : crowded n (srt xs) = false) (hr : RdL w' a m c (srt xs)) : LnkP w n false xs (.returned (.tuple #[.slice a m c, .int .i64 0])) w' := by
  refine ⟨a, m, c, ?_, ?_, b⟩
  · unfold errL; rw [if_neg (by decide), if_neg (by rw [h]; decide)]
  · unfold resL; rw [if_neg (by decide), if_neg (by rw [h]; decide)]; exact hr
theorem srt_mem {xs : List LK} {p : LK} : p ∈ srt xs ↔ p ∈ xs := (srt_perm xs).mem_iff
theorem Apart.srt {xs : List LK} (h : Apart xs) : Apart (srt xs) := fun p hp => h p (srt_mem.1 hp)
theorem lineL_apart (n : Nat) : Apart (lineL n) := by
  intro p hp
  obtain ⟨i, _, rfl⟩ := List.mem_map.1 hp
  show (i : Int) ≠ (i : Int) + 1
  omega
theorem treeL_apart (n : Nat) {k : Int} (hk : 1 ≤ k) : Apart (treeL n k) := by
  intro p hp
  obtain ⟨i, _, rfl⟩ := List.mem_map.1 hp
  show (i : Int) / k ≠ (i : Int) + 1
  have := Int.ediv_le_self (a := (i : Int)) k (by omega)
  omega
theorem ringL_apart (n : Nat) : Apart (ringL n) := by
  intro p hp
  unfold ringL at hp
  rcases List.mem_append.1 hp with h | h
  · exact lineL_apart n p h
  · split at h
    · have e : p = (0, (n : Int) - 1) := by simpa using h
      rw [e]
      show (0 : Int) ≠ (n : Int) - 1
      omega
    · cases h
set_option maxRecDepth 100000 in
set_option maxHeartbeats 1000000 in
theorem links_2 (n k : Int) (w : World) : Calls Try.prog 8 #[.int .i64 2, .int .i64 n, .int .i64 k] w (LnkP w n (!few n) (ringL n.toNat)) := by
  have K28 := fun W => sketches_any W
  have K29 := fun W => few_any n W
  have hix : ∀ W : World, (Instr.index 53 (.agg tab) (.int .i64 2)).run Try.prog W = .ok (.agg #[.bool false, .func (.func 45) #[] #[]]) W := fun W => by kernel_rfl
  cases hf : few n with
  | false =>
    rw [hf] at K29
    show Calls _ _ _ _ (LnkP w n true _)
    clear hf
    go_enter Try.func8, Try.ntmps8
    go_wp2_with (first
      | (go_at_call 28; refine (K28 _).mono ?_; clear K28; rintro e w1 ⟨rfl, b1⟩; have M := Mem.nil w1)
      | ((with_reducible show wpList _ _ _ (Oper.mk _ (Op.alloc 52) _ _ _ _ :: _) _ _); refine wpList_alloc M rfl rfl rt52 ?_; clear M; intro kt W M)
      | ((with_reducible show wpList _ _ _ (Oper.mk _ (Op.store 52 _ _) _ _ _ _ :: _) _ _); refine wpList_put M rfl _ _ rfl rt52 0 #[.bool false, .func (.func 45) #[] #[]] rfl rfl rfl rfl rfl (by simp [Value.oneCell']) ?_; clear M; intro W2 M; simp only [List.set_cons_zero] at M; have p0 : W2.cell? ⟨kt, 0, none⟩ = some (.bool false) := row_cell (M.get (.head _)) 0 _ rfl; have p1 : W2.cell? ⟨kt, 1, none⟩ = some (.func (.func 45) #[] #[]) := row_cell (M.get (.head _)) 1 _ rfl)
      | (go_at_call 29; refine (K29 _).mono ?_; clear K29; rintro e w3 ⟨rfl, hw3⟩; rw [hw3]; clear hw3 w3))
    refine bodyPost_ret (results_tmp2 rfl _ _ _) rfl ?_
    exact LnkP.bad (b1.trans (M.below.mono b1.size))
  | true =>
    rw [hf] at K29
    show Calls _ _ _ _ (LnkP w n false _)
    obtain ⟨N, rfl, hN1, hN2⟩ := few_nat hf
    rw [Int.toNat_natCast]
    have HNN : Hid (1 ≤ N ∧ N ≤ 16 ∧ few (N : Int) = true) := ⟨hN1, hN2, hf⟩
    have HA : Hid (Apart (ringL N)) := ringL_apart N
    have HLN : Hid ((ringL N).length ≤ 100000) := by show _ ≤ _; have h3 := HNN.out; by_cases h : 3 ≤ N; rw [ringL_len h, lineL_len]; omega; rw [ringL_few h, lineL_len]; omega
    have KP := fun W => ring_any (N : Int) k W
    have KS := fun kb W O => sortedfunc_any 61 #[.pointer (some ⟨kb, 0, none⟩)] (enters_of Try.func61 (by kernel_rfl) rfl) (ringL N) (fun A => One A kb (.int .i64 (N : Int))) W HLN.out (fun W' _ => ring_gives kb N (by have := HNN.out; omega) W') O
    have KC := fun a m c W (hr : RdL W a m c (srt (ringL N))) => crowded_any (N : Int) a m c (srt (ringL N)) W hr (Apart.srt HA.out) HNN.out.2.2
    obtain ⟨xs, hxs⟩ : ∃ xs, ringL N = xs := ⟨_, rfl⟩
    rw [hxs] at KS KC ⊢
    obtain ⟨cw, hcw⟩ : ∃ b, crowded (N : Int) (srt xs) = b := ⟨_, rfl⟩
    have HCW : Hid (crowded (N : Int) (srt xs) = cw) := hcw
    rw [hcw] at KC
    clear hf hN1 hN2 hxs hcw
    go_enter Try.func8, Try.ntmps8
    go_wp2_with (first
        | (go_at_call 28; refine (K28 _).mono ?_; clear K28; rintro e w1 ⟨rfl, b1⟩; have M := Mem.nil w1)
        | ((with_reducible show wpList _ _ _ (Oper.mk _ (Op.alloc 52) _ _ _ _ :: _) _ _); refine wpList_alloc M rfl rfl rt52 ?_; clear M; intro kt W M)
        | ((with_reducible show wpList _ _ _ (Oper.mk _ (Op.store 52 _ _) _ _ _ _ :: _) _ _); refine wpList_put M rfl _ _ rfl rt52 0 #[.bool false, .func (.func 45) #[] #[]] rfl rfl rfl rfl rfl (by simp [Value.oneCell']) ?_; clear M; intro W2 M; simp only [List.set_cons_zero] at M; have p0 : W2.cell? ⟨kt, 0, none⟩ = some (.bool false) := row_cell (M.get (.head _)) 0 _ rfl; have p1 : W2.cell? ⟨kt, 1, none⟩ = some (.func (.func 45) #[] #[]) := row_cell (M.get (.head _)) 1 _ rfl)
        | (go_at_call 29; refine (K29 _).mono ?_; clear K29; rintro e w3 ⟨rfl, hw3⟩; rw [hw3]; clear hw3 w3)
        | (go_at_call 45; refine (KP _).mono ?_; clear KP; rintro e w4 ⟨rfl, hw4⟩; have b4 : Below W2.heap.size W2 w4 := (by subst hw4; exact (Below.refl _ _).alloc (Nat.le_refl _) _); have KO : ∀ W', Below w4.heap.size w4 W' → One W' W2.heap.size (.int .i64 (N : Int)) := fun W' hb => One.below (by subst hw4; exact One.new _ _ _) hb; clear hw4)
        | (go_at_call 30; refine (KS W2.heap.size w4 KO).mono ?_; clear KS KO; rintro e w5 ⟨a5, c5, rfl, hr5, b5⟩; have KC5 := KC _ _ _ w5 hr5; have b05 : Below w.heap.size w w5 := ((b1.trans (M.below.mono b1.size)).trans (b4.mono (Nat.le_trans b1.size M.below.size))).trans (b5.mono (Nat.le_trans (Nat.le_trans b1.size M.below.size) b4.size)))
        | (go_at_call 32; refine KC5.mono ?_; clear KC5; rintro e w6 ⟨rfl, b6⟩))
    all_goals
      refine bodyPost_ret (results_tmp2 rfl _ _ _) rfl ?_
      first
        | exact LnkP.crowd (b05.trans (b6.mono b05.size)) (by rw [HCW.out]; first | assumption | simp_all)
        | exact LnkP.good (b05.trans (b6.mono b05.size)) (by rw [HCW.out]; first | assumption | simp_all) (hr5.below b6)
end Go.Proofs.Ytpdmpekkmblgmaa
