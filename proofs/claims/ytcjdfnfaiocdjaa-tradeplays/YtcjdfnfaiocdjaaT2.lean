/-
  Package trade: squares, and what the document's Gain returns.
-/
import Derived.Test.YtcjdfnfaiocdjaaT1
namespace Go.Proofs.Ytcjdfnfaiocdjaa
open Go.ChangeShapes Go.WideShapes Go.ChangeAt Go.RowKit
set_option linter.unusedVariables false
set_option linter.unusedSimpArgs false

theorem ends_rng (v p f me pe rest told : Int) : (-2147483647 ≤ (ends v p f me pe rest told).a ∧ (ends v p f me pe rest told).a ≤ 2147483647) ∧ (-2147483647 ≤ (ends v p f me pe rest told).b ∧ (ends v p f me pe rest told).b ≤ 2147483647) := by
  rcases ends_cases v p f me pe rest told with h | h | ⟨h1, h2, h3, h4, h5, h⟩
  · rw [h]; simp
  · rw [h]; simp
  · rw [h]; exact ⟨rng_true h4, rng_true h5⟩
/-- The sum of the squares of the two estimates. -/
def sq2 (v p f me pe rest told : Int) : Int := sqs [(ends v p f me pe rest told).a, (ends v p f me pe rest told).b]
theorem sq_le {x : Int} (h : -2147483647 ≤ x ∧ x ≤ 2147483647) : 0 ≤ x * x ∧ x * x ≤ 4611686014132420609 := by
  refine ⟨by rcases Int.le_total 0 x with k | k; exact Int.mul_nonneg k k; exact Int.mul_nonneg_of_nonpos_of_nonpos k k, (mul_bd h h).2⟩
theorem sq2_eq (v p f me pe rest told : Int) : sq2 v p f me pe rest told = (ends v p f me pe rest told).a * (ends v p f me pe rest told).a + (ends v p f me pe rest told).b * (ends v p f me pe rest told).b := by
  unfold sq2 sqs sqs sqs
  omega
theorem sq2_bd (v p f me pe rest told : Int) : 0 ≤ sq2 v p f me pe rest told ∧ sq2 v p f me pe rest told ≤ 9223372028264841218 := by
  obtain ⟨h1, h2⟩ := ends_rng v p f me pe rest told
  rw [sq2_eq]
  have := sq_le h1
  have := sq_le h2
  omega
theorem val_of {S : Int} (h : 0 ≤ S) (h' : S ≤ 9223372028264841218) : hiW S = 0 ∧ lo64 S = S ∧ val (hiW S) (lo64 S) = S := by
  have h1 : hi64 S = 0 := by unfold hi64; omega
  have h2 : lo64 S = S := by unfold lo64; omega
  have h3 : hiW S = 0 := by unfold hiW; rw [h1]; rfl
  refine ⟨h3, h2, ?_⟩
  rw [h2, h3]; unfold val; omega
/-- By how much it is lower, and the error. -/
structure GV where
  h : Int
  l : Int
  e : Int
def gain (v p f me pe rest told : Int) : GV :=
  if (bal v p f me pe rest told).e ≠ 0 then ⟨0, 0, (bal v p f me pe rest told).e⟩
  else ⟨drH (sq2 v p f me pe rest told) (sq2 (bal v p f me pe rest told).v (bal v p f me pe rest told).p (bal v p f me pe rest told).f me pe rest told), drL (sq2 v p f me pe rest told) (sq2 (bal v p f me pe rest told).v (bal v p f me pe rest told).p (bal v p f me pe rest told).f me pe rest told), 0⟩
abbrev gvV (m : GV) : Value := .tuple #[wide m.h m.l, .int .i64 m.e]
theorem bal_cases (v p f me pe rest told : Int) : bal v p f me pe rest told = ⟨0, 0, 0, 0, 31⟩ ∨ bal v p f me pe rest told = ⟨0, 0, 0, 0, 10⟩ ∨ (bal v p f me pe rest told).e = 0 := by
  unfold bal
  rcases ends_cases v p f me pe rest told with h | h | ⟨h1, h2, h3, h4, h5, h⟩
  · left; rw [h]; rfl
  · right; left; rw [h]; rfl
  · rw [show (ends v p f me pe rest told).e = 0 from by rw [h], if_neg (by simp)]
    rcases mv_cases2 v p f pe me (amt v p f me pe rest told) me with k | k | k
    · left; rw [k]; rfl
    · right; left; rw [k]; rfl
    · right; right; rw [if_neg (by simp [k])]
structure GE (w : World) (v p f : Int) (k : Nat) (u q g : Int) (W : World) : Prop where
  r : Tri W w.heap.size (.int .i64 v) (.int .i64 p) (.int .i64 f)
  o : Two W (w.heap.size + 1) (.int .u64 0) (.int .u64 0)
  m : Tri W k (.int .i64 u) (.int .i64 q) (.int .i64 g)
  b : Below w.heap.size w W
theorem GE.below {w W X : World} {v p f u q g : Int} {k : Nat} (h : GE w v p f k u q g W) (hb : Below W.heap.size W X) : GE w v p f k u q g X :=
  ⟨h.r.below hb, h.o.below hb, h.m.below hb, h.b.trans (hb.mono h.b.size)⟩
theorem GE.alloc {w W : World} {v p f u q g : Int} {k : Nat} (h : GE w v p f k u q g W) (o : Obj) : GE w v p f k u q g (W.alloc o) :=
  ⟨h.r.alloc o, h.o.alloc o, h.m.alloc o, h.b.alloc h.b.size o⟩
set_option maxRecDepth 100000 in
set_option maxHeartbeats 2000000 in
theorem squares26_any (v p f me pe rest told : Int) (w : World) : Calls Try.prog 26 #[.int .i64 me, .int .i64 pe, rg v p f, .int .i64 rest, .int .i64 told] w fun e w' => e = .returned (wide (hiW (sq2 v p f me pe rest told)) (lo64 (sq2 v p f me pe rest told))) ∧ Below w.heap.size w w' := by
  have K8 := fun w => ends_any v p f me pe rest told w
  obtain ⟨r1, r2⟩ := ends_rng v p f me pe rest told
  unfold sq2
  generalize ends v p f me pe rest told = E at *
  obtain ⟨x1, x2, x3⟩ := E
  dsimp only at r1 r2 ⊢
  have KS : ∀ W : World, Calls Try.prog 43 #[.slice (some ⟨W.heap.size, 0, none⟩) 2 2] (W.alloc (.cells #[.int .i64 x1, .int .i64 x2] 2)) fun e w' => e = .returned (wide (hiW (sqs [x1, x2])) (lo64 (sqs [x1, x2]))) ∧ Below (W.alloc (.cells #[.int .i64 x1, .int .i64 x2] 2)).heap.size (W.alloc (.cells #[.int .i64 x1, .int .i64 x2] 2)) w' :=
    fun W => squares_any _ _ _ [x1, x2] _ (row_two W x1 x2 (by omega) (by omega) _ rfl)
  generalize hiW (sqs [x1, x2]) = S1 at *
  generalize lo64 (sqs [x1, x2]) = S2 at *
  clear r1 r2
  go_enter Try.func26, Try.ntmps26
  go_wp2_with (first
    | (go_at_call 8; refine (K8 _).mono ?_; clear K8; rintro e w1 ⟨rfl, hb⟩; obtain ⟨c0, c1, d0, d1, z1⟩ := ((Two.new (w.alloc (.cells #[.int .i64 v, .int .i64 p, .int .i64 f] 23)) (.int .u64 0) (.int .u64 0) 31).below hb).at (k' := w.heap.size + 1) (by simp); have hB : Below w.heap.size w w1 := Below.trans (by go_grown) (hb.mono (by simp; omega)); clear hb)
    | (go_at_call 43; refine (KS w1).mono ?_; clear KS; rintro e w2 ⟨rfl, hb2⟩; obtain ⟨e0, e1, f0, f1, z2⟩ := ((show Two w1 (w.heap.size + 1) (.int .u64 0) (.int .u64 0) from ⟨c0, c1, d0, d1, z1⟩).alloc (.cells #[.int .i64 x1, .int .i64 x2] 2)).below hb2; have hB2 : Below w.heap.size w w2 := (hB.alloc hB.size _).trans (hb2.mono (by have := hB.size; simp; omega)); clear hb2))
  exact bodyPost_ret (v := wide S1 S2) (by simp [results, Try.results26, go_sem, e0, e1, f0, f1, z2]) rfl ⟨rfl, by go_grown⟩
set_option maxRecDepth 100000 in
set_option maxHeartbeats 2000000 in
theorem rgain_any (v p f me pe rest told : Int) (w : World) : Calls Try.prog 11 #[.int .i64 me, .int .i64 pe, rg v p f, .int .i64 rest, .int .i64 told] w fun e w' => e = .returned (gvV (gain v p f me pe rest told)) ∧ Below w.heap.size w w' := by
  have KB := fun w => rbal_any v p f me pe rest told w
  rcases bal_cases v p f me pe rest told with h | h | h
  · rw [h] at KB
    rw [show gain v p f me pe rest told = ⟨0, 0, 31⟩ from by unfold gain; rw [h]; rfl]
    clear h
    go_enter Try.func11, Try.ntmps11
    go_wp2_with (first | (go_at_call 14; refine (KB _).mono ?_; clear KB; rintro e w1 ⟨rfl, hb⟩; have T1 := ((Tri.new w (.int .i64 v) (.int .i64 p) (.int .i64 f) 23).alloc (.cells #[.int .u64 0, .int .u64 0] 31)).below hb; have T2 := ((Two.new (w.alloc (.cells #[.int .i64 v, .int .i64 p, .int .i64 f] 23)) (.int .u64 0) (.int .u64 0) 31).below hb).at (k' := w.heap.size + 1) (by simp); have hB : Below w.heap.size w w1 := Below.trans (by go_grown) (hb.mono (by simp; omega)); clear hb; obtain ⟨a0, a1, a2, b0, b1, b2, z0⟩ := _root_.id T1; obtain ⟨c0, c1, d0, d1, z1⟩ := _root_.id T2))
    exact bodyPost_ret (v := gvV ⟨0, 0, 31⟩) (by simp [results, Try.results11, go_sem, c0, c1, d0, d1, z1]) rfl ⟨rfl, by go_grown⟩
  · rw [h] at KB
    rw [show gain v p f me pe rest told = ⟨0, 0, 10⟩ from by unfold gain; rw [h]; rfl]
    clear h
    go_enter Try.func11, Try.ntmps11
    go_wp2_with (first | (go_at_call 14; refine (KB _).mono ?_; clear KB; rintro e w1 ⟨rfl, hb⟩; have T1 := ((Tri.new w (.int .i64 v) (.int .i64 p) (.int .i64 f) 23).alloc (.cells #[.int .u64 0, .int .u64 0] 31)).below hb; have T2 := ((Two.new (w.alloc (.cells #[.int .i64 v, .int .i64 p, .int .i64 f] 23)) (.int .u64 0) (.int .u64 0) 31).below hb).at (k' := w.heap.size + 1) (by simp); have hB : Below w.heap.size w w1 := Below.trans (by go_grown) (hb.mono (by simp; omega)); clear hb; obtain ⟨a0, a1, a2, b0, b1, b2, z0⟩ := _root_.id T1; obtain ⟨c0, c1, d0, d1, z1⟩ := _root_.id T2))
    exact bodyPost_ret (v := gvV ⟨0, 0, 10⟩) (by simp [results, Try.results11, go_sem, c0, c1, d0, d1, z1]) rfl ⟨rfl, by go_grown⟩
  · rw [show gain v p f me pe rest told = ⟨drH (sq2 v p f me pe rest told) (sq2 (bal v p f me pe rest told).v (bal v p f me pe rest told).p (bal v p f me pe rest told).f me pe rest told), drL (sq2 v p f me pe rest told) (sq2 (bal v p f me pe rest told).v (bal v p f me pe rest told).p (bal v p f me pe rest told).f me pe rest told), 0⟩ from by unfold gain; rw [if_neg (by simp [h])]]
    generalize bal v p f me pe rest told = B at *
    obtain ⟨u, q, g, n, e⟩ := B
    dsimp only at h ⊢
    subst h
    have D1 := sq2_bd v p f me pe rest told
    have D2 := sq2_bd u q g me pe rest told
    obtain ⟨_, _, V1⟩ := val_of D1.1 D1.2
    obtain ⟨_, _, V2⟩ := val_of D2.1 D2.2
    have KD := fun w => rdrop_any (hiW (sq2 v p f me pe rest told)) (lo64 (sq2 v p f me pe rest told)) (hiW (sq2 u q g me pe rest told)) (lo64 (sq2 u q g me pe rest told)) w (hiW_bd _).1 (hiW_bd _).2 (lo64_bd _).1 (lo64_bd _).2 (hiW_bd _).1 (hiW_bd _).2 (lo64_bd _).1 (lo64_bd _).2
    rw [V1, V2] at KD
    clear V1 V2 D1 D2
    have KE1 := fun w => rends_any v p f me pe rest told w
    have KE2 := fun w => rends_any u q g me pe rest told w
    obtain ⟨r1, r2⟩ := ends_rng v p f me pe rest told
    obtain ⟨r3, r4⟩ := ends_rng u q g me pe rest told
    generalize drH (sq2 v p f me pe rest told) (sq2 u q g me pe rest told) = H at *
    generalize drL (sq2 v p f me pe rest told) (sq2 u q g me pe rest told) = L at *
    generalize (!lessB (sq2 v p f me pe rest told) (sq2 u q g me pe rest told)) = bb at *
    unfold sq2 at KD
    generalize ends v p f me pe rest told = E1 at *
    generalize ends u q g me pe rest told = E2 at *
    obtain ⟨x1, x2, x3⟩ := E1
    obtain ⟨y1, y2, y3⟩ := E2
    dsimp only at r1 r2 r3 r4 KD
    have KS1 : ∀ W : World, Calls Try.prog 28 #[.slice (some ⟨W.heap.size, 0, none⟩) 2 2] (W.alloc (.cells #[.int .i64 x1, .int .i64 x2] 2)) fun e w' => e = .returned (wide (hiW (sqs [x1, x2])) (lo64 (sqs [x1, x2]))) ∧ Below (W.alloc (.cells #[.int .i64 x1, .int .i64 x2] 2)).heap.size (W.alloc (.cells #[.int .i64 x1, .int .i64 x2] 2)) w' :=
      fun W => rsquares_any _ _ _ [x1, x2] _ (row_two W x1 x2 (by omega) (by omega) _ rfl)
    have KS2 : ∀ W : World, Calls Try.prog 28 #[.slice (some ⟨W.heap.size, 0, none⟩) 2 2] (W.alloc (.cells #[.int .i64 y1, .int .i64 y2] 2)) fun e w' => e = .returned (wide (hiW (sqs [y1, y2])) (lo64 (sqs [y1, y2]))) ∧ Below (W.alloc (.cells #[.int .i64 y1, .int .i64 y2] 2)).heap.size (W.alloc (.cells #[.int .i64 y1, .int .i64 y2] 2)) w' :=
      fun W => rsquares_any _ _ _ [y1, y2] _ (row_two W y1 y2 (by omega) (by omega) _ rfl)
    generalize hiW (sqs [x1, x2]) = X1 at *
    generalize lo64 (sqs [x1, x2]) = X2 at *
    generalize hiW (sqs [y1, y2]) = Y1 at *
    generalize lo64 (sqs [y1, y2]) = Y2 at *
    clear r1 r2 r3 r4
    go_enter Try.func11, Try.ntmps11
    go_wp2_with (first
      | (go_at_call 14; refine (KB _).mono ?_; clear KB; rintro e w1 ⟨rfl, hb⟩; have T1 := ((Tri.new w (.int .i64 v) (.int .i64 p) (.int .i64 f) 23).alloc (.cells #[.int .u64 0, .int .u64 0] 31)).below hb; have T2 := ((Two.new (w.alloc (.cells #[.int .i64 v, .int .i64 p, .int .i64 f] 23)) (.int .u64 0) (.int .u64 0) 31).below hb).at (k' := w.heap.size + 1) (by simp); have hB : Below w.heap.size w w1 := Below.trans (by go_grown) (hb.mono (by simp; omega)); clear hb; obtain ⟨a0, a1, a2, b0, b1, b2, z0⟩ := _root_.id T1; obtain ⟨c0, c1, d0, d1, z1⟩ := _root_.id T2)
      | (go_at_call 9; refine (KE1 _).mono ?_; clear KE1; rintro e w2 ⟨rfl, hb2⟩; have J2 : GE w v p f w1.heap.size u q g w2 := ⟨(T1.alloc _).below hb2, (T2.alloc _).below hb2, (Tri.new w1 _ _ _ 23).below hb2, (hB.alloc hB.size _).trans (hb2.mono (by have := hB.size; simp; omega))⟩; clear hb2 a0 a1 a2 b0 b1 b2 z0 c0 c1 d0 d1 z1 T1 T2 hB; obtain ⟨a0, a1, a2, b0, b1, b2, z0⟩ := J2.m)
      | (go_at_call 9; refine (KE2 _).mono ?_; clear KE2; rintro e w3 ⟨rfl, hb3⟩; have J3 := J2.below hb3; clear hb3 J2 a0 a1 a2 b0 b1 b2 z0)
      | (go_at_call 28; refine (KS1 w3).mono ?_; clear KS1; rintro e w4 ⟨rfl, hb4⟩; have J4 := (J3.alloc _).below hb4; clear hb4 J3)
      | (go_at_call 28; refine (KS2 w4).mono ?_; clear KS2; rintro e w5 ⟨rfl, hb5⟩; have J5 := (J4.alloc _).below hb5; clear hb5 J4)
      | (go_at_call 27; refine (KD w5).mono ?_; clear KD; rintro e w6 ⟨rfl, hb6⟩; have J6 := J5.below hb6; clear hb6 J5; have hB6 := J6.b; obtain ⟨c0, c1, d0, d1, z1⟩ := J6.o))
    exact bodyPost_ret (v := gvV ⟨H, L, 0⟩) (by simp [results, Try.results11, go_sem, c0, c1, d0, d1, z1]) rfl ⟨rfl, by go_grown⟩
end Go.Proofs.Ytcjdfnfaiocdjaa
