/-
  What the document's own Near returns, and Near itself where no region is drawn.
-/
import Derived.Test.YtonndlhppihdiaaDoorRefSim
namespace Go.Proofs.YtonndlhppihdiaaDoor
open Go.ChangeShapes Go.WideShapes Go.ChangeAt Go.RowKit
set_option linter.unusedVariables false
set_option linter.unusedSimpArgs false

/-- The answer of Near: a fraction, and whether there is one. -/
def NearIs (ln ld hn hd n d : Int) (b : Bool) : Prop :=
  (hn * ld < ln * hd ∧ n = 0 ∧ d = 0 ∧ b = false) ∨
  (ln * hd ≤ hn * ld ∧ ln ≤ 0 ∧ 0 ≤ hn ∧ n = 0 ∧ d = 1 ∧ b = true) ∨
  (ln * hd ≤ hn * ld ∧ hn < 0 ∧ ln < 0 ∧ b = true ∧ ∃ m, n = -m ∧ Sim (-hn) hd (-ln) ld m d) ∨
  (ln * hd ≤ hn * ld ∧ 0 < ln ∧ 0 < hn ∧ b = true ∧ Sim ln ld hn hd n d)
theorem NearIs.none {ln ld hn hd : Int} (h : hn * ld < ln * hd) : NearIs ln ld hn hd 0 0 false := Or.inl ⟨h, rfl, rfl, rfl⟩
theorem NearIs.zero {ln ld hn hd : Int} (h : ln * hd ≤ hn * ld) (h1 : ln ≤ 0) (h2 : 0 ≤ hn) : NearIs ln ld hn hd 0 1 true := Or.inr (Or.inl ⟨h, h1, h2, rfl, rfl, rfl⟩)
theorem NearIs.neg {ln ld hn hd n d : Int} (h : ln * hd ≤ hn * ld) (h1 : hn < 0) (h2 : ln < 0) (s : Sim (-hn) hd (-ln) ld n d) : NearIs ln ld hn hd (-n) d true := Or.inr (Or.inr (Or.inl ⟨h, h1, h2, rfl, n, rfl, s⟩))
theorem NearIs.pos {ln ld hn hd n d : Int} (h : ln * hd ≤ hn * ld) (h1 : 0 < ln) (h2 : 0 < hn) (s : Sim ln ld hn hd n d) : NearIs ln ld hn hd n d true := Or.inr (Or.inr (Or.inr ⟨h, h1, h2, rfl, s⟩))

theorem near_is (ln ld hn hd : Int) (h2 : 0 < ld) (h4 : 0 < hd) : ∃ n d b, NearIs ln ld hn hd n d b := by
  by_cases c : hn * ld < ln * hd
  · exact ⟨_, _, _, .none c⟩
  · have c' : ln * hd ≤ hn * ld := by omega
    by_cases z : ln ≤ 0
    · by_cases y : 0 ≤ hn
      · exact ⟨_, _, _, .zero c' z y⟩
      · have hl : ln < 0 := by
          have k : hn * ld < 0 := Int.mul_neg_of_neg_of_pos (by omega) h2
          have : ln ≠ 0 := fun e => by subst e; simp at c'; omega
          omega
        obtain ⟨n, d, s⟩ := sim_is _ (-hn) hd (-ln) ld (Nat.le_refl _) (by omega) h4 (by omega) h2 (by rw [Int.neg_mul, Int.neg_mul]; omega)
        exact ⟨_, _, _, .neg c' (by omega) hl s⟩
    · have hp : 0 < hn := by
        have k : 0 < ln * hd := Int.mul_pos (by omega) h4
        have : 0 < hn * ld := by omega
        exact Int.pos_of_mul_pos_left this (by omega)
      obtain ⟨n, d, s⟩ := sim_is _ ln ld hn hd (Nat.le_refl _) (by omega) h2 hp h4 c'
      exact ⟨_, _, _, .pos c' (by omega) hp s⟩

abbrev nearV (n d : Int) (b : Bool) : Value := .tuple #[fr n d, .bool b]

set_option maxRecDepth 100000 in
set_option maxHeartbeats 2000000 in
theorem rnear_none (ln ld hn hd v : Int) (hv : 0 < v) (w : World)
    (M : ∀ W, Calls Tryd.prog 23 #[fr ln ld, fr hn hd] W fun e w' => e = .returned (.int .i64 v) ∧ Below W.heap.size W w') :
    Calls Tryd.prog 35 #[fr ln ld, fr hn hd] w fun e w' => e = .returned (nearV 0 0 false) ∧ Below w.heap.size w w' := by
  go_enter Tryd.func35, Tryd.ntmps35
  go_wp2_with (first
    | (go_at_call 23; refine (M _).mono ?_; rintro e w1 ⟨rfl, hb⟩; have T2 : Two w1 (w.heap.size + 1 + 1) (.int .i64 0) (.int .i64 0) := (Two.at (Two.new _ _ _ _) (by simp)).below hb; obtain ⟨r0, r1, g0, g1, gz⟩ := id T2; have hB : Below w.heap.size w w1 := Below.trans (by go_grown) (hb.mono (by simp; omega)); clear hb))
  have T4 := T2.store (.int .i64 0) (.int .i64 0)
  exact bodyPost_ret (v := nearV 0 0 false) (by simp [results, Tryd.results35, go_sem, T4.1, T4.2.1, r0, r1, gz]) rfl ⟨rfl, by go_grown⟩

set_option maxRecDepth 100000 in
set_option maxHeartbeats 2000000 in
theorem rnear_zero (ln ld hn hd v : Int) (hv : ¬ 0 < v) (h1 : ln ≤ 0) (h2 : 0 ≤ hn) (w : World)
    (M : ∀ W, Calls Tryd.prog 23 #[fr ln ld, fr hn hd] W fun e w' => e = .returned (.int .i64 v) ∧ Below W.heap.size W w') :
    Calls Tryd.prog 35 #[fr ln ld, fr hn hd] w fun e w' => e = .returned (nearV 0 1 true) ∧ Below w.heap.size w w' := by
  go_enter Tryd.func35, Tryd.ntmps35
  go_wp2_with (first
    | (go_at_call 23; refine (M _).mono ?_; rintro e w1 ⟨rfl, hb⟩; have T0 : Two w1 w.heap.size (.int .i64 ln) (.int .i64 ld) := (((Two.new w _ _ _).alloc _).alloc _).below hb; have T1 : Two w1 (w.heap.size + 1) (.int .i64 hn) (.int .i64 hd) := ((Two.at (Two.new _ _ _ _) (by simp)).alloc _).below hb; have T2 : Two w1 (w.heap.size + 1 + 1) (.int .i64 0) (.int .i64 0) := (Two.at (Two.new _ _ _ _) (by simp)).below hb; obtain ⟨q0, q1, _, _, _⟩ := id T0; obtain ⟨q2, q3, _, _, _⟩ := id T1; obtain ⟨r0, r1, g0, g1, gz⟩ := id T2; have hB : Below w.heap.size w w1 := Below.trans (by go_grown) (hb.mono (by simp; omega)); clear hb))
  have T4 := T2.store (.int .i64 0) (.int .i64 1)
  exact bodyPost_ret (v := nearV 0 1 true) (by simp [results, Tryd.results35, go_sem, T4.1, T4.2.1, r0, r1, gz]) rfl ⟨rfl, by go_grown⟩

set_option maxRecDepth 100000 in
set_option maxHeartbeats 2000000 in
theorem rnear_neg (ln ld hn hd v n d : Int) (hv : ¬ 0 < v) (h1 : ln ≤ 0) (h2 : hn < 0) (b1 : -2147483647 ≤ ln) (b2 : -2147483647 ≤ hn) (b3 : 0 ≤ n) (b4 : n ≤ 2147483647) (w : World)
    (M : ∀ W, Calls Tryd.prog 23 #[fr ln ld, fr hn hd] W fun e w' => e = .returned (.int .i64 v) ∧ Below W.heap.size W w')
    (S : ∀ W, Calls Tryd.prog 47 #[fr (-hn) hd, fr (-ln) ld] W fun e w' => e = .returned (fr n d) ∧ Below W.heap.size W w') :
    Calls Tryd.prog 35 #[fr ln ld, fr hn hd] w fun e w' => e = .returned (nearV (-n) d true) ∧ Below w.heap.size w w' := by
  go_enter Tryd.func35, Tryd.ntmps35
  go_wp2_with (first
    | (go_at_call 23; refine (M _).mono ?_; rintro e w1 ⟨rfl, hb⟩; have T0 : Two w1 w.heap.size (.int .i64 ln) (.int .i64 ld) := (((Two.new w _ _ _).alloc _).alloc _).below hb; have T1 : Two w1 (w.heap.size + 1) (.int .i64 hn) (.int .i64 hd) := ((Two.at (Two.new _ _ _ _) (by simp)).alloc _).below hb; have T2 : Two w1 (w.heap.size + 1 + 1) (.int .i64 0) (.int .i64 0) := (Two.at (Two.new _ _ _ _) (by simp)).below hb; obtain ⟨q0, q1, _, _, _⟩ := id T0; obtain ⟨q2, q3, _, _, _⟩ := id T1; have hB : Below w.heap.size w w1 := Below.trans (by go_grown) (hb.mono (by simp; omega)); clear hb)
    | (go_at_call 47; refine (S _).mono ?_; rintro e w4 ⟨rfl, hb4⟩; replace T2 := T2.below hb4; obtain ⟨t0, t1, g0, g1, gz⟩ := id T2; replace hB := hB.trans (hb4.mono hB.size); clear hb4))
  have T5 := (T2.alloc (.cells #[.int .i64 n, .int .i64 d] 23)).store (.int .i64 (-n)) (.int .i64 d)
  have T6 := (T2.store (.int .i64 (-n)) (.int .i64 d)).alloc (.cells #[.int .i64 n, .int .i64 d] 23)
  exact bodyPost_ret (v := nearV (-n) d true) (by simp [results, Tryd.results35, go_sem, T5.1, T5.2.1, T6.1, T6.2.1, gz]) rfl ⟨rfl, by go_grown⟩

set_option maxRecDepth 100000 in
set_option maxHeartbeats 2000000 in
theorem rnear_pos (ln ld hn hd v n d : Int) (hv : ¬ 0 < v) (h1 : ¬ ln ≤ 0) (h2 : ¬ hn < 0) (w : World)
    (M : ∀ W, Calls Tryd.prog 23 #[fr ln ld, fr hn hd] W fun e w' => e = .returned (.int .i64 v) ∧ Below W.heap.size W w')
    (S : ∀ W, Calls Tryd.prog 47 #[fr ln ld, fr hn hd] W fun e w' => e = .returned (fr n d) ∧ Below W.heap.size W w') :
    Calls Tryd.prog 35 #[fr ln ld, fr hn hd] w fun e w' => e = .returned (nearV n d true) ∧ Below w.heap.size w w' := by
  go_enter Tryd.func35, Tryd.ntmps35
  go_wp2_with (first
    | (go_at_call 23; refine (M _).mono ?_; rintro e w1 ⟨rfl, hb⟩; have T0 : Two w1 w.heap.size (.int .i64 ln) (.int .i64 ld) := (((Two.new w _ _ _).alloc _).alloc _).below hb; have T1 : Two w1 (w.heap.size + 1) (.int .i64 hn) (.int .i64 hd) := ((Two.at (Two.new _ _ _ _) (by simp)).alloc _).below hb; have T2 : Two w1 (w.heap.size + 1 + 1) (.int .i64 0) (.int .i64 0) := (Two.at (Two.new _ _ _ _) (by simp)).below hb; obtain ⟨q0, q1, _, _, _⟩ := id T0; obtain ⟨q2, q3, _, _, _⟩ := id T1; have hB : Below w.heap.size w w1 := Below.trans (by go_grown) (hb.mono (by simp; omega)); clear hb)
    | (go_at_call 47; refine (S _).mono ?_; rintro e w4 ⟨rfl, hb4⟩; replace T2 := T2.below hb4; obtain ⟨t0, t1, g0, g1, gz⟩ := id T2; replace hB := hB.trans (hb4.mono hB.size); clear hb4))
  have T5 := T2.store (.int .i64 n) (.int .i64 d)
  exact bodyPost_ret (v := nearV n d true) (by simp [results, Tryd.results35, go_sem, T5.1, T5.2.1, gz]) rfl ⟨rfl, by go_grown⟩

set_option maxRecDepth 100000 in
set_option maxHeartbeats 2000000 in
theorem near_none (ln ld hn hd v : Int) (hv : 0 < v) (w : World)
    (M : ∀ W, Calls Tryd.prog 22 #[fr ln ld, fr hn hd] W fun e w' => e = .returned (.int .i64 v) ∧ Below W.heap.size W w') :
    Calls Tryd.prog 34 #[fr ln ld, fr hn hd] w fun e w' => e = .returned (nearV 0 0 false) ∧ Below w.heap.size w w' := by
  go_enter Tryd.func34, Tryd.ntmps34
  go_wp2_with (first
    | (go_at_call 22; refine (M _).mono ?_; rintro e w1 ⟨rfl, hb⟩; have T2 : Two w1 (w.heap.size + 1 + 1) (.int .i64 0) (.int .i64 0) := (Two.at (Two.new _ _ _ _) (by simp)).below hb; obtain ⟨r0, r1, g0, g1, gz⟩ := id T2; have hB : Below w.heap.size w w1 := Below.trans (by go_grown) (hb.mono (by simp; omega)); clear hb))
  have T4 := T2.store (.int .i64 0) (.int .i64 0)
  exact bodyPost_ret (v := nearV 0 0 false) (by simp [results, Tryd.results34, go_sem, T4.1, T4.2.1, r0, r1, gz]) rfl ⟨rfl, by go_grown⟩

set_option maxRecDepth 100000 in
set_option maxHeartbeats 2000000 in
theorem near_zero (ln ld hn hd v : Int) (hv : ¬ 0 < v) (h1 : ln ≤ 0) (h2 : 0 ≤ hn) (w : World)
    (M : ∀ W, Calls Tryd.prog 22 #[fr ln ld, fr hn hd] W fun e w' => e = .returned (.int .i64 v) ∧ Below W.heap.size W w') :
    Calls Tryd.prog 34 #[fr ln ld, fr hn hd] w fun e w' => e = .returned (nearV 0 1 true) ∧ Below w.heap.size w w' := by
  go_enter Tryd.func34, Tryd.ntmps34
  go_wp2_with (first
    | (go_at_call 22; refine (M _).mono ?_; rintro e w1 ⟨rfl, hb⟩; have T0 : Two w1 w.heap.size (.int .i64 ln) (.int .i64 ld) := (((Two.new w _ _ _).alloc _).alloc _).below hb; have T1 : Two w1 (w.heap.size + 1) (.int .i64 hn) (.int .i64 hd) := ((Two.at (Two.new _ _ _ _) (by simp)).alloc _).below hb; have T2 : Two w1 (w.heap.size + 1 + 1) (.int .i64 0) (.int .i64 0) := (Two.at (Two.new _ _ _ _) (by simp)).below hb; obtain ⟨q0, q1, _, _, _⟩ := id T0; obtain ⟨q2, q3, _, _, _⟩ := id T1; obtain ⟨r0, r1, g0, g1, gz⟩ := id T2; have hB : Below w.heap.size w w1 := Below.trans (by go_grown) (hb.mono (by simp; omega)); clear hb))
  have T4 := T2.store (.int .i64 0) (.int .i64 1)
  exact bodyPost_ret (v := nearV 0 1 true) (by simp [results, Tryd.results34, go_sem, T4.1, T4.2.1, r0, r1, gz]) rfl ⟨rfl, by go_grown⟩

theorem rnear_any {ln ld hn hd n d : Int} {b : Bool} (N : NearIs ln ld hn hd n d b) (w : World) (h1 : Sm ln) (h2 : 0 < ld) (h2' : ld ≤ 2147483647) (h3 : Sm hn) (h4 : 0 < hd) (h4' : hd ≤ 2147483647) :
    Calls Tryd.prog 35 #[fr ln ld, fr hn hd] w fun e w' => e = .returned (nearV n d b) ∧ Below w.heap.size w w' := by
  have M := fun W => rcmp_any ln ld hn hd W h1 ⟨by omega, h2'⟩ h3 ⟨by omega, h4'⟩
  unfold Sm at h1 h3
  rcases N with ⟨h, rfl, rfl, rfl⟩ | ⟨h, k1, k2, rfl, rfl, rfl⟩ | ⟨h, k1, k2, rfl, n, rfl, s⟩ | ⟨h, k1, k2, rfl, s⟩
  · exact rnear_none _ _ _ _ _ (by unfold cmpV; rw [if_neg (by omega), if_pos h]; omega) w M
  · exact rnear_zero _ _ _ _ _ (by unfold cmpV; split <;> (try split) <;> omega) k1 k2 w M
  · have hq : -hn * ld ≤ -ln * hd := by rw [Int.neg_mul, Int.neg_mul]; omega
    have I := sim_in s (by omega) h4 (by omega) h2 hq
    exact rnear_neg _ _ _ _ _ _ _ (by unfold cmpV; split <;> (try split) <;> omega) (by omega) k1 (by omega) (by omega) (by omega) (by omega) w M (rsim_any s (by omega) h4 (by omega) h2 hq (by omega) h4' (by omega) h2')
  · exact rnear_pos _ _ _ _ _ _ _ (by unfold cmpV; split <;> (try split) <;> omega) (by omega) (by omega) w M (rsim_any s k1 h2 k2 h4 h (by omega) h2' (by omega) h4')

end Go.Proofs.YtonndlhppihdiaaDoor
