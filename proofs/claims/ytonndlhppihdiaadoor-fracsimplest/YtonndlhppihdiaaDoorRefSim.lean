/-
  What the document's own simplest returns.
-/
import Derived.Test.YtonndlhppihdiaaDoorSim
namespace Go.Proofs.YtonndlhppihdiaaDoor
open Go.ChangeShapes Go.WideShapes Go.ChangeAt Go.RowKit
set_option linter.unusedVariables false
set_option linter.unusedSimpArgs false

set_option maxRecDepth 100000 in
set_option maxHeartbeats 2000000 in
theorem rsim_whole (ln ld hn hd cc : Int) (v : Int) (hv : v ≤ 0) (w : World) (b1 : -2147483647 ≤ cc) (b2 : cc ≤ 2147483647)
    (C : ∀ W, Calls Tryd.prog 27 #[fr ln ld] W fun e w' => e = .returned (.int .i64 cc) ∧ Below W.heap.size W w')
    (M : ∀ W, Calls Tryd.prog 23 #[fr cc 1, fr hn hd] W fun e w' => e = .returned (.int .i64 v) ∧ Below W.heap.size W w') :
    Calls Tryd.prog 47 #[fr ln ld, fr hn hd] w fun e w' => e = .returned (fr cc 1) ∧ Below w.heap.size w w' := by
  go_enter Tryd.func47, Tryd.ntmps47
  go_wp2_with (first
    | (go_at_call 27; refine (C _).mono ?_; rintro e w1 ⟨rfl, hb⟩; have T0 : Two w1 w.heap.size (.int .i64 ln) (.int .i64 ld) := (((Two.new w _ _ _).alloc _).alloc _).below hb; have T1 : Two w1 (w.heap.size + 1) (.int .i64 hn) (.int .i64 hd) := ((Two.at (Two.new _ _ _ _) (by simp)).alloc _).below hb; have T2 : Two w1 (w.heap.size + 1 + 1) (.int .i64 0) (.int .i64 0) := (Two.at (Two.new _ _ _ _) (by simp)).below hb; obtain ⟨q0, q1, _, _, _⟩ := id T0; obtain ⟨q2, q3, _, _, _⟩ := id T1; have hB : Below w.heap.size w w1 := Below.trans (by go_grown) (hb.mono (by simp; omega)); clear hb)
    | (go_at_call 23; refine (M _).mono ?_; rintro e w2 ⟨rfl, hb2⟩; have T3 := T2.below hb2; obtain ⟨r0, r1, g0, g1, gz⟩ := id T3; have hB2 : Below w.heap.size w w2 := hB.trans (hb2.mono hB.size)))
  have T4 := T3.store (.int .i64 cc) (.int .i64 1)
  exact bodyPost_ret (v := fr cc 1) (by simp [results, Tryd.results47, go_sem, T4.1, T4.2.1, r0, r1, gz]) rfl ⟨rfl, by go_grown⟩

set_option maxRecDepth 100000 in
set_option maxHeartbeats 2000000 in
theorem rsim_step (ln ld hn hd cc q x y n d : Int) (v : Int) (hv : ¬ v ≤ 0) (w : World) (b1 : -2147483648 ≤ cc) (b2 : cc ≤ 2147483648) (q1 : 0 ≤ q) (q2 : q ≤ 2147483647)
    (x1 : -9223372036854775808 ≤ q * hd) (x2 : q * hd ≤ 9223372036854775807) (x3 : hn - q * hd = x) (x4 : 0 ≤ x) (x5 : x ≤ 2147483647)
    (y1 : -9223372036854775808 ≤ q * ld) (y2 : q * ld ≤ 9223372036854775807) (y3 : ln - q * ld = y) (y4 : 0 ≤ y) (y5 : y ≤ 2147483647)
    (z1 : -9223372036854775808 ≤ q * n) (z2 : q * n ≤ 9223372036854775807) (z3 : -9223372036854775808 ≤ q * n + d) (z4 : q * n + d ≤ 9223372036854775807)
    (C : ∀ W, Calls Tryd.prog 27 #[fr ln ld] W fun e w' => e = .returned (.int .i64 cc) ∧ Below W.heap.size W w')
    (M : ∀ W, Calls Tryd.prog 23 #[fr cc 1, fr hn hd] W fun e w' => e = .returned (.int .i64 v) ∧ Below W.heap.size W w')
    (F : ∀ W, Calls Tryd.prog 25 #[fr ln ld] W fun e w' => e = .returned (.int .i64 q) ∧ Below W.heap.size W w')
    (S : ∀ W, Calls Tryd.prog 47 #[fr hd x, fr ld y] W fun e w' => e = .returned (fr n d) ∧ Below W.heap.size W w') :
    Calls Tryd.prog 47 #[fr ln ld, fr hn hd] w fun e w' => e = .returned (fr (q * n + d) n) ∧ Below w.heap.size w w' := by
  go_enter Tryd.func47, Tryd.ntmps47
  go_wp2_with (first
    | (go_at_call 27; refine (C _).mono ?_; rintro e w1 ⟨rfl, hb⟩; have T0 : Two w1 w.heap.size (.int .i64 ln) (.int .i64 ld) := (((Two.new w _ _ _).alloc _).alloc _).below hb; have T1 : Two w1 (w.heap.size + 1) (.int .i64 hn) (.int .i64 hd) := ((Two.at (Two.new _ _ _ _) (by simp)).alloc _).below hb; have T2 : Two w1 (w.heap.size + 1 + 1) (.int .i64 0) (.int .i64 0) := (Two.at (Two.new _ _ _ _) (by simp)).below hb; obtain ⟨p0, p1, _, _, _⟩ := id T0; obtain ⟨p2, p3, _, _, _⟩ := id T1; have hB : Below w.heap.size w w1 := Below.trans (by go_grown) (hb.mono (by simp; omega)); clear hb)
    | (go_at_call 23; refine (M _).mono ?_; rintro e w2 ⟨rfl, hb2⟩; replace T0 := T0.below hb2; replace T1 := T1.below hb2; replace T2 := T2.below hb2; obtain ⟨r0, r1, _, _, _⟩ := id T0; obtain ⟨r2, r3, _, _, _⟩ := id T1; replace hB := hB.trans (hb2.mono hB.size); clear hb2)
    | (go_at_call 25; refine (F _).mono ?_; rintro e w3 ⟨rfl, hb3⟩; replace T0 := T0.below hb3; replace T1 := T1.below hb3; replace T2 := T2.below hb3; obtain ⟨s0, s1, _, _, _⟩ := id T0; obtain ⟨s2, s3, _, _, _⟩ := id T1; replace hB := hB.trans (hb3.mono hB.size); clear hb3)
    | (go_at_call 47; refine (S _).mono ?_; rintro e w4 ⟨rfl, hb4⟩; replace T2 := T2.below hb4; obtain ⟨t0, t1, g0, g1, gz⟩ := id T2; replace hB := hB.trans (hb4.mono hB.size); clear hb4))
  have T5 := (T2.alloc (.cells #[.int .i64 n, .int .i64 d] 23)).store (.int .i64 (q * n + d)) (.int .i64 n)
  have T6 := (T2.store (.int .i64 (q * n + d)) (.int .i64 n)).alloc (.cells #[.int .i64 n, .int .i64 d] 23)
  exact bodyPost_ret (v := fr (q * n + d) n) (by simp [results, Tryd.results47, go_sem, T5.1, T5.2.1, T6.1, T6.2.1, gz]) rfl ⟨rfl, by go_grown⟩

theorem rsim_any {ln ld hn hd n d : Int} (s : Sim ln ld hn hd n d) : 0 < ln → 0 < ld → 0 < hn → 0 < hd → ln * hd ≤ hn * ld → ln ≤ 2147483647 → ld ≤ 2147483647 → hn ≤ 2147483647 → hd ≤ 2147483647 →
    ∀ w, Calls Tryd.prog 47 #[fr ln ld, fr hn hd] w fun e w' => e = .returned (fr n d) ∧ Below w.heap.size w w' := by
  refine Sim.ind (M := fun ln ld hn hd n d => 0 < ln → 0 < ld → 0 < hn → 0 < hd → ln * hd ≤ hn * ld → ln ≤ 2147483647 → ld ≤ 2147483647 → hn ≤ 2147483647 → hd ≤ 2147483647 → ∀ w, Calls Tryd.prog 47 #[fr ln ld, fr hn hd] w fun e w' => e = .returned (fr n d) ∧ Below w.heap.size w w') ?_ ?_ s
  · clear s
    intro ln ld hn hd c
    intro h1 h2 h3 h4 h5 l1 l2 l3 l4 w
    obtain ⟨⟨i1, i2, i3⟩, _⟩ := sim_in (.whole c) h1 h2 h3 h4 h5
    have C := fun W => rceil_any ln ld W (by unfold Sm; omega) h2 l2
    have M := fun W => rcmp_any (-(-ln / ld)) 1 hn hd W (by unfold Sm; omega) (by unfold Sm; omega) (by unfold Sm; omega) (by unfold Sm; omega)
    exact rsim_whole _ _ _ _ _ _ (by unfold cmpV; split <;> (try split) <;> omega) w (by omega) (by omega) C M
  · clear s
    intro ln ld hn hd n d c s ih
    intro h1 h2 h3 h4 h5 l1 l2 l3 l4 w
    obtain ⟨⟨i1, i2, i3⟩, _⟩ := sim_in (.step c s) h1 h2 h3 h4 h5
    obtain ⟨b0, b1, b2, b3, b4, b5, b6, b7, b8⟩ := sim_base h1 h2 h3 h4 h5 c
    rw [b1, b5] at ih s
    obtain ⟨⟨n1, n2, n3⟩, ⟨d1, d2, d3⟩, g, r1, r2⟩ := sim_in s h4 b6 h2 b2 b8
    have S := ih h4 b6 h2 b2 b8 l4 (by omega) l2 (by omega)
    have hc : -(-ln / ld) = ln / ld + 1 := by rcases up_div ln h2 with ⟨u1, u2⟩ | ⟨u1, u2⟩ <;> omega
    have k1 : ln / ld * 1 ≤ ln / ld * ld := Int.mul_le_mul_of_nonneg_left (by omega) b0
    have k2 : 0 ≤ ln / ld * hd := Int.mul_nonneg b0 (by omega)
    have k3 : 0 ≤ ln / ld * n := Int.mul_nonneg b0 (by omega)
    have C := fun W => rceil_any ln ld W (by unfold Sm; omega) h2 l2
    have M := fun W => rcmp_any (-(-ln / ld)) 1 hn hd W (by unfold Sm; omega) (by unfold Sm; omega) (by unfold Sm; omega) (by unfold Sm; omega)
    have F := fun W => rfloor_any ln ld W (by unfold Sm; omega) h2 l2
    exact rsim_step ln ld hn hd _ _ _ _ n d _ (by unfold cmpV; rw [if_neg (by omega), if_pos (by omega)]; omega) w (by omega) (by omega) b0 (by omega)
      (by omega) (by omega) b5 (by omega) (by omega) (by omega) (by omega) b1 (by omega) (by omega) (by omega) (by omega) (by omega) (by omega) C M F S

end Go.Proofs.YtonndlhppihdiaaDoor
