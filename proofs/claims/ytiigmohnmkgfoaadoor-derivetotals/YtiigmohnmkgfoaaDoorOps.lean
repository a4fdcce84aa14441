/-
  What Add, Sub, Mul, Div and Cmp return at parts that are not great, and the document's own answers for them.
-/
import Derived.Test.YtiigmohnmkgfoaaDoorMake
import Derived.WalkLawsBesides
import Derived.Deep.RegionWith
namespace Go.Proofs.YtiigmohnmkgfoaaDoor
open Go.ChangeShapes Go.WideShapes Go.ChangeAt Go.RowKit
set_option linter.unusedVariables false
set_option linter.unusedSimpArgs false

/-- A part that is not great. -/
def Sm (x : Int) : Prop := -2147483647 ≤ x ∧ x ≤ 2147483647
theorem mul_bd {a b : Int} (ha : Sm a) (hb : Sm b) : -4611686014132420609 ≤ a * b ∧ a * b ≤ 4611686014132420609 := by
  obtain ⟨a1, a2⟩ := ha
  obtain ⟨b1, b2⟩ := hb
  have key : ∀ x y : Int, 0 ≤ x → x ≤ 2147483647 → 0 ≤ y → y ≤ 2147483647 → 0 ≤ x * y ∧ x * y ≤ 4611686014132420609 := fun x y h1 h2 h3 h4 =>
    ⟨Int.mul_nonneg h1 h3, by have := Int.mul_le_mul h2 h4 h3 (by omega : (0 : Int) ≤ 2147483647); omega⟩
  rcases Int.le_total 0 a with p | p <;> rcases Int.le_total 0 b with q | q
  · have := key a b p a2 q b2; omega
  · have := key a (-b) p a2 (by omega) (by omega); rw [Int.mul_neg] at this; omega
  · have := key (-a) b (by omega) (by omega) q b2; rw [Int.neg_mul] at this; omega
  · have := key (-a) (-b) (by omega) (by omega) (by omega) (by omega); rw [Int.neg_mul_neg] at this; omega
theorem Sm.neg {a : Int} (h : Sm a) : Sm (-a) := by unfold Sm at *; omega
theorem Sm.zero : Sm 0 := by unfold Sm; omega

theorem Two.drew {W : World} {k : Nat} {v0 v1 : Value} (h : Two W k v0 v1) : Two W.drew k v0 v1 := h
/-- What Make hands back, as a value. -/
abbrev mkV (n d : Int) : Value := .tuple #[fr (mkN n d) (mkD n d), .int .i64 (mkE n d)]
def cmpV (x y : Int) : Int := if x < y then -1 else if y < x then 1 else 0

theorem bigB_n {n d : Int} (h0 : d ≠ 0) (h : mkE n d = 0) : mkT n d ≤ 2147483647 ∧ mkL n d ≤ 2147483647 := by
  unfold mkE at h
  rw [if_neg h0] at h
  by_cases b : bigB n d = true
  · simp [b] at h
  · simp [bigB] at b; exact b
theorem mk_sm (n d : Int) : Sm (mkN n d) ∧ Sm (mkD n d) := by
  by_cases h : mkE n d = 0
  · have h0 : d ≠ 0 := fun e => by subst e; simp [mkE] at h
    have := bigB_n h0 h
    unfold mkN mkD
    simp only [h, if_true]
    unfold Sm
    split <;> omega
  · unfold mkN mkD
    simp only [h, if_false]
    exact ⟨Sm.zero, Sm.zero⟩

set_option maxRecDepth 100000 in
set_option maxHeartbeats 1000000 in
theorem add_any (an ad bn bd : Int) (w : World) (h1 : Sm an) (h2 : Sm ad) (h3 : Sm bn) (h4 : Sm bd) :
    Calls Tryd.prog 48 #[fr an ad, fr bn bd] w fun e w' => e = .returned (mkV (an * bd + bn * ad) (ad * bd)) ∧ Below w.heap.size w w' := by
  obtain ⟨m0, n0⟩ := mul_bd h1 h4
  obtain ⟨m1, n1⟩ := mul_bd h3 h2
  obtain ⟨m2, n2⟩ := mul_bd h2 h4
  obtain ⟨v1, v2⟩ := id h1
  obtain ⟨v3, v4⟩ := id h2
  obtain ⟨v5, v6⟩ := id h3
  obtain ⟨v7, v8⟩ := id h4
  go_enter Tryd.func48, Tryd.ntmps48
  go_wp2_with (go_at_call 24; refine (make_any _ _ _ (by omega) (by omega) (by omega) (by omega)).mono ?_; rintro e w1 ⟨rfl, hb⟩; obtain ⟨q0, q1, f0, f1, z⟩ := ((Two.new _ _ _ _).below hb).at (k' := w.heap.size + 1 + 1) (by simp); have hB : Below w.heap.size w w1 := Below.trans (by go_grown) (hb.mono (by simp; omega)); clear hb)
  exact bodyPost_ret (v := mkV (an * bd + bn * ad) (ad * bd)) (by simp [results, Tryd.results48, go_sem, q0, q1, z]) rfl ⟨rfl, by go_grown⟩

set_option maxRecDepth 100000 in
set_option maxHeartbeats 1000000 in
theorem rsub_any (an ad bn bd : Int) (w : World) (h1 : Sm an) (h2 : Sm ad) (h3 : Sm bn) (h4 : Sm bd) :
    Calls Tryd.prog 39 #[fr an ad, fr bn bd] w fun e w' => e = .returned (mkV (an * bd - bn * ad) (ad * bd)) ∧ Below w.heap.size w w' := by
  obtain ⟨m0, n0⟩ := mul_bd h1 h4
  obtain ⟨m1, n1⟩ := mul_bd h3 h2
  obtain ⟨m2, n2⟩ := mul_bd h2 h4
  obtain ⟨v1, v2⟩ := id h1
  obtain ⟨v3, v4⟩ := id h2
  obtain ⟨v5, v6⟩ := id h3
  obtain ⟨v7, v8⟩ := id h4
  go_enter Tryd.func39, Tryd.ntmps39
  go_wp2_with (go_at_call 27; refine (rmake_any _ _ _ (by omega) (by omega) (by omega) (by omega)).mono ?_; rintro e w1 ⟨rfl, hb⟩; obtain ⟨q0, q1, f0, f1, z⟩ := ((Two.new _ _ _ _).below hb).at (k' := w.heap.size + 1 + 1) (by simp); have hB : Below w.heap.size w w1 := Below.trans (by go_grown) (hb.mono (by simp; omega)); clear hb)
  exact bodyPost_ret (v := mkV (an * bd - bn * ad) (ad * bd)) (by simp [results, Tryd.results39, go_sem, q0, q1, z]) rfl ⟨rfl, by go_grown⟩

set_option maxRecDepth 100000 in
set_option maxHeartbeats 1000000 in
theorem mul_any (an ad bn bd : Int) (w : World) (h1 : Sm an) (h2 : Sm ad) (h3 : Sm bn) (h4 : Sm bd) :
    Calls Tryd.prog 36 #[fr an ad, fr bn bd] w fun e w' => e = .returned (mkV (an * bn) (ad * bd)) ∧ Below w.heap.size w w' := by
  obtain ⟨m0, n0⟩ := mul_bd h1 h3
  obtain ⟨m1, n1⟩ := mul_bd h2 h4
  obtain ⟨v1, v2⟩ := id h1
  obtain ⟨v3, v4⟩ := id h2
  obtain ⟨v5, v6⟩ := id h3
  obtain ⟨v7, v8⟩ := id h4
  go_enter Tryd.func36, Tryd.ntmps36
  go_wp2_with (go_at_call 24; refine (make_any _ _ _ (by omega) (by omega) (by omega) (by omega)).mono ?_; rintro e w1 ⟨rfl, hb⟩; obtain ⟨q0, q1, f0, f1, z⟩ := ((Two.new _ _ _ _).below hb).at (k' := w.heap.size + 1 + 1) (by simp); have hB : Below w.heap.size w w1 := Below.trans (by go_grown) (hb.mono (by simp; omega)); clear hb)
  exact bodyPost_ret (v := mkV (an * bn) (ad * bd)) (by simp [results, Tryd.results36, go_sem, q0, q1, z]) rfl ⟨rfl, by go_grown⟩

set_option maxRecDepth 100000 in
set_option maxHeartbeats 1000000 in
theorem rmul_any (an ad bn bd : Int) (w : World) (h1 : Sm an) (h2 : Sm ad) (h3 : Sm bn) (h4 : Sm bd) :
    Calls Tryd.prog 37 #[fr an ad, fr bn bd] w fun e w' => e = .returned (mkV (an * bn) (ad * bd)) ∧ Below w.heap.size w w' := by
  obtain ⟨m0, n0⟩ := mul_bd h1 h3
  obtain ⟨m1, n1⟩ := mul_bd h2 h4
  obtain ⟨v1, v2⟩ := id h1
  obtain ⟨v3, v4⟩ := id h2
  obtain ⟨v5, v6⟩ := id h3
  obtain ⟨v7, v8⟩ := id h4
  go_enter Tryd.func37, Tryd.ntmps37
  go_wp2_with (go_at_call 27; refine (rmake_any _ _ _ (by omega) (by omega) (by omega) (by omega)).mono ?_; rintro e w1 ⟨rfl, hb⟩; obtain ⟨q0, q1, f0, f1, z⟩ := ((Two.new _ _ _ _).below hb).at (k' := w.heap.size + 1 + 1) (by simp); have hB : Below w.heap.size w w1 := Below.trans (by go_grown) (hb.mono (by simp; omega)); clear hb)
  exact bodyPost_ret (v := mkV (an * bn) (ad * bd)) (by simp [results, Tryd.results37, go_sem, q0, q1, z]) rfl ⟨rfl, by go_grown⟩

set_option maxRecDepth 100000 in
set_option maxHeartbeats 1000000 in
theorem sub_any (an ad bn bd : Int) (w : World) (h1 : Sm an) (h2 : Sm ad) (h3 : Sm bn) (h4 : Sm bd) :
    Calls Tryd.prog 38 #[fr an ad, fr bn bd] w fun e w' => e = .returned (mkV (an * bd - bn * ad) (ad * bd)) ∧ Below w.heap.size w w' := by
  have E : Hid (an * bd + -bn * ad = an * bd - bn * ad) := by show an * bd + -bn * ad = an * bd - bn * ad; rw [Int.neg_mul]; omega
  obtain ⟨v5, v6⟩ := id h3
  go_enter Tryd.func38, Tryd.ntmps38
  go_wp2
  go_region_with (first
    | (go_at_call 44; refine (negative_any _ _ _ (by omega) (by omega)).mono ?_; rintro e w1 ⟨rfl, hb⟩; have T2 : Two w1 (w.heap.size + 1 + 1) (.int .i64 0) (.int .i64 0) := Two.below (by exact (Two.at (Two.new _ _ _ _) (by simp)).drew) hb; have T0 : Two w1 w.heap.size (.int .i64 an) (.int .i64 ad) := Two.below (by exact (((Two.new w _ _ _).alloc _).alloc _).drew) hb; obtain ⟨p0, p1, _, _, _⟩ := id T0; obtain ⟨q0, q1, f0, f1, z⟩ := id T2; have hB : Below w.heap.size w w1 := Below.trans (Below.drew (by go_grown)) (hb.mono (by simp; omega)); clear hb)
    | (go_at_call 48; refine (add_any _ _ _ _ _ h1 h2 h3.neg h4).mono ?_; rintro e w2 ⟨rfl, hb⟩; have T2 := T2.below hb; obtain ⟨q0, q1, f0, f1, z⟩ := id T2; have hB : Below w.heap.size w w2 := hB.trans (hb.mono hB.size); clear hb; rw [E.out]))
  all_goals go_wp2
  all_goals exact bodyPost_ret (v := mkV (an * bd - bn * ad) (ad * bd)) (by simp [results, Tryd.results38, go_sem, q0, q1, z]) rfl ⟨rfl, by go_grown⟩

theorem ret_i64 {a b : Int} (h : a = b) : Ending.returned (.int .i64 a) = .returned (.int .i64 b) := by rw [h]

set_option maxRecDepth 100000 in
set_option maxHeartbeats 1000000 in
theorem rcmp_any (an ad bn bd : Int) (w : World) (h1 : Sm an) (h2 : Sm ad) (h3 : Sm bn) (h4 : Sm bd) :
    Calls Tryd.prog 22 #[fr an ad, fr bn bd] w fun e w' => e = .returned (.int .i64 (cmpV (an * bd) (bn * ad))) ∧ Below w.heap.size w w' := by
  obtain ⟨m0, n0⟩ := mul_bd h1 h4
  obtain ⟨m1, n1⟩ := mul_bd h3 h2
  by_cases c1 : an * bd < bn * ad
  · rw [show cmpV (an * bd) (bn * ad) = -1 by simp [cmpV, c1]]
    go_enter Tryd.func22, Tryd.ntmps22
    go_wp2
    go_ret
    exact ⟨rfl, by go_grown⟩
  · by_cases c2 : bn * ad < an * bd
    · rw [show cmpV (an * bd) (bn * ad) = 1 by simp [cmpV, c1, c2]]
      go_enter Tryd.func22, Tryd.ntmps22
      go_wp2
      go_ret
      exact ⟨rfl, by go_grown⟩
    · rw [show cmpV (an * bd) (bn * ad) = 0 by simp [cmpV, c1, c2]]
      go_enter Tryd.func22, Tryd.ntmps22
      go_wp2
      go_ret
      exact ⟨rfl, by go_grown⟩

end Go.Proofs.YtiigmohnmkgfoaaDoor
