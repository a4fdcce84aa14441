/-
  The law FracSimplest, walked at every input.
-/
import Derived.Test.YtonndlhppihdiaaDoorNearWalk
import Derived.Test.YtonndlhppihdiaaDoorSimplA
import Derived.Test.YtonndlhppihdiaaDoorSimplB
namespace Go.Proofs.YtonndlhppihdiaaDoor
open Go.ChangeShapes Go.WideShapes Go.ChangeAt Go.RowKit
set_option linter.unusedVariables false
set_option linter.unusedSimpArgs false

/-- Where what Near found lies, that it is valid, and that none of the range is simpler. -/
theorem near_least {an ad bn bd p q : Int} {b : Bool} (N : NearIs an ad bn bd p q b) (h1 : Sm an) (h2 : 0 < ad) (h2' : ad ≤ 2147483647) (h3 : Sm bn) (h4 : 0 < bd) (h4' : bd ≤ 2147483647) (h : an * bd ≤ bn * ad) :
    b = true ∧ validB p q = true ∧ an * q ≤ p * ad ∧ p * bd ≤ bn * q ∧
      ∀ gn gd : Int, 0 < gd → an * gd ≤ gn * ad → gn * bd ≤ bn * gd → q < gd ∨ q = gd ∧ max p (-p) ≤ max gn (-gn) := by
  unfold Sm at h1 h3
  rcases N with ⟨k, rfl, rfl, rfl⟩ | ⟨k, k1, k2, rfl, rfl, rfl⟩ | ⟨k, k1, k2, rfl, n, rfl, s⟩ | ⟨k, k1, k2, rfl, s⟩
  · omega
  · refine ⟨rfl, by decide, by have := Int.mul_nonneg (by omega : 0 ≤ -an) (by omega : (0 : Int) ≤ 1); omega, by omega, fun gn gd hg r1 r2 => ?_⟩
    by_cases e : 1 < gd
    · exact .inl e
    · refine .inr ⟨by omega, ?_⟩
      omega
  · have hq : -bn * ad ≤ -an * bd := by rw [Int.neg_mul, Int.neg_mul]; omega
    obtain ⟨⟨i1, i2, i3⟩, ⟨j1, j2, j3⟩, g, r1, r2⟩ := sim_in s (by omega) h4 (by omega) h2 hq
    rw [Int.neg_mul] at r1 r2
    refine ⟨rfl, valid_of (by unfold Sm; omega) j1 (by omega) (by unfold mkG sz at g ⊢; rw [Int.natAbs_neg]; exact g), by rw [Int.neg_mul]; omega, by rw [Int.neg_mul]; omega, fun gn gd hg t1 t2 => ?_⟩
    have hgn : 0 < -gn := by
      have x : bn * gd < 0 := Int.mul_neg_of_neg_of_pos k1 hg
      have y : gn * bd < 0 := by omega
      have : ¬ 0 ≤ gn := fun z => by have := Int.mul_nonneg z (by omega : 0 ≤ bd); omega
      omega
    have L := sim_least s (by omega) h4 (by omega) h2 hq (-gn) gd hgn hg (by rw [Int.neg_mul, Int.neg_mul]; omega) (by rw [Int.neg_mul, Int.neg_mul]; omega)
    by_cases e : q < gd
    · exact .inl e
    · refine .inr ⟨by omega, ?_⟩
      omega
  · obtain ⟨⟨i1, i2, i3⟩, ⟨j1, j2, j3⟩, g, r1, r2⟩ := sim_in s k1 h2 k2 h4 k
    refine ⟨rfl, valid_of (by unfold Sm; omega) j1 (by omega) g, r1, r2, fun gn gd hg t1 t2 => ?_⟩
    have hgn : 0 < gn := by
      have x : 0 < an * gd := Int.mul_pos k1 hg
      have y : 0 < gn * ad := by omega
      exact Int.pos_of_mul_pos_left y (by omega)
    have L := sim_least s k1 h2 k2 h4 k gn gd hgn hg t1 t2
    by_cases e : q < gd
    · exact .inl e
    · refine .inr ⟨by omega, ?_⟩
      omega

theorem cmp_neg {x y : Int} : cmpV x y < 0 ↔ x < y := by unfold cmpV; split <;> (try split) <;> omega
theorem cmp_pos {x y : Int} : 0 < cmpV x y ↔ y < x := by unfold cmpV; split <;> (try split) <;> omega

theorem simpl_walk (an ad bn bd n d : Int) (w : World) (h1 : I64 an) (h2 : I64 ad) (h3 : I64 bn) (h4 : I64 bd) (h5 : I64 n) (h6 : I64 d) (ht : Tab w) :
    Calls Tryd.prog 8 #[fr an ad, fr bn bd, .int .i64 n, .int .i64 d] w fun e w' => e = .returned (.bool true) ∧ Below w.heap.size w w' := by
  have VA := fun W => rvalid_any an ad W h1.1 h1.2 h2.1 h2.2
  have VB := fun W => rvalid_any bn bd W h3.1 h3.2 h4.1 h4.2
  cases va : validB an ad with
  | false =>
    rw [va] at VA
    exact simpl_a an ad bn bd n d w ht VA
  | true =>
  rw [va] at VA
  cases vb : validB bn bd with
  | false =>
    rw [vb] at VB
    exact simpl_b an ad bn bd n d w ht VA VB
  | true =>
  rw [vb] at VB
  obtain ⟨s1, p1, q1, g1⟩ := valid_parts va
  obtain ⟨s2, p2, q2, g2⟩ := valid_parts vb
  have t1 : Sm ad := ⟨by omega, q1⟩
  have t2 : Sm bd := ⟨by omega, q2⟩
  have C0 := fun W => cmp_any an ad bn bd W s1 t1 s2 t2
  by_cases c : bn * ad < an * bd
  · exact simpl_c an ad bn bd n d _ w ht (cmp_pos.2 c) VA VB C0
  obtain ⟨p, q, b, N⟩ := near_is an ad bn bd p1 p2
  obtain ⟨rfl, vf, r1, r2, LE⟩ := near_least N s1 p1 q1 s2 p2 q2 (by omega)
  have P := fun W hT => near_any N W hT s1 p1 q1 s2 p2 q2
  obtain ⟨s3, p3, q3, g3⟩ := valid_parts vf
  have t3 : Sm q := ⟨by omega, q3⟩
  have VF := fun W => rvalid_any p q W (by unfold Sm at s3; omega) (by unfold Sm at s3; omega) (by omega) (by omega)
  rw [vf] at VF
  have C1 := fun W => cmp_any p q an ad W s3 t3 s1 t1
  have C2 := fun W => cmp_any p q bn bd W s3 t3 s2 t2
  have MK := fun W => make_any n d W h5.1 h5.2 h6.1 h6.2
  have e0 : ¬ 0 < cmpV (an * bd) (bn * ad) := by rw [cmp_pos]; exact c
  have e1 : ¬ cmpV (p * ad) (an * q) < 0 := by rw [cmp_neg]; omega
  have e2 : ¬ 0 < cmpV (p * bd) (bn * q) := by rw [cmp_pos]; omega
  by_cases he : mkE n d = 0
  · have vg := mk_valid he
    obtain ⟨s4, p4, q4, g4⟩ := valid_parts vg
    rw [he] at MK
    have t4 : Sm (mkD n d) := ⟨by omega, q4⟩
    have C3 := fun W => cmp_any (mkN n d) (mkD n d) an ad W s4 t4 s1 t1
    have C4 := fun W => cmp_any (mkN n d) (mkD n d) bn bd W s4 t4 s2 t2
    by_cases c3 : mkN n d * ad < an * mkD n d
    · exact simpl_d2 an ad bn bd n d p q _ _ _ _ _ _ w ht e0 e1 e2 VA VB C0 P VF C1 C2 MK (cmp_neg.2 c3) C3
    · have e3 : ¬ cmpV (mkN n d * ad) (an * mkD n d) < 0 := by rw [cmp_neg]; exact c3
      by_cases c4 : bn * mkD n d < mkN n d * bd
      · exact simpl_d3 an ad bn bd n d p q _ _ _ _ _ _ _ w ht e0 e1 e2 VA VB C0 P VF C1 C2 MK e3 (cmp_pos.2 c4) C3 C4
      · have e4 : ¬ 0 < cmpV (mkN n d * bd) (bn * mkD n d) := by rw [cmp_pos]; exact c4
        rcases LE (mkN n d) (mkD n d) p4 (by omega) (by omega) with L | ⟨L1, L2⟩
        · exact simpl_d4 an ad bn bd n d p q _ _ _ _ _ _ _ w ht e0 e1 e2 VA VB C0 P VF C1 C2 MK e3 e4 L C3 C4
        · subst L1
          unfold Sm at s3 s4
          exact simpl_d5 an ad bn bd n d p _ _ _ _ _ _ _ w ht e0 e1 e2 VA VB C0 P VF C1 C2 MK e3 e4 s4.1 s4.2 s3.1 s3.2 L2 C3 C4
  · exact simpl_d1 an ad bn bd n d p q _ _ _ _ _ _ w ht e0 e1 e2 VA VB C0 P VF C1 C2 MK (by simpa using he)

end Go.Proofs.YtonndlhppihdiaaDoor
