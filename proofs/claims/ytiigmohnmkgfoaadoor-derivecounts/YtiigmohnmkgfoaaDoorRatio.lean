/-
  What Make makes hangs on the ratio alone: plain arithmetic of fractions in lowest terms.
-/
import Derived.Test.YtiigmohnmkgfoaaDoorOps
import Derived.Test.YtiigmohnmkgfoaaDoorValid0
namespace Go.Proofs.YtiigmohnmkgfoaaDoor
set_option linter.unusedVariables false
set_option linter.unusedSimpArgs false

theorem mk_parts (n : Int) {d : Int} (hd : d ≠ 0) : sz n = mkT n d * mkG n d ∧ sz d = mkL n d * mkG n d ∧ Nat.gcd (mkT n d) (mkL n d) = 1 ∧ 0 < mkL n d := by
  have g0 := mkG_pos (n := n) hd
  have d1 : mkG n d ∣ sz n := Nat.gcd_dvd_left _ _
  have d2 : mkG n d ∣ sz d := Nat.gcd_dvd_right _ _
  have e2 : sz d = mkL n d * mkG n d := (Nat.div_mul_cancel d2).symm
  refine ⟨(Nat.div_mul_cancel d1).symm, e2, ?_, ?_⟩
  · show Nat.gcd (sz n / Nat.gcd (sz n) (sz d)) (sz d / Nat.gcd (sz n) (sz d)) = 1
    rw [Nat.gcd_div (Nat.gcd_dvd_left _ _) (Nat.gcd_dvd_right _ _)]
    exact Nat.div_self g0
  · rcases Nat.eq_zero_or_pos (mkL n d) with h | h
    · rw [h, Nat.zero_mul] at e2
      unfold sz at e2
      omega
    · exact h
theorem sign_mul {a b : Int} (ha : a ≠ 0) (hb : b ≠ 0) : 0 < a * b ↔ (a < 0 ↔ b < 0) := by
  rcases Int.lt_or_gt_of_ne ha with h | h <;> rcases Int.lt_or_gt_of_ne hb with k | k
  · have := Int.mul_pos_of_neg_of_neg h k
    simp [h, k, this]
  · have := Int.mul_neg_of_neg_of_pos h k
    constructor
    · intro; omega
    · intro x; omega
  · have := Int.mul_neg_of_pos_of_neg h k
    constructor
    · intro; omega
    · intro x; omega
  · have := Int.mul_pos h k
    constructor
    · intro; omega
    · intro x; omega
theorem mk_ratio {n d n' d' : Int} (hd : d ≠ 0) (hd' : d' ≠ 0) (h : n * d' = n' * d) : mkN n d = mkN n' d' ∧ mkD n d = mkD n' d' ∧ mkE n d = mkE n' d' := by
  obtain ⟨a1, a2, a3, a4⟩ := mk_parts n hd
  obtain ⟨b1, b2, b3, b4⟩ := mk_parts n' hd'
  have g0 := mkG_pos (n := n) hd
  have g1 := mkG_pos (n := n') hd'
  have hz : sz n * sz d' = sz n' * sz d := by
    have := congrArg Int.natAbs h
    rw [Int.natAbs_mul, Int.natAbs_mul] at this
    exact this
  have hTL : mkT n d * mkL n' d' = mkT n' d' * mkL n d := by
    rw [a1, a2, b1, b2] at hz
    have e1 : mkT n d * mkG n d * (mkL n' d' * mkG n' d') = mkT n d * mkL n' d' * (mkG n d * mkG n' d') := by grind
    have e2 : mkT n' d' * mkG n' d' * (mkL n d * mkG n d) = mkT n' d' * mkL n d * (mkG n d * mkG n' d') := by grind
    rw [e1, e2] at hz
    exact Nat.eq_of_mul_eq_mul_right (Nat.mul_pos g0 g1) hz
  have l1 : mkL n d ∣ mkL n' d' := by
    have : mkL n d ∣ mkT n d * mkL n' d' := ⟨mkT n' d', by rw [hTL, Nat.mul_comm]⟩
    exact Nat.Coprime.dvd_of_dvd_mul_left (by rw [Nat.Coprime, Nat.gcd_comm]; exact a3) this
  have l2 : mkL n' d' ∣ mkL n d := by
    have : mkL n' d' ∣ mkT n' d' * mkL n d := ⟨mkT n d, by rw [← hTL, Nat.mul_comm]⟩
    exact Nat.Coprime.dvd_of_dvd_mul_left (by rw [Nat.Coprime, Nat.gcd_comm]; exact b3) this
  have hL : mkL n d = mkL n' d' := Nat.dvd_antisymm l1 l2
  have hT : mkT n d = mkT n' d' := by
    rw [← hL] at hTL
    exact Nat.eq_of_mul_eq_mul_right a4 hTL
  have hE : mkE n d = mkE n' d' := by
    unfold mkE bigB
    rw [if_neg hd, if_neg hd', hT, hL]
  refine ⟨?_, ?_, hE⟩
  · unfold mkN
    rw [hE, hT]
    by_cases hn : n = 0
    · have hn' : n' = 0 := by
        subst hn
        rw [Int.zero_mul] at h
        rcases Int.mul_eq_zero.1 h.symm with x | x
        · exact x
        · exact absurd x hd
      have t0 : mkT n' d' = 0 := by
        unfold mkT
        rw [hn']
        simp [sz]
      rw [t0]
      simp
    · have hn' : n' ≠ 0 := fun e => by
        subst e
        rw [Int.zero_mul] at h
        rcases Int.mul_eq_zero.1 h with x | x
        · exact hn x
        · exact hd' x
      have s1 := sign_mul hn hd'
      have s2 := sign_mul hn' hd
      rw [h] at s1
      have key : (decide (n < 0) = decide (d < 0)) ↔ (decide (n' < 0) = decide (d' < 0)) := by
        by_cases p1 : n < 0 <;> by_cases p2 : d < 0 <;> by_cases p3 : n' < 0 <;> by_cases p4 : d' < 0 <;> simp [p1, p2, p3, p4] at s1 s2 ⊢ <;> omega
      simp only [key]
  · unfold mkD
    rw [hE, hL]
theorem mk_self {n d : Int} (h : validB n d = true) : mkN n d = n ∧ mkD n d = d ∧ mkE n d = 0 := by
  unfold validB at h
  rw [decide_eq_true_eq] at h
  obtain ⟨h1, h2, h3, h4, h5⟩ := h
  have hT : mkT n d = sz n := by unfold mkT; rw [h5, Nat.div_one]
  have hL : mkL n d = sz d := by unfold mkL; rw [h5, Nat.div_one]
  have hE : mkE n d = 0 := by
    unfold mkE bigB
    rw [if_neg (by omega), hT, hL]
    simp
    unfold sz
    omega
  refine ⟨?_, ?_, hE⟩
  · unfold mkN
    rw [if_pos hE, hT]
    unfold sz
    by_cases p : n < 0
    · rw [if_neg (by simp [p]; omega)]; omega
    · rw [if_pos (by simp [p]; omega)]; omega
  · unfold mkD
    rw [if_pos hE, hL]
    unfold sz
    omega
theorem mk_eq {n d : Int} (h : mkE n d = 0) : mkN n d * d = n * mkD n d ∧ 0 < mkD n d := by
  have h0 : d ≠ 0 := fun e => by subst e; simp [mkE] at h
  obtain ⟨a1, a2, a3, a4⟩ := mk_parts n h0
  unfold mkN mkD
  rw [if_pos h, if_pos h]
  refine ⟨?_, by omega⟩
  have e1 : ((sz n : Nat) : Int) = (mkT n d : Int) * (mkG n d : Int) := by rw [a1]; exact Int.natCast_mul _ _
  have e2 : ((sz d : Nat) : Int) = (mkL n d : Int) * (mkG n d : Int) := by rw [a2]; exact Int.natCast_mul _ _
  by_cases p : n < 0 <;> by_cases q : d < 0
  · rw [sz_neg p] at e1; rw [sz_neg q] at e2; simp [p, q]; grind
  · rw [sz_neg p] at e1; rw [sz_pos q] at e2; simp [p, q]; grind
  · rw [sz_pos p] at e1; rw [sz_neg q] at e2; simp [p, q]; grind
  · rw [sz_pos p] at e1; rw [sz_pos q] at e2; simp [p, q]; grind

end Go.Proofs.YtiigmohnmkgfoaaDoor
