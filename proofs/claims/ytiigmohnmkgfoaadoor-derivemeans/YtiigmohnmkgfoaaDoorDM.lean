/-
  What a count is: the whole number nearest to scale / e, of two the greater one; cut over n nodes, and as the estimate rises. Mathematics alone.
-/
import Derived.RowKit
namespace Go.Proofs.YtiigmohnmkgfoaaDoor
set_option linter.unusedVariables false

def cntI (s e : Int) : Int := (2 * s + e) / (2 * e)
theorem cntI_iff {s e k : Int} (he : 0 < e) : cntI s e = k ↔ e * (2 * k - 1) ≤ 2 * s ∧ 2 * s < e * (2 * k + 1) := by
  have h2 : 0 < 2 * e := by omega
  unfold cntI
  have a1 : (2 * s + e) / (2 * e) = k ↔ k * (2 * e) ≤ 2 * s + e ∧ 2 * s + e < (k + 1) * (2 * e) := by
    constructor
    · rintro rfl
      exact ⟨Int.ediv_mul_le _ (by omega), Int.lt_ediv_add_one_mul_self _ h2⟩
    · intro ⟨h, h'⟩
      have u := (Int.le_ediv_iff_mul_le h2).2 h
      have v := (Int.ediv_lt_iff_lt_mul h2).2 h'
      omega
  rw [a1]
  have e1 : k * (2 * e) = 2 * (e * k) := by rw [Int.mul_left_comm, Int.mul_comm k e]
  have e2 : (k + 1) * (2 * e) = 2 * (e * k) + 2 * e := by rw [Int.add_mul, e1, Int.one_mul]
  have e3 : e * (2 * k - 1) = 2 * (e * k) - e := by rw [Int.mul_sub, Int.mul_one, Int.mul_left_comm]
  have e4 : e * (2 * k + 1) = 2 * (e * k) + e := by rw [Int.mul_add, Int.mul_one, Int.mul_left_comm]
  rw [e1, e2, e3, e4]
  omega
/-- P19.7: a unit cut evenly over n nodes counts them, also where a part is one more or less by rounding. -/
theorem cnt_cut {n s x : Int} (hn : 1 ≤ n) (hs : 2 * n * (n + 1) ≤ s)
    (hx : x = s / n ∨ (x = s / n - 1 ∧ s % n = 0) ∨ (x = s / n + 1 ∧ s % n ≠ 0)) : 0 < x ∧ cntI s x = n := by
  obtain ⟨q, hq⟩ : ∃ q, s / n = q := ⟨_, rfl⟩
  obtain ⟨r, hr⟩ : ∃ r, s % n = r := ⟨_, rfl⟩
  have hd : n * q + r = s := by rw [← hq, ← hr]; exact Int.mul_ediv_add_emod s n
  have hr0 : 0 ≤ r := by rw [← hr]; exact Int.emod_nonneg _ (by omega)
  have hr1 : r < n := by rw [← hr]; exact Int.emod_lt_of_pos _ (by omega)
  have hq2 : 2 * (n + 1) ≤ q := by
    rw [← hq]
    refine (Int.le_ediv_iff_mul_le (by omega)).2 ?_
    have : 2 * (n + 1) * n = 2 * n * (n + 1) := by rw [Int.mul_assoc, Int.mul_assoc, Int.mul_comm (n + 1) n]
    omega
  rw [hq, hr] at hx
  have hnq : q * n = n * q := Int.mul_comm _ _
  obtain ⟨p, hp⟩ : ∃ p, n * q = p := ⟨_, rfl⟩
  rw [hp] at hd hnq
  have key : ∀ d : Int, (q + d) * (2 * n - 1) = 2 * p - q + (d * (2 * n) - d) ∧ (q + d) * (2 * n + 1) = 2 * p + q + (d * (2 * n) + d) := fun d => by
    have b1 : q * (2 * n) = 2 * p := by rw [Int.mul_left_comm, hnq]
    refine ⟨?_, ?_⟩
    · rw [Int.mul_sub, Int.mul_one, Int.add_mul, b1]; omega
    · rw [Int.mul_add, Int.mul_one, Int.add_mul, b1]; omega
  rcases hx with rfl | ⟨rfl, h0⟩ | ⟨rfl, h0⟩
  · refine ⟨by omega, (cntI_iff (by omega)).2 ?_⟩
    have := key 0
    simp only [Int.add_zero, Int.zero_mul, Int.sub_zero] at this
    omega
  · refine ⟨by omega, (cntI_iff (by omega)).2 ?_⟩
    have := key (-1)
    rw [← Int.sub_eq_add_neg, Int.neg_mul, Int.one_mul] at this
    omega
  · refine ⟨by omega, (cntI_iff (by omega)).2 ?_⟩
    have := key 1
    rw [Int.one_mul] at this
    omega
/-- P19.9: counts fall as the estimate rises. -/
theorem cnt_falls {s e f : Int} (hs : 0 ≤ s) (he : 0 < e) (hef : e ≤ f) : cntI s f ≤ cntI s e := by
  obtain ⟨k, hk⟩ : ∃ k, cntI s f = k := ⟨_, rfl⟩
  obtain ⟨h1, h2⟩ := (cntI_iff (by omega)).1 hk
  rw [hk]
  have hpos : 0 ≤ cntI s e := by unfold cntI; exact Int.ediv_nonneg (by omega) (by omega)
  by_cases h0 : k ≤ 0
  · omega
  · have hm : e * (2 * k - 1) ≤ f * (2 * k - 1) := Int.mul_le_mul_of_nonneg_right hef (by omega)
    unfold cntI
    refine (Int.le_ediv_iff_mul_le (by omega)).2 ?_
    have e1 : k * (2 * e) = 2 * (e * k) := by rw [Int.mul_left_comm, Int.mul_comm k e]
    have e3 : e * (2 * k - 1) = 2 * (e * k) - e := by rw [Int.mul_sub, Int.mul_one, Int.mul_left_comm]
    omega
end Go.Proofs.YtiigmohnmkgfoaaDoor
