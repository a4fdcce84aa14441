/-
  What the law DeriveRises returns: means rise, counts fall.
-/
import Derived.Test.YtiigmohnmkgfoaaDoorW5a
import Derived.Test.YtiigmohnmkgfoaaDoorW5b
namespace Go.Proofs.YtiigmohnmkgfoaaDoor
open Go.ChangeShapes Go.WideShapes Go.ChangeAt Go.RowKit
set_option linter.unusedVariables false
set_option linter.unusedSimpArgs false

/-- Means rise with the estimate. -/
theorem mea_rise {e f s : Int} (he : chkE e s = 0) (hf : chkE f s = 0) (h : e < f) : meaN e s * meaD f s < meaN f s * meaD e s := by
  obtain ⟨s1, s2, s3⟩ := chk_ok he
  have e0 := mk_small he
  have f0 := mk_small hf
  obtain ⟨a1, a2⟩ := mk_eq e0
  obtain ⟨b1, b2⟩ := mk_eq f0
  unfold meaN meaD
  rw [if_pos he, if_pos he, if_pos hf, if_pos hf]
  obtain ⟨p, hp⟩ : ∃ p, mkN e s = p := ⟨_, rfl⟩
  obtain ⟨q, hq⟩ : ∃ q, mkD e s = q := ⟨_, rfl⟩
  obtain ⟨p', hp'⟩ : ∃ p', mkN f s = p' := ⟨_, rfl⟩
  obtain ⟨q', hq'⟩ : ∃ q', mkD f s = q' := ⟨_, rfl⟩
  rw [hp, hq] at a1
  rw [hq] at a2
  rw [hp', hq'] at b1
  rw [hq'] at b2
  rw [hp, hq, hp', hq']
  have c1 : p * q' * s = e * (q * q') := by rw [Int.mul_right_comm, a1, Int.mul_assoc]
  have c2 : p' * q * s = f * (q * q') := by rw [Int.mul_right_comm, b1, Int.mul_assoc, Int.mul_comm q' q]
  have c3 : 0 < q * q' := Int.mul_pos a2 b2
  have c4 : e * (q * q') < f * (q * q') := Int.mul_lt_mul_of_pos_right h c3
  rw [← c1, ← c2] at c4
  exact Int.lt_of_mul_lt_mul_right c4 (by omega)
theorem cnt_rise {e f s : Int} (he : cntE e s = 0) (hf : cntE f s = 0) (h : e ≤ f) : cntV f s ≤ cntV e s := by
  have z : ∀ x, cntE x s = 0 → chkE x s = 0 ∧ 0 < x := fun x hx => by
    unfold cntE at hx
    by_cases c : chkE x s = 0
    · rw [if_pos c] at hx
      by_cases d : x ≤ 0
      · rw [if_pos d] at hx; cases hx
      · exact ⟨c, by omega⟩
    · rw [if_neg c] at hx; exact absurd hx c
  unfold cntV
  rw [if_pos he, if_pos hf]
  obtain ⟨s1, _, _⟩ := chk_ok (z e he).1
  exact cnt_falls (by omega) (z e he).2 h
theorem mea_val {e s : Int} (h : meaE e s = 0) : chkE e s = 0 ∧ validB (meaN e s) (meaD e s) = true := by
  have hc : chkE e s = 0 := by
    unfold meaE at h
    by_cases c : chkE e s = 0
    · exact c
    · rw [if_neg c] at h; exact absurd h c
  refine ⟨hc, ?_⟩
  have := mk_valid (mk_small hc)
  unfold meaN meaD
  rw [if_pos hc, if_pos hc]
  exact this
theorem rvalid_mea {e s : Int} (h : meaE e s = 0) (W : World) : Calls Tryd.prog 21 #[fr (meaN e s) (meaD e s)] W fun en w' => en = .returned (.bool true) ∧ Below W.heap.size W w' := by
  have i := mea_sm e s
  have c := rvalid_any (meaN e s) (meaD e s) W (sm_i64 i.1).1 (sm_i64 i.1).2 (sm_i64 i.2).1 (sm_i64 i.2).2
  rw [(mea_val h).2] at c
  exact c
theorem rises_walk (e f s : Int) (w : World) (ht : Tab w) : Calls Tryd.prog 7 #[.int .i64 e, .int .i64 f, .int .i64 s] w fun en w' => en = .returned (.bool true) ∧ Below w.heap.size w w' := by
  by_cases d : e = f
  · subst d
    have KL := fun W => mean_any e s W
    have CL := fun W => count_any e s W
    by_cases h : meaE e s = 0
    · have VL := fun W => rvalid_mea h W
      have i := mea_sm e s
      have KC := fun W => rcmp_any (meaN e s) (meaD e s) (meaN e s) (meaD e s) W i.1 i.2 i.1 i.2
      simp only [meaV, h] at KL
      have hc : ¬ 0 < cmpV (meaN e s * meaD e s) (meaN e s * meaD e s) := by unfold cmpV; rw [if_neg (by omega), if_neg (by omega)]; omega
      by_cases x : cntE e s = 0
      · exact rises_eq_c3 e s _ _ _ _ _ _ _ _ _ w ht (by simp [x]) (by simp [x]) (Int.le_refl _) hc KL KL VL VL KC CL CL
      · exact rises_eq_c1 e s _ _ _ _ _ _ _ _ _ w ht (by simp [x]) hc KL KL VL VL KC CL CL
    · exact rises_eq_a e s _ _ _ _ _ _ w ht (by simp [h]) KL KL
  · have hne : (e != f) = true := by simp [d]
    have hlt : min e f < max e f := by omega
    obtain ⟨lo, hlo⟩ : ∃ lo, min e f = lo := ⟨_, rfl⟩
    obtain ⟨hi, hhi⟩ : ∃ hi, max e f = hi := ⟨_, rfl⟩
    have KL := fun W => mean_any (min e f) s W
    have KH := fun W => mean_any (max e f) s W
    have CL := fun W => count_any (min e f) s W
    have CH := fun W => count_any (max e f) s W
    by_cases h : meaE (min e f) s = 0
    · by_cases k : meaE (max e f) s = 0
      · have VL := fun W => rvalid_mea h W
        have VH := fun W => rvalid_mea k W
        have i := mea_sm (min e f) s
        have j := mea_sm (max e f) s
        have KC := fun W => rcmp_any (meaN (min e f) s) (meaD (min e f) s) (meaN (max e f) s) (meaD (max e f) s) W i.1 i.2 j.1 j.2
        simp only [meaV, h] at KL
        simp only [meaV, k] at KH
        have hr := mea_rise (mea_val h).1 (mea_val k).1 hlt
        have hc : ¬ 0 < cmpV (meaN (min e f) s * meaD (max e f) s) (meaN (max e f) s * meaD (min e f) s) := by unfold cmpV; rw [if_pos hr]; omega
        have g : Hid (meaN (min e f) s = meaN (max e f) s → meaD (min e f) s = meaD (max e f) s → False) := fun a b => by
          rw [a, b] at hr
          exact absurd hr (Int.lt_irrefl _)
        by_cases x : cntE (min e f) s = 0
        · by_cases y : cntE (max e f) s = 0
          · exact rises_ne_c3 e f s _ _ _ _ _ _ _ _ _ w ht (by simp [x]) (by simp [y]) (cnt_rise x y (by omega)) hne g hc KL KH VL VH KC CL CH
          · exact rises_ne_c2 e f s _ _ _ _ _ _ _ _ _ w ht (by simp [x]) (by simp [y]) hne g hc KL KH VL VH KC CL CH
        · exact rises_ne_c1 e f s _ _ _ _ _ _ _ _ _ w ht (by simp [x]) hne g hc KL KH VL VH KC CL CH
      · simp only [meaV, h] at KL
        exact rises_ne_b e f s _ _ 0 _ _ _ w ht (by simp [k]) KL KH
    · exact rises_ne_a e f s _ _ _ _ _ _ w ht (by simp [h]) KL KH
end Go.Proofs.YtiigmohnmkgfoaaDoor
