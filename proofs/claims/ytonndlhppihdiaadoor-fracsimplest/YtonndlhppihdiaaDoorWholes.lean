/-
  What Ceil and Round return, and the document's own answers for Floor, Ceil and Round.
-/
import Derived.Test.YtonndlhppihdiaaDoorFloor
import Derived.Test.YtonndlhppihdiaaDoorOps
namespace Go.Proofs.YtonndlhppihdiaaDoor
open Go.ChangeShapes Go.WideShapes Go.ChangeAt Go.RowKit
set_option linter.unusedVariables false
set_option linter.unusedSimpArgs false

theorem fl_bd {n d : Int} (h : Sm n) (hd : 0 < d) : -2147483647 ≤ n / d ∧ n / d ≤ 2147483647 := by
  have q := div_bd n hd
  unfold Sm at h
  omega
def roU (n d : Int) : Int := (2 * n + d) / (2 * d)
def roV (n d : Int) : Int := if n < 0 then -roU (-n) d else roU n d
theorem ro_bd {n d : Int} (h : Sm n) (h0 : 0 ≤ n) (hd : 0 < d) : 0 ≤ roU n d ∧ roU n d ≤ n := by
  unfold roU
  constructor
  · exact Int.ediv_nonneg (by omega) (by omega)
  · have : (2 * n + d) / (2 * d) < n + 1 := by
      apply Int.ediv_lt_of_lt_mul (by omega)
      have : (n + 1) * 1 ≤ (n + 1) * d := Int.mul_le_mul_of_nonneg_left (by omega) (by omega)
      have e : (n + 1) * (2 * d) = 2 * ((n + 1) * d) := by rw [Int.mul_left_comm]
      rw [e]
      have e2 : (n + 1) * d = n * d + d := by rw [Int.add_mul]; omega
      have : n * 1 ≤ n * d := Int.mul_le_mul_of_nonneg_left (by omega) h0
      omega
    omega

theorem floor_at (n d : Int) (w : World) (h : Sm n) (hd : 0 < d) (hd' : d ≤ 2147483647) :
    Calls Tryd.prog 24 #[fr n d] w fun e w' => e = .returned (.int .i64 (n / d)) ∧ Below w.heap.size w w' :=
  floor_any n d w (by unfold Sm at h; unfold I64; omega) hd (by omega)

set_option maxRecDepth 100000 in
theorem rfloor_any (n d : Int) (w : World) (h : Sm n) (hd : 0 < d) (hd' : d ≤ 2147483647) :
    Calls Tryd.prog 25 #[fr n d] w fun e w' => e = .returned (.int .i64 (n / d)) ∧ Below w.heap.size w w' := by
  have B := fl_bd h hd
  have hd0 : ¬ d = 0 := by omega
  obtain ⟨s1, s2⟩ := id h
  have m0 := Int.emod_nonneg n hd0
  have m1 := Int.emod_lt_of_pos n hd
  have ee := Int.mul_ediv_add_emod n d
  by_cases c : n < 0
  · have cd : decide (n < 0) = true := by simpa using c
    by_cases c1 : n % d = 0
    · obtain ⟨e1, e2⟩ := quo_same hd (.inr c1)
      rw [c1] at ee
      obtain ⟨q, hq⟩ : ∃ q, n / d = q := ⟨_, rfl⟩
      rw [hq] at e1 B ee ⊢
      have hqd : q * d = n := by rw [Int.mul_comm]; omega
      clear m0 m1 hq c1 e2 ee
      go_enter Tryd.func25, Tryd.ntmps25
      go_wp2
      go_ret
      exact ⟨rfl, by go_grown⟩
    · obtain ⟨e1, e2⟩ := quo_less hd c c1
      obtain ⟨q, hq⟩ : ∃ q, n / d = q := ⟨_, rfl⟩
      rw [hq] at e1 B ee ⊢
      obtain ⟨q1, hq1⟩ : ∃ q1, q + 1 = q1 := ⟨_, rfl⟩
      rw [hq1] at e1
      obtain ⟨r, hr⟩ : ∃ r, n % d = r := ⟨_, rfl⟩
      rw [hr] at c1 ee m0 m1
      obtain ⟨x, hx⟩ : ∃ x, q1 * d = x := ⟨_, rfl⟩
      have hxv : x = n - r + d := by rw [← hx, ← hq1, Int.add_mul, Int.mul_comm q d]; omega
      have x1 : -9223372036854775808 ≤ x ∧ x ≤ 9223372036854775807 := by omega
      have x2 : (x != n) = true := by simp; omega
      have x3 : q1 - 1 = q := by omega
      have x4 : -2147483648 ≤ q1 ∧ q1 ≤ 2147483648 := by omega
      clear m0 m1 hq hr c1 e2 ee hxv hq1
      go_enter Tryd.func25, Tryd.ntmps25
      go_wp2
      go_ret
      exact ⟨rfl, by go_grown⟩
  · have cd : decide (n < 0) = false := by simpa using c
    obtain ⟨e1, e2⟩ := quo_same (n := n) hd (.inl (by omega))
    obtain ⟨q, hq⟩ : ∃ q, n / d = q := ⟨_, rfl⟩
    rw [hq] at e1 B ⊢
    clear m0 m1 hq e2 ee
    go_enter Tryd.func25, Tryd.ntmps25
    go_wp2
    go_ret
    exact ⟨rfl, by go_grown⟩

theorem ceil_any (n d : Int) (w : World) (h : Sm n) (hd : 0 < d) (hd' : d ≤ 2147483647) :
    Calls Tryd.prog 26 #[fr n d] w fun e w' => e = .returned (.int .i64 (-(-n / d))) ∧ Below w.heap.size w w' := by
  have B := fl_bd h.neg hd
  have F := fun W => floor_at (-n) d W h.neg hd hd'
  obtain ⟨s1, s2⟩ := id h
  obtain ⟨q, hq⟩ : ∃ q, -n / d = q := ⟨_, rfl⟩
  rw [hq] at B F ⊢
  clear hq
  go_enter Tryd.func26, Tryd.ntmps26
  go_wp2_with (first | (go_at_call 38; refine (negative_any _ _ _ (by omega) (by omega)).mono ?_; rintro e w1 ⟨rfl, hb⟩; have hB : Below w.heap.size w w1 := Below.trans (by go_grown) (hb.mono (by simp)); clear hb) | (go_at_call 24; refine (F _).mono ?_; rintro e w2 ⟨rfl, hb⟩; have hB2 : Below w.heap.size w w2 := hB.trans (hb.mono hB.size); clear hb))
  go_ret
  exact ⟨rfl, hB2⟩
theorem rceil_any (n d : Int) (w : World) (h : Sm n) (hd : 0 < d) (hd' : d ≤ 2147483647) :
    Calls Tryd.prog 27 #[fr n d] w fun e w' => e = .returned (.int .i64 (-(-n / d))) ∧ Below w.heap.size w w' := by
  have B := fl_bd h.neg hd
  have F := fun W => rfloor_any (-n) d W h.neg hd hd'
  obtain ⟨s1, s2⟩ := id h
  obtain ⟨q, hq⟩ : ∃ q, -n / d = q := ⟨_, rfl⟩
  rw [hq] at B F ⊢
  clear hq
  go_enter Tryd.func27, Tryd.ntmps27
  go_wp2_with (go_at_call 25; refine (F _).mono ?_; rintro e w2 ⟨rfl, hb⟩; have hB2 : Below w.heap.size w w2 := Below.trans (by go_grown) (hb.mono (by simp)); clear hb)
  go_ret
  exact ⟨rfl, hB2⟩
theorem roundUp_any (n d : Int) (w : World) (h : Sm n) (h0 : 0 ≤ n) (hd : 0 < d) (hd' : d ≤ 2147483647) :
    Calls Tryd.prog 44 #[fr n d] w fun e w' => e = .returned (.int .i64 (roU n d)) ∧ Below w.heap.size w w' := by
  have F := fun W => floor_any (2 * n + d) (2 * d) W (by unfold Sm at h; unfold I64; omega) (by omega) (by omega)
  obtain ⟨s1, s2⟩ := id h
  have e0 : (2 * n + d) / (2 * d) = roU n d := rfl
  rw [e0] at F
  clear e0
  go_enter Tryd.func44, Tryd.ntmps44
  go_wp2_with (go_at_call 24; refine (F _).mono ?_; rintro e w2 ⟨rfl, hb⟩; have hB2 : Below w.heap.size w w2 := Below.trans (by go_grown) (hb.mono (by simp)); clear hb)
  go_ret
  exact ⟨rfl, hB2⟩
theorem round_any (n d : Int) (w : World) (h : Sm n) (hd : 0 < d) (hd' : d ≤ 2147483647) :
    Calls Tryd.prog 28 #[fr n d] w fun e w' => e = .returned (.int .i64 (roV n d)) ∧ Below w.heap.size w w' := by
  obtain ⟨s1, s2⟩ := id h
  by_cases c : n < 0
  · have F := fun W => roundUp_any (-n) d W h.neg (by omega) hd hd'
    have B := ro_bd h.neg (by omega) hd
    rw [show roV n d = -roU (-n) d by simp [roV, c]]
    obtain ⟨q, hq⟩ : ∃ q, roU (-n) d = q := ⟨_, rfl⟩
    rw [hq] at B F ⊢
    clear hq
    go_enter Tryd.func28, Tryd.ntmps28
    go_wp2_with (first | (go_at_call 38; refine (negative_any _ _ _ (by omega) (by omega)).mono ?_; rintro e w1 ⟨rfl, hb⟩; have hB : Below w.heap.size w w1 := Below.trans (by go_grown) (hb.mono (by simp)); clear hb) | (go_at_call 44; refine (F _).mono ?_; rintro e w2 ⟨rfl, hb⟩; have hB2 : Below w.heap.size w w2 := hB.trans (hb.mono hB.size); clear hb))
    go_ret
    exact ⟨rfl, hB2⟩
  · have F := fun W => roundUp_any n d W h (by omega) hd hd'
    rw [show roV n d = roU n d by simp [roV, c]]
    obtain ⟨q, hq⟩ : ∃ q, roU n d = q := ⟨_, rfl⟩
    rw [hq] at F ⊢
    clear hq
    go_enter Tryd.func28, Tryd.ntmps28
    go_wp2_with (go_at_call 44; refine (F _).mono ?_; rintro e w2 ⟨rfl, hb⟩; have hB2 : Below w.heap.size w w2 := Below.trans (by go_grown) (hb.mono (by simp)); clear hb)
    go_ret
    exact ⟨rfl, hB2⟩
theorem rroundUp_any (n d : Int) (w : World) (h : Sm n) (h0 : 0 ≤ n) (hd : 0 < d) (hd' : d ≤ 2147483647) :
    Calls Tryd.prog 29 #[fr n d] w fun e w' => e = .returned (.int .i64 (roU n d)) ∧ Below w.heap.size w w' := by
  obtain ⟨s1, s2⟩ := id h
  have B := ro_bd h h0 hd
  have e0 : (2 * n + d).tdiv (2 * d) = roU n d := Int.tdiv_eq_ediv_of_nonneg (by omega)
  have e1 : ¬ 2 * d = 0 := by omega
  have e2 : -9223372036854775808 ≤ 2 * n + d ∧ 2 * n + d ≤ 9223372036854775807 := by omega
  have cd : decide (n < 0) = false := by simp; omega
  go_enter Tryd.func29, Tryd.ntmps29
  go_wp2
  go_ret
  exact ⟨ret_i64 (by first | exact e0 | rfl | omega), by go_grown⟩
theorem rround_any (n d : Int) (w : World) (h : Sm n) (hd : 0 < d) (hd' : d ≤ 2147483647) :
    Calls Tryd.prog 29 #[fr n d] w fun e w' => e = .returned (.int .i64 (roV n d)) ∧ Below w.heap.size w w' := by
  obtain ⟨s1, s2⟩ := id h
  by_cases c : n < 0
  · have F := fun W => rroundUp_any (-n) d W h.neg (by omega) hd hd'
    have B := ro_bd h.neg (by omega) hd
    rw [show roV n d = -roU (-n) d by simp [roV, c]]
    obtain ⟨q, hq⟩ : ∃ q, roU (-n) d = q := ⟨_, rfl⟩
    rw [hq] at B F ⊢
    clear hq
    go_enter Tryd.func29, Tryd.ntmps29
    go_wp2_with (go_at_call 29; refine (F _).mono ?_; rintro e w2 ⟨rfl, hb⟩; have hB2 : Below w.heap.size w w2 := Below.trans (by go_grown) (hb.mono (by simp)); clear hb)
    go_ret
    exact ⟨rfl, hB2⟩
  · rw [show roV n d = roU n d by simp [roV, c]]
    exact rroundUp_any n d w h (by omega) hd hd'

end Go.Proofs.YtonndlhppihdiaaDoor
