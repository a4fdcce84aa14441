/-
  What Ceil and Round return, and the document's own answers for Floor, Ceil and Round.
-/
import Derived.Test.YtiigmohnmkgfoaaDoorFloor
import Derived.Test.YtiigmohnmkgfoaaDoorOps
namespace Go.Proofs.YtiigmohnmkgfoaaDoor
open Go.ChangeShapes Go.WideShapes Go.ChangeAt Go.RowKit
set_option linter.unusedVariables false
set_option linter.unusedSimpArgs false

theorem fl_bd {n d : Int} (h : Sm n) (hd : 0 < d) : -2147483647 ≤ n / d ∧ n / d ≤ 2147483647 := by
  have q := div_bd n hd
  unfold Sm at h
  omega
def roU (n d : Int) : Int := (2 * n + d) / (2 * d)
def roV (n d : Int) : Int := if n < 0 then -roU (-n) d else roU n d
theorem ro_bd {n d : Int} (h : Sm n) (h0 : 0 ≤ n) (hd : 0 < d) : 0 ≤ roU n d ∧ roU n d ≤ n := by
  unfold roU
  constructor
  · exact Int.ediv_nonneg (by omega) (by omega)
  · have : (2 * n + d) / (2 * d) < n + 1 := by
      apply Int.ediv_lt_of_lt_mul (by omega)
      have : (n + 1) * 1 ≤ (n + 1) * d := Int.mul_le_mul_of_nonneg_left (by omega) (by omega)
      have e : (n + 1) * (2 * d) = 2 * ((n + 1) * d) := by rw [Int.mul_left_comm]
      rw [e]
      have e2 : (n + 1) * d = n * d + d := by rw [Int.add_mul]; omega
      have : n * 1 ≤ n * d := Int.mul_le_mul_of_nonneg_left (by omega) h0
      omega
    omega

theorem floor_at (n d : Int) (w : World) (h : Sm n) (hd : 0 < d) (hd' : d ≤ 2147483647) :
    Calls Tryd.prog 49 #[fr n d] w fun e w' => e = .returned (.int .i64 (n / d)) ∧ Below w.heap.size w w' :=
  floor_any n d w (by unfold Sm at h; unfold I64; omega) hd (by omega)

theorem roundUp_any (n d : Int) (w : World) (h : Sm n) (h0 : 0 ≤ n) (hd : 0 < d) (hd' : d ≤ 2147483647) :
    Calls Tryd.prog 45 #[fr n d] w fun e w' => e = .returned (.int .i64 (roU n d)) ∧ Below w.heap.size w w' := by
  have F := fun W => floor_any (2 * n + d) (2 * d) W (by unfold Sm at h; unfold I64; omega) (by omega) (by omega)
  obtain ⟨s1, s2⟩ := id h
  have e0 : (2 * n + d) / (2 * d) = roU n d := rfl
  rw [e0] at F
  clear e0
  go_enter Tryd.func45, Tryd.ntmps45
  go_wp2_with (go_at_call 49; refine (F _).mono ?_; rintro e w2 ⟨rfl, hb⟩; have hB2 : Below w.heap.size w w2 := Below.trans (by go_grown) (hb.mono (by simp)); clear hb)
  go_ret
  exact ⟨rfl, hB2⟩
theorem round_any (n d : Int) (w : World) (h : Sm n) (hd : 0 < d) (hd' : d ≤ 2147483647) :
    Calls Tryd.prog 28 #[fr n d] w fun e w' => e = .returned (.int .i64 (roV n d)) ∧ Below w.heap.size w w' := by
  obtain ⟨s1, s2⟩ := id h
  by_cases c : n < 0
  · have F := fun W => roundUp_any (-n) d W h.neg (by omega) hd hd'
    have B := ro_bd h.neg (by omega) hd
    rw [show roV n d = -roU (-n) d by simp [roV, c]]
    obtain ⟨q, hq⟩ : ∃ q, roU (-n) d = q := ⟨_, rfl⟩
    rw [hq] at B F ⊢
    clear hq
    go_enter Tryd.func28, Tryd.ntmps28
    go_wp2_with (first | (go_at_call 44; refine (negative_any _ _ _ (by omega) (by omega)).mono ?_; rintro e w1 ⟨rfl, hb⟩; have hB : Below w.heap.size w w1 := Below.trans (by go_grown) (hb.mono (by simp)); clear hb) | (go_at_call 45; refine (F _).mono ?_; rintro e w2 ⟨rfl, hb⟩; have hB2 : Below w.heap.size w w2 := hB.trans (hb.mono hB.size); clear hb))
    go_ret
    exact ⟨rfl, hB2⟩
  · have F := fun W => roundUp_any n d W h (by omega) hd hd'
    rw [show roV n d = roU n d by simp [roV, c]]
    obtain ⟨q, hq⟩ : ∃ q, roU n d = q := ⟨_, rfl⟩
    rw [hq] at F ⊢
    clear hq
    go_enter Tryd.func28, Tryd.ntmps28
    go_wp2_with (go_at_call 45; refine (F _).mono ?_; rintro e w2 ⟨rfl, hb⟩; have hB2 : Below w.heap.size w w2 := Below.trans (by go_grown) (hb.mono (by simp)); clear hb)
    go_ret
    exact ⟨rfl, hB2⟩
end Go.Proofs.YtiigmohnmkgfoaaDoor
