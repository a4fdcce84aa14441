/-
  The law FracWhole, walked at every input.
-/
import Derived.Test.YtonndlhppihdiaaDoorWhole
import Derived.Test.YtonndlhppihdiaaDoorWholes
import Derived.IntWalk
namespace Go.Proofs.YtonndlhppihdiaaDoor
open Go.ChangeShapes Go.WideShapes Go.ChangeAt Go.RowKit
set_option linter.unusedVariables false
set_option linter.unusedSimpArgs false

theorem i64_same {x : Int} (h : -9223372036854775808 ≤ x ∧ x ≤ 9223372036854775807) : IntKind.i64.wrap x = x := by rw [IntKind.wrap_i64]; omega
theorem neg_div (n : Int) {d : Int} (hd : 0 < d) : n / d + -n / d = 0 ∧ n % d = 0 ∨ n / d + -n / d = -1 ∧ 0 < n % d := by
  have e1 := Int.mul_ediv_add_emod n d
  have e2 := Int.mul_ediv_add_emod (-n) d
  have a0 := Int.emod_nonneg n (by omega : d ≠ 0)
  have a1 := Int.emod_lt_of_pos n hd
  have b0 := Int.emod_nonneg (-n) (by omega : d ≠ 0)
  have b1 := Int.emod_lt_of_pos (-n) hd
  generalize n / d = q at *
  generalize -n / d = p at *
  generalize n % d = r at *
  generalize -n % d = t at *
  have e3 : d * (q + p) + (r + t) = 0 := by rw [Int.mul_add]; omega
  rcases Int.lt_trichotomy (q + p) 0 with h | h | h
  · have : d * (q + p) ≤ d * (-1) := Int.mul_le_mul_of_nonneg_left (by omega) (by omega)
    rcases Int.lt_or_le (q + p) (-1) with k | k
    · have : d * (q + p) ≤ d * (-2) := Int.mul_le_mul_of_nonneg_left (by omega) (by omega)
      omega
    · have k2 : q + p = -1 := by omega
      rw [k2] at e3
      omega
  · rw [h] at e3
    omega
  · have : d * 1 ≤ d * (q + p) := Int.mul_le_mul_of_nonneg_left (by omega) (by omega)
    omega

theorem ro_mid {n d : Int} (h0 : 0 ≤ n) (hd : 0 < d) : n / d ≤ roU n d ∧ roU n d ≤ -(-n / d) := by
  have e1 := Int.mul_ediv_add_emod n d
  have a0 := Int.emod_nonneg n (by omega : d ≠ 0)
  have a1 := Int.emod_lt_of_pos n hd
  have k := neg_div n hd
  unfold roU
  generalize n / d = q at *
  generalize -n / d = p at *
  generalize n % d = r at *
  have qd : q * (2 * d) = 2 * (d * q) := by rw [Int.mul_comm q (2 * d), Int.mul_assoc]
  constructor
  · refine Int.le_ediv_of_mul_le (by omega) ?_
    rw [qd]; omega
  · have : (2 * n + d) / (2 * d) < -p + 1 := by
      refine Int.ediv_lt_of_lt_mul (by omega) ?_
      rcases k with ⟨k1, k2⟩ | ⟨k1, k2⟩
      · rw [show -p + 1 = q + 1 by omega, Int.add_mul, qd]; omega
      · rw [show -p + 1 = q + 2 by omega, Int.add_mul, qd]; omega
    omega
theorem ro_zero {d : Int} (hd : 0 < d) : roU 0 d = 0 := by
  have h := ro_mid (n := 0) (Int.le_refl 0) hd
  simp at h
  omega
theorem ro_neg (n : Int) {d : Int} (hd : 0 < d) : roV (-n) d = -roV n d := by
  unfold roV
  rcases Int.lt_trichotomy n 0 with h | h | h
  · rw [if_neg (by omega), if_pos h]; omega
  · subst h; simp [ro_zero hd]
  · rw [if_pos (by omega), if_neg (by omega), Int.neg_neg]
theorem ro_between (n : Int) {d : Int} (hd : 0 < d) : n / d ≤ roV n d ∧ roV n d ≤ -(-n / d) := by
  unfold roV
  by_cases c : n < 0
  · rw [if_pos c]
    have h := ro_mid (n := -n) (by omega) hd
    rw [Int.neg_neg] at h
    omega
  · rw [if_neg c]
    exact ro_mid (by omega) hd

set_option maxRecDepth 100000 in
theorem whole_out (n d : Int) (w : World) (ht : Tab w)
    (V : Hid (∀ W, Calls Tryd.prog 12 #[fr n d] W fun e w' => e = .returned (.bool false) ∧ Below W.heap.size W w')) :
    Calls Tryd.prog 5 #[fr n d] w fun e w' => e = .returned (.bool true) ∧ Below w.heap.size w w' := by
  have J := (Env.start ht).push n d
  go_enter Tryd.func5, Tryd.ntmps5
  go_wp2_with fail
  refine (V.out _).mono ?_
  rintro e w1 ⟨rfl, hb⟩
  replace J := J.below hb
  go_wp2_with fail
  refine (awake_any _ J.tab).mono ?_
  rintro e w2 ⟨rfl, hb⟩
  go_wp2_with fail
  go_ret
  exact ⟨rfl, (J.below hb).old⟩

theorem whole_walk (n d : Int) (w : World) (h1 : I64 n) (h2 : I64 d) (ht : Tab w) :
    Calls Tryd.prog 5 #[fr n d] w fun e w' => e = .returned (.bool true) ∧ Below w.heap.size w w' := by
  have V := fun W => rvalid_any n d W h1.1 h1.2 h2.1 h2.2
  cases hv : validB n d with
  | false =>
    rw [hv] at V
    exact whole_out n d w ht V
  | true =>
    rw [hv] at V
    have hs : Sm n ∧ 0 < d ∧ d ≤ 2147483647 := by unfold validB at hv; rw [decide_eq_true_eq] at hv; unfold Sm; omega
    obtain ⟨s, dp, d'⟩ := hs
    have B1 := fl_bd s dp
    have B2 := fl_bd s.neg dp
    have K := ro_between n dp
    have N := neg_div n dp
    obtain ⟨t1, t2⟩ := id s
    have RB := fun W => round_any (-n) d W s.neg dp d'
    rw [ro_neg n dp] at RB
    refine whole_in n d (-n) (n / d) (-n / d) (roV n d) (-(-n / d)) (-roV n d) w ht rfl rfl rfl (by omega) (by omega) t1 t2 (by omega) (by omega) (by omega) (by omega) (by omega) (by omega) K.1 K.2 (by omega)
      (i64_same (by omega)) (i64_same (by omega)) (i64_same (by omega)) V
      (fun W => floor_at n d W s dp d') (fun W => floor_at (-n) d W s.neg dp d') (fun W => rfloor_any n d W s dp d') (fun W => ceil_any n d W s dp d') (fun W => rceil_any n d W s dp d')
      (fun W => round_any n d W s dp d') RB (fun W => rround_any n d W s dp d')

end Go.Proofs.YtonndlhppihdiaaDoor
