/-
  The examples of chapter 1 that each statement asks at its end: that call returns true.
-/
import Derived.Test.YtkhinpapiommiaaInts
import Derived.Test.YtkhinpapiommiaaParse
namespace Go.Proofs.Ytkhinpapiommiaa
open Go.ChangeShapes Go.WideShapes Go.ChangeAt Go.RowKit
set_option linter.unusedVariables false

/-- The text of 2^64. -/
def t64 : ByteArray := { data := #[49, 56, 52, 52, 54, 55, 52, 52, 48, 55, 51, 55, 48, 57, 53, 53, 49, 54, 49, 54] }
theorem t64_val : pH t64.data.toList = 1 ∧ pL t64.data.toList = 0 := by decide +kernel
theorem ex_half : halfV 2147483647 (-2147483647) = 2147483647 ∧ halfE 2147483647 (-2147483647) = 0 := by decide +kernel
theorem ex_mul : opE 65536 32768 (65536 * 32768) = 10 := by decide +kernel
theorem ex_sq : hiW (sqs [-3, 4]) = 0 ∧ lo64 (sqs [-3, 4]) = 25 := by decide +kernel

theorem row_two (W : World) (x y : Int) (hx : -9223372036854775808 ≤ x ∧ x ≤ 9223372036854775807) (hy : -9223372036854775808 ≤ y ∧ y ≤ 9223372036854775807) (n : Nat) (hn : n = W.heap.size) :
    Row (W.alloc (.cells #[.int .i64 x, .int .i64 y] 2)) (some ⟨n, 0, none⟩) 2 [x, y] where
  size := rfl
  max := by unfold maxLen; omega
  bd := fun k => by
    match k with
    | 0 => exact hx
    | 1 => exact hy
    | (k + 2) => simp
  mem := .inr ⟨n, 0, rfl, by simp [hn], fun k hk => by
    subst hn
    match k, hk with
    | 0, _ => simp
    | 1, _ => simp⟩

set_option maxHeartbeats 1000000 in
theorem awake_any (w : World) : Calls Try.prog 19 #[] w fun e w' => e = .returned (.bool true) ∧ Below w.heap.size w w' := by
  have P := fun W => parse_any t64 W (by decide +kernel)
  rw [t64_val.1, t64_val.2] at P
  have P : Hid _ := P
  have Hh := fun W => half_any 2147483647 (-2147483647) W
  rw [ex_half.1, ex_half.2] at Hh
  have Hh : Hid _ := Hh
  go_enter Try.func19, Try.ntmps19
  go_wp2_with fail
  refine (Hh.out _).mono ?_
  rintro e w' ⟨rfl, rfl⟩
  go_wp2_with fail
  refine (mul_any _ _ _).mono ?_
  rintro e w' ⟨rfl, rfl⟩
  rw [ex_mul]
  go_wp2_with fail
  refine (P.out _).mono ?_
  rintro e w1 ⟨rfl, hb1⟩
  have hs1 := hb1.size
  go_wp2_with fail
  refine (squares_any _ _ _ [-3, 4] _ (row_two _ (-3) 4 (by omega) (by omega) _ (by simp))).mono ?_
  rintro e w2 ⟨rfl, hb2⟩
  rw [ex_sq.1, ex_sq.2]
  have hB1 : Below w'.heap.size w' w2 := Below.trans (by go_grown) (Below.mono hb2 (by have := hb1.size; simp; omega))
  go_wp2
  go_ret
  exact ⟨rfl, hB1⟩
end Go.Proofs.Ytkhinpapiommiaa
