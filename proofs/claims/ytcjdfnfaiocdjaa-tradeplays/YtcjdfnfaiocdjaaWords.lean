/-
  What the calls on 64-bit words (the checked sum and difference of package num, math/bits.Mul64) return, for every two words: the words of the exact result and the carry.
-/
import Derived.Test.YtcjdfnfaiocdjaaProg
import Derived.WalkKit
import Derived.ProofKit
import Derived.OpenShut
import Derived.Handy
import Derived.Lib.Mul64
import Derived.Laws.Bits64b
namespace Go.Proofs.Ytcjdfnfaiocdjaa
open Go.ChangeShapes Go.WideShapes Go.ChangeAt Go.RowKit

/-- The upper and the lower word of a number. -/
def hi64 (p : Int) : Int := p / 18446744073709551616
def lo64 (p : Int) : Int := p % 18446744073709551616
def carB (a b : Int) : Bool := decide (18446744073709551616 ≤ a + b)
def borB (a b : Int) : Bool := decide (a < b)

theorem lo64_bd (p : Int) : 0 ≤ lo64 p ∧ lo64 p ≤ 18446744073709551615 := by unfold lo64; omega
theorem wrap_lo (p : Int) : IntKind.u64.wrap p = lo64 p := by rw [IntKind.wrap_u64]; rfl

theorem addU_any (a b : Int) (w : World) (ha : 0 ≤ a) (ha' : a ≤ 18446744073709551615) (hb : 0 ≤ b) (hb' : b ≤ 18446744073709551615) :
    Calls Try.prog 52 #[.int .u64 a, .int .u64 b] w fun e w' => e = .returned (.tuple #[.int .u64 (lo64 (a + b)), .bool (carB a b)]) ∧ w' = w := by
  have hl : Hid (lo64 (a + b) < a ↔ carB a b = true) := by show lo64 (a + b) < a ↔ carB a b = true; unfold lo64 carB; simp; omega
  have hc : ¬ b < 0 := by omega
  go_enter Try.func52, Try.ntmps52
  go_wp2
  rw [wrap_lo]
  by_cases h : carB a b = true
  · have h' := hl.out.2 h
    go_ret2
    exact ⟨by rw [h]; simp [h'], rfl⟩
  · have h' : ¬ lo64 (a + b) < a := fun k => h (hl.out.1 k)
    have h2 : carB a b = false := by simpa using h
    go_ret2
    exact ⟨by rw [h2]; simp [h'], rfl⟩

theorem takeU_any (a b : Int) (w : World) (ha : 0 ≤ a) (ha' : a ≤ 18446744073709551615) (hb : 0 ≤ b) (hb' : b ≤ 18446744073709551615) :
    Calls Try.prog 42 #[.int .u64 a, .int .u64 b] w fun e w' => e = .returned (.tuple #[.int .u64 (lo64 (a - b)), .bool (borB a b)]) ∧ w' = w := by
  have hl : Hid (a < lo64 (a - b) ↔ borB a b = true) := by show a < lo64 (a - b) ↔ borB a b = true; unfold lo64 borB; simp; omega
  have hc : ¬ b < 0 := by omega
  go_enter Try.func42, Try.ntmps42
  go_wp2
  rw [wrap_lo]
  by_cases h : borB a b = true
  · have h' := hl.out.2 h
    go_ret2
    exact ⟨by rw [h]; simp [h'], rfl⟩
  · have h' : ¬ a < lo64 (a - b) := fun k => h (hl.out.1 k)
    have h2 : borB a b = false := by simpa using h
    go_ret2
    exact ⟨by rw [h2]; simp [h'], rfl⟩

/-! ### math/bits.Mul64 -/
theorem maskN (a : Nat) (ha : a < 18446744073709551616) : bits .and .u64 (a : Int) 4294967295 = ((a % 4294967296 : Nat) : Int) := by
  have h := bits_and_u64_nat a 4294967295 ha (by omega)
  have e : a &&& 4294967295 = a % 4294967296 := Nat.and_two_pow_sub_one_eq_mod a 32
  rw [e] at h
  exact h
theorem divN (a : Nat) : (a : Int) / 4294967296 = ((a / 4294967296 : Nat) : Int) := by omega
theorem mulN (a b : Nat) : (a : Int) * (b : Int) = ((a * b : Nat) : Int) := (Int.natCast_mul a b).symm
theorem addN (a b : Nat) : (a : Int) + (b : Int) = ((a + b : Nat) : Int) := (Int.natCast_add a b).symm
theorem wrapN (a : Nat) (ha : a < 18446744073709551616) : IntKind.u64.wrap (a : Int) = (a : Int) := by rw [IntKind.wrap_u64]; omega
theorem wrapM (a : Nat) : IntKind.u64.wrap (a : Int) = ((a % 18446744073709551616 : Nat) : Int) := by rw [IntKind.wrap_u64]; omega

set_option maxHeartbeats 1000000 in
theorem mul64_nat (x y : Nat) (hx : x < 18446744073709551616) (hy : y < 18446744073709551616) (w : World) :
    Calls Try.prog 53 #[.int .u64 x, .int .u64 y] w fun e w' => e = .returned (.tuple #[.int .u64 ((x * y / 18446744073709551616 : Nat) : Int), .int .u64 ((x * y % 18446744073709551616 : Nat) : Int)]) ∧ w' = w := by
  obtain ⟨bd, bt, bw, hhi⟩ := Lib.mul64_hi x y hx hy
  have ba := Lib.half_mul_le (a := x / 4294967296) (b := y / 4294967296) (by omega) (by omega)
  have bb := Lib.half_mul_le (a := x / 4294967296) (b := y % 4294967296) (by omega) (by omega)
  have bc := Lib.half_mul_le (a := x % 4294967296) (b := y / 4294967296) (by omega) (by omega)
  have ba' : x / 4294967296 * (y / 4294967296) < 18446744073709551616 := by omega
  have bb' : x / 4294967296 * (y % 4294967296) < 18446744073709551616 := by omega
  have bc' : x % 4294967296 * (y / 4294967296) < 18446744073709551616 := by omega
  have bh1 : x / 4294967296 * (y / 4294967296) + (x / 4294967296 * (y % 4294967296) + x % 4294967296 * (y % 4294967296) / 4294967296) / 4294967296 < 18446744073709551616 := by omega
  have bh : x / 4294967296 * (y / 4294967296) + (x / 4294967296 * (y % 4294967296) + x % 4294967296 * (y % 4294967296) / 4294967296) / 4294967296 + ((x / 4294967296 * (y % 4294967296) + x % 4294967296 * (y % 4294967296) / 4294967296) % 4294967296 + x % 4294967296 * (y / 4294967296)) / 4294967296 < 18446744073709551616 := by omega
  go_enter Try.func53, Try.ntmps53
  go_wp2
  simp only [maskN x hx, maskN y hy, divN, mulN, addN, wrapN _ bd, wrapN _ bb', wrapN _ bt, maskN _ bt, wrapN _ bc', wrapN _ bw, wrapN _ ba', wrapN _ bh1, wrapN _ bh, wrapM (x * y)]
  rw [hhi]
  go_ret2
  exact ⟨rfl, rfl⟩

theorem mul64_any (x y : Int) (w : World) (hx : 0 ≤ x) (hx' : x ≤ 18446744073709551615) (hy : 0 ≤ y) (hy' : y ≤ 18446744073709551615) :
    Calls Try.prog 53 #[.int .u64 x, .int .u64 y] w fun e w' => e = .returned (.tuple #[.int .u64 (hi64 (x * y)), .int .u64 (lo64 (x * y))]) ∧ w' = w := by
  obtain ⟨a, rfl⟩ := Int.eq_ofNat_of_zero_le hx
  obtain ⟨b, rfl⟩ := Int.eq_ofNat_of_zero_le hy
  have h := mul64_nat a b (by omega) (by omega) w
  have e1 : hi64 ((a : Int) * b) = ((a * b / 18446744073709551616 : Nat) : Int) := by unfold hi64; rw [mulN]; omega
  have e2 : lo64 ((a : Int) * b) = ((a * b % 18446744073709551616 : Nat) : Int) := by unfold lo64; rw [mulN]; omega
  rw [e1, e2]
  exact h

end Go.Proofs.Ytcjdfnfaiocdjaa
