/-
  What Sum, the document's own Sum, times and overZeros return.
-/
import Derived.Test.YticmjlnpjopfbabDoorSOver
namespace Go.Proofs.YticmjlnpjopfbabDoor.S
open Go.ChangeShapes Go.WideShapes Go.ChangeAt Go.RowKit
set_option linter.unusedVariables false

theorem not32 (x : Nat) (h : x < 4294967296) : bits .xor .u32 IntKind.u32.max (x : Int) = ((x ^^^ 4294967295 : Nat) : Int) := by
  have hm : IntKind.u32.max = ((4294967295 : Nat) : Int) := rfl
  rw [hm, u32_xor_nat _ _ (by decide) h, Nat.xor_comm]
theorem xor_ones (x : Nat) (h : x < 4294967296) : bits .xor .u32 (x : Int) 4294967295 = ((x ^^^ 4294967295 : Nat) : Int) := u32_xor_nat x 4294967295 h (by decide)

set_option maxHeartbeats 1000000 in
theorem sum_any (a : Option Addr) (len cap : Nat) (zs : List Int) (w : World) (R : Row .u8 w a len cap zs) (ht : Tab w) (hl : len ≤ 9223372036854775807) :
    Calls Tryd.prog 33 #[.slice a len cap] w fun e w' => e = .returned (.int .u32 ((sumB zs : Nat) : Int)) ∧ w' = w := by
  have H := over_any 4294967295 a len cap zs w R (by decide) ht hl
  obtain ⟨c, hc⟩ : ∃ c, crcR 4294967295 (bitsL zs) = c := ⟨_, rfl⟩
  have hcl : c < 4294967296 := by rw [← hc]; exact crcR_lt _ (by decide)
  have HS : Hid (sumB zs = c ^^^ 4294967295) := by show _ = _; rw [← hc]; rfl
  rw [hc] at H
  clear hc
  go_enter Tryd.func33, Tryd.ntmps33
  go_wp2_with (go_at_call 48; refine H.mono ?_; rintro e w' ⟨rfl, hw⟩; rw [hw]; clear hw)
  go_ret
  refine ⟨ret_u32 ?_, rfl⟩
  rw [HS.out]
  exact not32 c hcl

theorem bit_and (z k : Nat) (hz : z < 256) (hk : k < 8) : bits .and .u8 ((z / 2 ^ k : Nat) : Int) 1 = ((z / 2 ^ k % 2 : Nat) : Int) := by
  have h : z / 2 ^ k < 256 := Nat.lt_of_le_of_lt (Nat.div_le_self _ _) hz
  have := u8_and_nat (z / 2 ^ k) 1 h (by decide)
  rw [nat_mask1] at this
  exact this
theorem and1 (t : Nat) (h : t < 4294967296) : bits .and .u32 (t : Int) 1 = ((t % 2 : Nat) : Int) := by
  have := u32_and_nat t 1 h (by decide)
  rw [nat_mask1] at this
  exact this

theorem bit_test (z k : Nat) (hz : z < 256) (hk : k < 8) : (bits .and .u8 ((z : Int) / 2 ^ k) 1 == 1) = z.testBit k := by
  have e : (z : Int) / 2 ^ k = ((z / 2 ^ k : Nat) : Int) := by
    rw [Int.natCast_ediv, Int.natCast_pow]
    rfl
  rw [e, bit_and z k hz hk, Nat.testBit_eq_decide_div_mod_eq]
  rcases Nat.mod_two_eq_zero_or_one (z / 2 ^ k) with h | h <;> rw [h] <;> rfl
theorem low_test (u : Nat) : ((u : Int) % 2 == 1) = (u % 2 == 1) := by
  rcases Nat.mod_two_eq_zero_or_one u with h | h
  · have : (u : Int) % 2 = 0 := by omega
    rw [h, this]; rfl
  · have : (u : Int) % 2 = 1 := by omega
    rw [h, this]; rfl
theorem step0 (u z k : Nat) (hu : u < 4294967296) (hz : z < 256) (hk : k < 8) (h : (!((u : Int) % 2 == 1) == (bits .and .u8 ((z : Int) / 2 ^ k) 1 == 1)) = false) : (u : Int) / 2 = ((crcS u (z.testBit k) : Nat) : Int) := by
  rw [low_test, bit_test z k hz hk] at h
  unfold crcS
  rw [if_neg (by intro h2; rw [show ((u % 2 == 1) != z.testBit k) = !((u % 2 == 1) == z.testBit k) from rfl, h] at h2; cases h2)]
  omega
theorem step1 (u z k : Nat) (hu : u < 4294967296) (hz : z < 256) (hk : k < 8) (h : (!((u : Int) % 2 == 1) == (bits .and .u8 ((z : Int) / 2 ^ k) 1 == 1)) = true) : bits .xor .u32 ((u : Int) / 2) 3988292384 = ((crcS u (z.testBit k) : Nat) : Int) := by
  rw [low_test, bit_test z k hz hk] at h
  unfold crcS
  rw [if_pos (show ((u % 2 == 1) != z.testBit k) = true from h)]
  have e : (u : Int) / 2 = ((u / 2 : Nat) : Int) := by omega
  rw [e]
  exact u32_xor_nat (u / 2) 3988292384 (by omega) (by decide)

theorem and_pow (a P i : Nat) (ha : a < 4294967296) (hP : P = 2 ^ i) (hP2 : P ≤ 2147483648) : bits .and .u32 (a : Int) (P : Int) = (((if a.testBit i then P else 0) : Nat) : Int) := by
  rw [u32_and_nat a P ha (by omega), hP, nat_bit, Nat.testBit_eq_decide_div_mod_eq]
  rcases Nat.mod_two_eq_zero_or_one (a / 2 ^ i) with h | h <;> rw [h] <;> simp
theorem poly_step (b : Nat) (hb : b < 4294967296) : bits .xor .u32 ((b : Int) / 2) (3988292384 * ((b : Int) % 2)) = ((crcS b false : Nat) : Int) := by
  have e : (b : Int) / 2 = ((b / 2 : Nat) : Int) := by omega
  rw [e]
  unfold crcS
  rcases Nat.mod_two_eq_zero_or_one b with h | h
  · have h2 : (b : Int) % 2 = 0 := by omega
    rw [h, h2, if_neg (by decide)]
    have := u32_xor_nat (b / 2) 0 (by omega) (by decide)
    rw [Nat.xor_zero] at this
    exact this
  · have h2 : (b : Int) % 2 = 1 := by omega
    rw [h, h2, if_pos (by decide)]
    exact u32_xor_nat (b / 2) 3988292384 (by omega) (by decide)
theorem pow32_le {i : Nat} (h : i ≤ 31) : 2 ^ i ≤ 2147483648 := Nat.pow_le_pow_right (n := 2) (by omega) h

end Go.Proofs.YticmjlnpjopfbabDoor.S
