/-
  What Sum, the document's own Sum, times and overZeros return.
-/
import Derived.Test.YtaacggbfoejjhaaDoorSOver
namespace Go.Proofs.YtaacggbfoejjhaaDoor.S
open Go.ChangeShapes Go.WideShapes Go.ChangeAt Go.RowKit
set_option linter.unusedVariables false

theorem not32 (x : Nat) (h : x < 4294967296) : bits .xor .u32 IntKind.u32.max (x : Int) = ((x ^^^ 4294967295 : Nat) : Int) := by
  have hm : IntKind.u32.max = ((4294967295 : Nat) : Int) := rfl
  rw [hm, u32_xor_nat _ _ (by decide) h, Nat.xor_comm]
theorem xor_ones (x : Nat) (h : x < 4294967296) : bits .xor .u32 (x : Int) 4294967295 = ((x ^^^ 4294967295 : Nat) : Int) := u32_xor_nat x 4294967295 h (by decide)

set_option maxHeartbeats 1000000 in
theorem sum_any (a : Option Addr) (len cap : Nat) (zs : List Int) (w : World) (R : Row .u8 w a len cap zs) (ht : Tab w) (hl : len ≤ 9223372036854775807) :
    Calls Tryd.prog 46 #[.slice a len cap] w fun e w' => e = .returned (.int .u32 ((sumB zs : Nat) : Int)) ∧ w' = w := by
  have H := over_any 4294967295 a len cap zs w R (by decide) ht hl
  obtain ⟨c, hc⟩ : ∃ c, crcR 4294967295 (bitsL zs) = c := ⟨_, rfl⟩
  have hcl : c < 4294967296 := by rw [← hc]; exact crcR_lt _ (by decide)
  have HS : Hid (sumB zs = c ^^^ 4294967295) := by show _ = _; rw [← hc]; rfl
  rw [hc] at H
  clear hc
  go_enter Tryd.func46, Tryd.ntmps46
  go_wp2_with (go_at_call 52; refine H.mono ?_; rintro e w' ⟨rfl, hw⟩; rw [hw]; clear hw)
  go_ret
  refine ⟨ret_u32 ?_, rfl⟩
  rw [HS.out]
  exact not32 c hcl

theorem bit_and (z k : Nat) (hz : z < 256) (hk : k < 8) : bits .and .u8 ((z / 2 ^ k : Nat) : Int) 1 = ((z / 2 ^ k % 2 : Nat) : Int) := by
  have h : z / 2 ^ k < 256 := Nat.lt_of_le_of_lt (Nat.div_le_self _ _) hz
  have := u8_and_nat (z / 2 ^ k) 1 h (by decide)
  rw [nat_mask1] at this
  exact this
theorem and1 (t : Nat) (h : t < 4294967296) : bits .and .u32 (t : Int) 1 = ((t % 2 : Nat) : Int) := by
  have := u32_and_nat t 1 h (by decide)
  rw [nat_mask1] at this
  exact this

theorem bit_test (z k : Nat) (hz : z < 256) (hk : k < 8) : (bits .and .u8 ((z : Int) / 2 ^ k) 1 == 1) = z.testBit k := by
  have e : (z : Int) / 2 ^ k = ((z / 2 ^ k : Nat) : Int) := by
    rw [Int.natCast_ediv, Int.natCast_pow]
    rfl
  rw [e, bit_and z k hz hk, Nat.testBit_eq_decide_div_mod_eq]
  rcases Nat.mod_two_eq_zero_or_one (z / 2 ^ k) with h | h <;> rw [h] <;> rfl
theorem low_test (u : Nat) : ((u : Int) % 2 == 1) = (u % 2 == 1) := by
  rcases Nat.mod_two_eq_zero_or_one u with h | h
  · have : (u : Int) % 2 = 0 := by omega
    rw [h, this]; rfl
  · have : (u : Int) % 2 = 1 := by omega
    rw [h, this]; rfl
theorem step0 (u z k : Nat) (hu : u < 4294967296) (hz : z < 256) (hk : k < 8) (h : (!((u : Int) % 2 == 1) == (bits .and .u8 ((z : Int) / 2 ^ k) 1 == 1)) = false) : (u : Int) / 2 = ((crcS u (z.testBit k) : Nat) : Int) := by
  rw [low_test, bit_test z k hz hk] at h
  unfold crcS
  rw [if_neg (by intro h2; rw [show ((u % 2 == 1) != z.testBit k) = !((u % 2 == 1) == z.testBit k) from rfl, h] at h2; cases h2)]
  omega
theorem step1 (u z k : Nat) (hu : u < 4294967296) (hz : z < 256) (hk : k < 8) (h : (!((u : Int) % 2 == 1) == (bits .and .u8 ((z : Int) / 2 ^ k) 1 == 1)) = true) : bits .xor .u32 ((u : Int) / 2) 3988292384 = ((crcS u (z.testBit k) : Nat) : Int) := by
  rw [low_test, bit_test z k hz hk] at h
  unfold crcS
  rw [if_pos (show ((u % 2 == 1) != z.testBit k) = true from h)]
  have e : (u : Int) / 2 = ((u / 2 : Nat) : Int) := by omega
  rw [e]
  exact u32_xor_nat (u / 2) 3988292384 (by omega) (by decide)

set_option maxHeartbeats 4000000 in
theorem rsum_any (a : Option Addr) (len cap : Nat) (zs : List Int) (w : World) (R : Row .u8 w a len cap zs) (hl : len ≤ 9223372036854775807) :
    Calls Tryd.prog 38 #[.slice a len cap] w fun e w' => e = .returned (.int .u32 ((sumB zs : Nat) : Int)) ∧ w' = w := by
  have hlz := R.size
  have hby := R.byte
  go_enter Tryd.func38, Tryd.ntmps38
  go_wp2
  go_loopg [3, 4] len (fun g st ix wr => ∃ (j t : Nat), ix = .int .i64 j ∧ st = .int .u32 t ∧ t < 4294967296 ∧ Hid (crcR 4294967295 (bitsL (zs.take j)) = t) ∧ j + g = len ∧ wr = w)
  case atStart => exact ⟨0, 4294967295, rfl, rfl, by decide, rfl, by omega, rfl⟩
  case round =>
    rename World => w0
    rename Nat => gko
    obtain ⟨j, t, rfl, rfl, hlt, HT, hg, rfl⟩ := hrel
    by_cases hc : j < len
    · obtain ⟨b, off, rfl, hb, hcell⟩ := R.mem.resolve_left (by omega)
      have hcj := hcell j hc
      obtain ⟨zn, hz⟩ : ∃ z : Nat, zs.getD j 0 = (z : Int) := ⟨(zs.getD j 0).toNat, by have := byt_at hby j (by omega); omega⟩
      have hzb : zn < 256 := by have := byt_at hby j (by omega); omega
      rw [hz] at hcj
      have HN : Hid (crcR 4294967295 (bitsL (zs.take (j + 1))) = crcR t (bitsN 8 zn)) := by
        show _ = _
        rw [take_snoc _ _ (by omega), crc_snoc, HT.out, hz]
        rfl
      clear hcell hz
      go_wp2
      go_loopg [3, 5] 8 (fun g st ix wr => ∃ (k u : Nat), ix = .int .i64 k ∧ st = .int .u32 u ∧ u < 4294967296 ∧ Hid (crcR t (bitsN k zn) = u) ∧ k + g = 8 ∧ wr = w0)
      case atStart => exact ⟨0, t, rfl, rfl, hlt, rfl, by omega, rfl⟩
      case round =>
        obtain ⟨k, u, rfl, rfl, hul, HU, hgk, rfl⟩ := hrel
        by_cases hk : k < 8
        · have hb1 := bit_and zn k hzb hk
          have hb2 := and1 u hul
          have HS := bitsN_snoc k zn
          have HU2 : Hid (crcR t (bitsN (k + 1) zn) = crcS u (zn.testBit k)) := by
            show _ = _
            rw [HS, crcR_app, HU.out]
            rfl
          clear HS hb1
          go_wp2
          · rename_i _ hq
            go_roundg (gk - 1)
            case measure => omega
            case rel => exact ⟨k + 1, crcS u (zn.testBit k), by first | rfl | go_num, by rw [step1 u zn k hul hzb hk hq], crcS_lt hul _, HU2, by omega, rfl⟩
          · rename_i _ hq
            go_roundg (gk - 1)
            case measure => omega
            case rel => exact ⟨k + 1, crcS u (zn.testBit k), by first | rfl | go_num, by rw [step0 u zn k hul hzb hk hq], crcS_lt hul _, HU2, by omega, rfl⟩
        · have e : k = 8 := by omega
          subst e
          go_wp2
          go_roundg (gko - 1)
          case measure => omega
          case rel => exact ⟨j + 1, u, by first | rfl | go_num, by first | rfl | go_num, hul, HN.out.trans HU.out, by omega, rfl⟩
    · have e : j = len := by omega
      subst e
      go_wp2
      go_ret
      refine ⟨ret_u32 ?_, rfl⟩
      rw [xor_ones t hlt, ← HT.out, List.take_of_length_le (by omega)]
      rfl

theorem and_pow (a P i : Nat) (ha : a < 4294967296) (hP : P = 2 ^ i) (hP2 : P ≤ 2147483648) : bits .and .u32 (a : Int) (P : Int) = (((if a.testBit i then P else 0) : Nat) : Int) := by
  rw [u32_and_nat a P ha (by omega), hP, nat_bit, Nat.testBit_eq_decide_div_mod_eq]
  rcases Nat.mod_two_eq_zero_or_one (a / 2 ^ i) with h | h <;> rw [h] <;> simp
theorem poly_step (b : Nat) (hb : b < 4294967296) : bits .xor .u32 ((b : Int) / 2) (3988292384 * ((b : Int) % 2)) = ((crcS b false : Nat) : Int) := by
  have e : (b : Int) / 2 = ((b / 2 : Nat) : Int) := by omega
  rw [e]
  unfold crcS
  rcases Nat.mod_two_eq_zero_or_one b with h | h
  · have h2 : (b : Int) % 2 = 0 := by omega
    rw [h, h2, if_neg (by decide)]
    have := u32_xor_nat (b / 2) 0 (by omega) (by decide)
    rw [Nat.xor_zero] at this
    exact this
  · have h2 : (b : Int) % 2 = 1 := by omega
    rw [h, h2, if_pos (by decide)]
    exact u32_xor_nat (b / 2) 3988292384 (by omega) (by decide)
theorem pow32_le {i : Nat} (h : i ≤ 31) : 2 ^ i ≤ 2147483648 := Nat.pow_le_pow_right (n := 2) (by omega) h

end Go.Proofs.YtaacggbfoejjhaaDoor.S
