/-
  What over, Sum, times and overZeros return.
-/
import Derived.Test.YtaacggbfoejjhaaDoorSRow
namespace Go.Proofs.YtaacggbfoejjhaaDoor.S
open Go.ChangeShapes Go.WideShapes Go.ChangeAt Go.RowKit
set_option linter.unusedVariables false

theorem ret_u32 {a b : Int} (h : a = b) : Ending.returned (.int .u32 a) = .returned (.int .u32 b) := by rw [h]
theorem and15 (X : Nat) (h : X < 4294967296) : bits .and .u32 (X : Int) 15 = ((X % 16 : Nat) : Int) := by
  have := u32_and_nat X 15 h (by decide)
  rw [nat_mask4] at this
  exact this
theorem xor32 (x y : Nat) (hx : x < 4294967296) (hy : y < 4294967296) : ∃ z : Nat, bits .xor .u32 (x : Int) (y : Int) = (z : Int) ∧ z = x ^^^ y ∧ z < 4294967296 :=
  ⟨x ^^^ y, u32_xor_nat x y hx hy, rfl, Nat.xor_lt_two_pow (n := 32) hx hy⟩
theorem nib_xor (X : Nat) (h : X < 4294967296) : bits .xor .u32 ((X : Int) / 16) ((leaf (X % 16) : Nat) : Int) = ((nib X : Nat) : Int) := by
  have e : (X : Int) / 16 = ((X / 16 : Nat) : Int) := by omega
  rw [e, u32_xor_nat _ _ (by omega) (leaf_lt _)]
  rfl
theorem take_snoc (l : List Int) (j : Nat) (h : j < l.length) : l.take (j + 1) = l.take j ++ [l.getD j 0] := by
  rw [List.take_add_one, List.getD_eq_getElem?_getD, List.getElem?_eq_getElem h]
  rfl
theorem byt_at {zs : List Int} (hb : Byt zs) (j : Nat) (h : j < zs.length) : 0 ≤ zs.getD j 0 ∧ zs.getD j 0 < 256 := by
  rw [List.getD_eq_getElem?_getD, List.getElem?_eq_getElem h]
  exact hb _ (List.getElem_mem h)

set_option maxHeartbeats 1000000 in
theorem over_any (s : Nat) (a : Option Addr) (len cap : Nat) (zs : List Int) (w : World) (R : Row .u8 w a len cap zs) (hs : s < 4294967296) (ht : Tab w) (hl : len ≤ 9223372036854775807) :
    Calls Tryd.prog 52 #[.int .u32 s, .slice a len cap] w fun e w' => e = .returned (.int .u32 ((crcR s (bitsL zs) : Nat) : Int)) ∧ w' = w := by
  have hlz := R.size
  have hby := R.byte
  go_enter Tryd.func52, Tryd.ntmps52
  go_wp2
  go_loopg [0, 9] len (fun g st ix wr => ∃ (j t : Nat), ix = .int .i64 j ∧ st = .int .u32 t ∧ t < 4294967296 ∧ Hid (crcR s (bitsL (zs.take j)) = t) ∧ j + g = len ∧ wr = w)
  case atStart => exact ⟨0, s, rfl, rfl, hs, rfl, by omega, rfl⟩
  case round =>
    obtain ⟨j, t, rfl, rfl, hlt, HT, hg, rfl⟩ := hrel
    by_cases hc : j < len
    · obtain ⟨b, off, rfl, hb, hcell⟩ := R.mem.resolve_left (by omega)
      have hcj := hcell j hc
      obtain ⟨z, hz⟩ : ∃ z, zs.getD j 0 = z := ⟨_, rfl⟩
      have hzb := byt_at hby j (by omega)
      rw [hz] at hzb hcj
      obtain ⟨X, hX, hXe, hXl⟩ := xor32 t z.toNat hlt (by omega)
      have ez : ((z.toNat : Nat) : Int) = z := by omega
      rw [ez] at hX
      have hA := and15 X hXl
      have hc1 := ht (X % 16) (by omega)
      have hn1 := nib_xor X hXl
      obtain ⟨Y, hY⟩ : ∃ Y, nib X = Y := ⟨_, rfl⟩
      have hYl : Y < 4294967296 := by rw [← hY]; exact nib_lt hXl
      rw [hY] at hn1
      have hB := and15 Y hYl
      have hc2 := ht (Y % 16) (by omega)
      have hn2 := nib_xor Y hYl
      have HN : Hid (crcR s (bitsL (zs.take (j + 1))) = nib Y) := by
        show _ = _
        rw [take_snoc _ _ (by omega), crc_snoc, HT.out, hz, crc_over _ _ (by omega), ← hXe, hY]
      obtain ⟨Z, hZ⟩ : ∃ Z, nib Y = Z := ⟨_, rfl⟩
      have hZl : Z < 4294967296 := by rw [← hZ]; exact nib_lt hYl
      rw [hZ] at hn2 HN
      have hzm : z % 4294967296 = z := by omega
      clear hXe hY hZ hcell hz ez
      go_wp2
      go_roundg (gk - 1)
      case measure => omega
      case rel => exact ⟨j + 1, Z, by first | rfl | go_num, by first | rfl | go_num, hZl, HN, by omega, rfl⟩
    · have e : j = len := by omega
      subst e
      go_wp2
      go_ret
      refine ⟨ret_u32 ?_, rfl⟩
      rw [← HT.out, List.take_of_length_le (by omega)]

end Go.Proofs.YtaacggbfoejjhaaDoor.S
