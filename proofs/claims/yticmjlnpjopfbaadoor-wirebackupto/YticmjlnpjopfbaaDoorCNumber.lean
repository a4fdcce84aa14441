/-
  Reading a number (package code, read.go): number.
-/
import Derived.Test.YticmjlnpjopfbaaDoorCPlace
namespace Go.Proofs.YticmjlnpjopfbaaDoor.C
open Go.ChangeShapes Go.WideShapes Go.ChangeAt Go.RowKit
set_option linter.unusedVariables false

/-- What a reading call does at the place i of the bytes: a value, and the place behind it; or what is thrown. -/
def Out (W0 : World) (a : Option Addr) (len cap : Nat) (zs : List Int) (p i : Nat) (w : World) (res : Except Int (Value × Nat)) (e : Ending) (w' : World) : Prop :=
  match res with
  | .ok (v, n) => e = .returned v ∧ Pl W0 a len cap zs p (i + n) w' ∧ Kp p w w'
  | .error c => e = thrown c ∧ Kp p w w'
def u64R : Except Int (Int × Nat) → Except Int (Value × Nat)
  | .ok (x, n) => .ok (.int .u64 x, n)
  | .error c => .error c

theorem drop_cons {zs : List Int} {k : Nat} (h : k < zs.length) : zs.drop k = zs.getD k 0 :: zs.drop (k + 1) := by
  rw [List.drop_eq_getElem_cons h]
  simp [List.getD, List.getElem?_eq_getElem h]
theorem getD_byte {zs : List Int} (hb : ∀ c ∈ zs, 0 ≤ c ∧ c < 256) (k : Nat) : 0 ≤ zs.getD k 0 ∧ zs.getD k 0 < 256 := by
  rw [List.getD_eq_getElem?_getD]
  cases e : zs[k]? with
  | none => simp
  | some x => exact hb x (List.mem_of_getElem? e)

theorem andNot128 (c : Int) (h0 : 0 ≤ c) (h1 : c < 256) : bits .andNot .u8 c 128 = c % 128 := by
  have key : ∀ n : Fin 256, bits .andNot .u8 (n.val : Int) 128 = (n.val : Int) % 128 := by decide +kernel
  have := key ⟨c.toNat, by omega⟩
  simpa [Int.toNat_of_nonneg h0] using this
theorem pw_two (j : Nat) : (2 : Int) ^ (7 * j) = 128 ^ j := by rw [Int.pow_mul]; rfl
/-- A digit is put ahead of those that are there. -/
theorem put_digit {y c : Int} {j : Nat} (hy0 : 0 ≤ y) (hy : y < 128 ^ j) (hj : j ≤ 9) (c0 : 0 ≤ c) (c1 : c < 256) (h9 : j = 9 → c ≤ 1) :
    bits .or .u64 y (IntKind.u64.wrap (IntKind.u64.wrap (bits .andNot .u8 c 128) * 2 ^ (7 * j))) = y + c % 128 * 128 ^ j := by
  rw [andNot128 c c0 c1, pw_two]
  have hp := pw_pos j
  have hd : 0 ≤ c % 128 ∧ c % 128 ≤ 127 := by omega
  have hlt : c % 128 * 128 ^ j + 128 ^ j ≤ 18446744073709551616 := by
    by_cases h : j = 9
    · subst h
      have := h9 rfl
      have e : (128 : Int) ^ 9 = 9223372036854775808 := by decide
      rw [e]; omega
    · have h2 := pw_le (i := j) (by omega)
      rw [pw_succ] at h2
      have e : (128 : Int) ^ 9 = 9223372036854775808 := by decide
      rw [e] at h2
      have h1 : c % 128 * 128 ^ j ≤ 127 * 128 ^ j := Int.mul_le_mul_of_nonneg_right hd.2 (Int.le_of_lt hp)
      omega
  have hnn : 0 ≤ c % 128 * 128 ^ j := Int.mul_nonneg hd.1 (Int.le_of_lt hp)
  have e1 : IntKind.u64.wrap (c % 128) = c % 128 := by rw [IntKind.wrap_u64]; omega
  rw [e1]
  have e2 : IntKind.u64.wrap (c % 128 * 128 ^ j) = c % 128 * 128 ^ j := by rw [IntKind.wrap_u64]; omega
  rw [e2, u64_or _ _ hy0 (by omega) hnn (by omega)]
  have e3 : (c % 128 * 128 ^ j).toNat = 2 ^ (7 * j) * (c % 128).toNat := by
    have h4 : ((2 ^ (7 * j) * (c % 128).toNat : Nat) : Int) = c % 128 * 128 ^ j := by
      rw [Int.natCast_mul, Int.natCast_pow, Int.toNat_of_nonneg hd.1, ← pw_two, Int.mul_comm]; rfl
    omega
  have hb : y.toNat < 2 ^ (7 * j) := by
    have h5 : ((2 ^ (7 * j) : Nat) : Int) = 128 ^ j := by rw [Int.natCast_pow, ← pw_two]; rfl
    omega
  rw [e3, Nat.or_comm, ← Nat.two_pow_add_eq_or_of_lt hb, ← e3]
  omega

set_option maxHeartbeats 2000000 in
theorem number_out (W0 : World) (a : Option Addr) (len cap : Nat) (zs : List Int) (p i : Nat) (w : World) (P : Pl W0 a len cap zs p i w) (res : Except Int (Int × Nat)) (hres : num (zs.drop i) = res) :
    Calls Tryd.prog 96 #[.pointer (some ⟨p, 0, none⟩)] w (Out W0 a len cap zs p i w (u64R res)) := by
  have HB : Hid (∀ c ∈ zs, 0 ≤ c ∧ c < 256) := P.row.byte
  have HL : Hid (zs.length = len) := P.row.size
  have HP : Hid (Pl W0 a len cap zs p i w) := P
  have HR : Hid (num (zs.drop i) = res) := hres
  clear hres
  obtain ⟨hk, hmax⟩ : p < w.heap.size ∧ len ≤ 70368744170000 := ⟨P.two.2.2.2.2, P.max⟩
  clear P
  go_enter Tryd.func96, Tryd.ntmps96
  go_wp2
  go_loopg [3, 4] 9 (fun g x s wr => ∃ (j : Nat) (y : Int), x = .int .u64 y ∧ s = .int .i64 (7 * (j : Int)) ∧ j + g = 9 ∧ 0 ≤ y ∧ Hid (y < 128 ^ j) ∧ y ≤ 18446744073709551615 ∧ Hid (numF (zs.drop (i + j)) j y = res) ∧ Hid (Pl W0 a len cap zs p (i + j) wr) ∧ Hid (Kp p w wr) ∧ i + j ≤ len)
  case atStart => exact ⟨0, 0, rfl, rfl, rfl, by omega, by show (0 : Int) < 128 ^ 0; simp, by omega, HR.out, HP.out, Kp.refl _ _, HP.out.le⟩
  case round =>
    obtain ⟨j, y, rfl, rfl, hg, hy0, HY, hy1, HE, HPj, HK, hle⟩ := hrel
    have hj : j ≤ 9 := by omega
    have HG : Hid (j + gk = 9) := hg
    clear hg
    by_cases hend : i + j = len
    · have E : res = .error 21 := by
        rw [← HE.out, List.drop_eq_nil_of_le (by have := HL.out; omega)]; rfl
      subst E
      go_wp2_with (go_at_call 98; refine (one_err W0 a len cap zs p (i + j) _ HPj.out hend).mono ?_; rintro e w1 ⟨rfl, hk1⟩)
      exact ⟨rfl, rfl, HK.out.trans hk1⟩
    · have hlt : i + j < len := by omega
      have hd := drop_cons (zs := zs) (k := i + j) (by have := HL.out; omega)
      rw [hd] at HE
      clear hd
      obtain ⟨c0, c1⟩ := getD_byte HB.out (i + j)
      obtain ⟨c, hc⟩ : ∃ c, zs.getD (i + j) 0 = c := ⟨_, rfl⟩
      rw [hc] at HE c0 c1
      have HC : Hid (zs.getD (i + j) 0 = c) := hc
      clear hc
      by_cases hz : c = 0
      · have hz' : (c == 0) = true := by simpa using hz
        have h1 : ¬ 1 < c := by omega
        have hl : c < 128 := by omega
        by_cases hj0 : j = 0
        · have hj7 : ¬ (0 : Int) < 7 * (j : Int) := by omega
          have hpd := put_digit (c := c) hy0 HY.out hj c0 c1 (fun h => by omega)
          have E : res = .ok (y + c * 128 ^ j, j + 1) := by rw [← HE.out, numF_last (by omega) hl]
          subst E
          rw [show c % 128 = c by omega] at hpd
          clear hz hj0
          go_wp2_with (go_at_call 98; refine (one_ok W0 a len cap zs p (i + j) _ HPj.out hlt).mono ?_; rintro e w1 ⟨rfl, hp1, hk1⟩; rw [HC.out])
          go_ret
          exact ⟨rfl, by rw [← Nat.add_assoc]; exact hp1, HK.out.trans hk1⟩
        · have hj7 : (0 : Int) < 7 * (j : Int) := by omega
          have E : res = .error 20 := by rw [← HE.out, numF_bad (.inl ⟨hz, by omega⟩)]
          subst E
          clear hz hj0
          go_wp2_with (first
            | (go_at_call 98; refine (one_ok W0 a len cap zs p (i + j) _ HPj.out hlt).mono ?_; rintro e w1 ⟨rfl, hp1, hk1⟩; rw [HC.out])
            | (go_at_call 95; refine (throw_any _ _).mono ?_; rintro e w' ⟨rfl, hw⟩; rw [hw]; clear hw))
          exact ⟨rfl, rfl, HK.out.trans hk1⟩
      · have hz' : (c == 0) = false := by simpa using hz
        by_cases h1 : 1 < c
        · by_cases h9 : j = 9
          · have h9' : ((7 * (j : Int)) == 63) = true := by simp; omega
            have E : res = .error 20 := by rw [← HE.out, numF_bad (.inr ⟨h1, h9⟩)]
            subst E
            clear h9
            go_wp2_with (first
              | (go_at_call 98; refine (one_ok W0 a len cap zs p (i + j) _ HPj.out hlt).mono ?_; rintro e w1 ⟨rfl, hp1, hk1⟩; rw [HC.out])
              | (go_at_call 95; refine (throw_any _ _).mono ?_; rintro e w' ⟨rfl, hw⟩; rw [hw]; clear hw))
            exact ⟨rfl, rfl, HK.out.trans hk1⟩
          · have h9' : ((7 * (j : Int)) == 63) = false := by simp; omega
            have hpd := put_digit (c := c) hy0 HY.out hj c0 c1 (fun h => absurd h h9)
            by_cases hl : c < 128
            · have E : res = .ok (y + c * 128 ^ j, j + 1) := by rw [← HE.out, numF_last (by omega) hl]
              subst E
              rw [show c % 128 = c by omega] at hpd
              go_wp2_with (go_at_call 98; refine (one_ok W0 a len cap zs p (i + j) _ HPj.out hlt).mono ?_; rintro e w1 ⟨rfl, hp1, hk1⟩; rw [HC.out])
              go_ret
              exact ⟨rfl, by rw [← Nat.add_assoc]; exact hp1, HK.out.trans hk1⟩
            · rw [show c % 128 = c - 128 by omega] at hpd
              have HE' : Hid (numF (zs.drop (i + (j + 1))) (j + 1) (y + (c - 128) * 128 ^ j) = res) := by
                show _ = _
                rw [← HE.out, numF_more (by omega) hl]; rfl
              go_wp2_with (go_at_call 98; refine (one_ok W0 a len cap zs p (i + j) _ HPj.out hlt).mono ?_; rintro e w1 ⟨rfl, hp1, hk1⟩; rw [HC.out])
              go_roundg (gk - 1)
              case measure => have := HG.out; omega
              case rel =>
                have hp := pw_pos j
                have h3 : (c - 128) * 128 ^ j ≤ 127 * 128 ^ j := Int.mul_le_mul_of_nonneg_right (by omega) (Int.le_of_lt hp)
                have h4 : 0 ≤ (c - 128) * 128 ^ j := Int.mul_nonneg (by omega) (Int.le_of_lt hp)
                have h5 := HY.out
                have h6 := pw_le (i := j) (by omega)
                have e : (128 : Int) ^ 9 = 9223372036854775808 := by decide
                rw [e, pw_succ] at h6
                exact ⟨j + 1, _, rfl, by go_num, by have := HG.out; omega, by omega, by show _ < _; rw [pw_succ]; omega, by omega, HE', hp1, HK.out.trans hk1, by omega⟩
        · have hl : c < 128 := by omega
          have hpd := put_digit (c := c) hy0 HY.out hj c0 c1 (fun h => by omega)
          have E : res = .ok (y + c * 128 ^ j, j + 1) := by rw [← HE.out, numF_last (by omega) hl]
          subst E
          rw [show c % 128 = c by omega] at hpd
          go_wp2_with (go_at_call 98; refine (one_ok W0 a len cap zs p (i + j) _ HPj.out hlt).mono ?_; rintro e w1 ⟨rfl, hp1, hk1⟩; rw [HC.out])
          go_ret
          exact ⟨rfl, by rw [← Nat.add_assoc]; exact hp1, HK.out.trans hk1⟩

end Go.Proofs.YticmjlnpjopfbaaDoor.C
