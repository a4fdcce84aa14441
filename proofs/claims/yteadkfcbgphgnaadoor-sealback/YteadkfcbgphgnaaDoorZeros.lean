/-
  What overZeros returns.
-/
import Derived.Test.YteadkfcbgphgnaaDoorSums

namespace Go.Proofs.YteadkfcbgphgnaaDoor
open Go.ChangeShapes Go.WideShapes Go.ChangeAt Go.RowKit
set_option linter.unusedVariables false

theorem odd64 (n : Nat) (h : n < 9223372036854775808) : bits .and .i64 (n : Int) 1 = ((n % 2 : Nat) : Int) := by
  show IntKind.i64.wrap ((BitVec.ofInt 64 (n : Int) &&& BitVec.ofInt 64 ((1 : Nat) : Int)).toNat : Int) = _
  rw [BitVec.toNat_and, ofInt_u64 n (by omega), ofInt_u64 1 (by omega), nat_mask1, IntKind.wrap_i64]
  omega
theorem half_odd (m k : Nat) (h : k % 2 = 1) : m * k = m + (m + m) * (k / 2) := by
  have e : k = 2 * (k / 2) + 1 := by omega
  obtain ⟨q, hq⟩ : ∃ q, k / 2 = q := ⟨_, rfl⟩
  rw [hq] at e ⊢
  rw [e, Nat.mul_add, Nat.mul_one, ← Nat.mul_assoc, Nat.mul_comm m 2, Nat.two_mul, Nat.add_comm]
theorem half_even (m k : Nat) (h : k % 2 = 0) : m * k = (m + m) * (k / 2) := by
  have e : k = 2 * (k / 2) := by omega
  obtain ⟨q, hq⟩ : ∃ q, k / 2 = q := ⟨_, rfl⟩
  rw [hq] at e ⊢
  rw [e, ← Nat.mul_assoc, Nat.mul_comm m 2, Nat.two_mul]

set_option maxHeartbeats 2000000 in
theorem overZeros_any (s n : Nat) (w : World) (hs : s < 4294967296) (hn : n ≤ 9223372036854775807) :
    Calls Tryd.prog 33 #[.int .u32 s, .int .i64 n] w fun e w' => e = .returned (.int .u32 ((crcR s (zer (8 * n)) : Nat) : Int)) ∧ w' = w := by
  go_enter Tryd.func33, Tryd.ntmps33
  go_wp2
  go_loopg [0, 1, 5] n (fun g st nn pw wr => ∃ (t k m P : Nat), st = .int .u32 t ∧ nn = .int .i64 k ∧ pw = .int .u32 P ∧ t < 4294967296 ∧ Hid (P = pwx m) ∧ k ≤ g ∧ k ≤ n ∧ Hid (crcR s (zer (8 * n)) = crcR t (zer (m * k))) ∧ wr = w)
  case atStart => exact ⟨s, n, 8, 8388608, rfl, rfl, rfl, hs, pwx_eight.symm, by omega, by omega, rfl, rfl⟩
  case round =>
    obtain ⟨t, k, m, P, rfl, rfl, rfl, htl, HP, hkg, hkn, HT, rfl⟩ := hrel
    rcases Nat.eq_zero_or_pos k with h0 | hpos
    · subst h0
      go_wp2
      go_ret
      refine ⟨ret_u32 ?_, rfl⟩
      rw [HT.out]
      rfl
    · have hP : P < 4294967296 := by rw [HP.out]; exact pwx_lt m
      have ho := odd64 k (by omega)
      have HSq : Hid (tm 32 P P = pwx (m + m)) := by show _ = _; rw [HP.out]; exact tm_square m
      have HSt : Hid (tm 32 t P = crcR t (zer m)) := by show _ = _; rw [HP.out]; exact tm_state t m htl
      obtain ⟨P2, hP2⟩ : ∃ x, tm 32 P P = x := ⟨_, rfl⟩
      obtain ⟨t2, ht2⟩ : ∃ x, tm 32 t P = x := ⟨_, rfl⟩
      have HP2 : Hid (P2 = pwx (m + m)) := by show _ = _; rw [← hP2]; exact HSq.out
      have ht2l : t2 < 4294967296 := by rw [← ht2, HSt.out]; exact crcR_lt _ htl
      have K1 := times_any P P wr hP hP
      have K2 := times_any t P wr htl hP
      rw [hP2] at K1
      rw [ht2] at K2
      by_cases h2 : k % 2 = 1
      · rw [h2] at ho
        have HT2 : Hid (crcR s (zer (8 * n)) = crcR t2 (zer ((m + m) * (k / 2)))) := by
          show _ = _
          rw [HT.out, ← ht2, HSt.out, ← crc_zz, half_odd m k h2]
        clear HSq HSt hP2 ht2 HT HP
        go_wp2_with (first
          | (go_at_call 34; refine K2.mono ?_; rintro e w' ⟨rfl, hw⟩; rw [hw]; clear hw K2)
          | (go_at_call 34; refine K1.mono ?_; rintro e w' ⟨rfl, hw⟩; rw [hw]; clear hw K1))
        go_roundg (gk - 1)
        case measure => omega
        case rel => exact ⟨t2, k / 2, m + m, P2, by first | rfl | go_num, by first | rfl | go_num, by first | rfl | go_num, ht2l, HP2, by omega, by omega, HT2, rfl⟩
      · have h3 : k % 2 = 0 := by omega
        rw [h3] at ho
        have HT2 : Hid (crcR s (zer (8 * n)) = crcR t (zer ((m + m) * (k / 2)))) := by
          show _ = _
          rw [HT.out, half_even m k h3]
        clear HSq HSt hP2 ht2 HT HP K2
        go_wp2_with (go_at_call 34; refine K1.mono ?_; rintro e w' ⟨rfl, hw⟩; rw [hw]; clear hw K1)
        go_roundg (gk - 1)
        case measure => omega
        case rel => exact ⟨t, k / 2, m + m, P2, by first | rfl | go_num, by first | rfl | go_num, by first | rfl | go_num, htl, HP2, by omega, by omega, HT2, rfl⟩

end Go.Proofs.YteadkfcbgphgnaaDoor
