/-
  How many bytes a number takes (Size), and the zig-zag of a signed number (fold).
-/
import Derived.Test.YticmjlnpjopfbaaDoorProg
import Derived.Test.YticmjlnpjopfbaaDoorCMath
import Derived.Test.YticmjlnpjopfbaaDoorCShelf
import Derived.WalkKit
import Derived.ProofKit
import Derived.Handy
import Derived.Below
import Derived.Laws.BitsAll
import Derived.Laws.Bits128
namespace Go.Proofs.YticmjlnpjopfbaaDoor.C
open Go.ChangeShapes Go.WideShapes Go.ChangeAt Go.RowKit
set_option linter.unusedVariables false

theorem ret_i64 {a b : Int} (h : a = b) : Ending.returned (.int .i64 a) = .returned (.int .i64 b) := by rw [h]
theorem ret_u64 {a b : Int} (h : a = b) : Ending.returned (.int .u64 a) = .returned (.int .u64 b) := by rw [h]

theorem nat_or_one (n : Nat) : n ||| 1 = 2 * (n / 2) + 1 := by
  have h1 := Nat.two_pow_add_eq_or_of_lt (i := 1) (b := n % 2) (by omega) (n / 2)
  have h2 := Nat.two_pow_add_eq_or_of_lt (i := 1) (b := 1) (by omega) (n / 2)
  have e : n = 2 ^ 1 * (n / 2) + n % 2 := by omega
  rw [h1] at e
  have e3 : n % 2 ||| 1 = 1 := by have : n % 2 = 0 ∨ n % 2 = 1 := by omega
                                  rcases this with h | h <;> rw [h] <;> rfl
  rw [e, Nat.or_assoc]
  rw [← e]
  rw [e3, ← h2]
theorem or_one (x : Int) (h0 : 0 ≤ x) (h1 : x < 18446744073709551616) : bits .or .u64 x 1 = 2 * (x / 2) + 1 := by
  go_bits2
  rw [nat_or_one]; omega

def odd (n : Nat) : Nat := 2 * (n / 2) + 1
theorem small_len : ∀ n : Fin 128, (Lib.bitLen (odd n.val) + 6) / 7 = 1 := by decide +kernel
theorem bitLen_odd (n : Nat) (h0 : n ≠ 0) (h : n < 2 ^ 64) : Lib.bitLen (odd n) = Lib.bitLen n := by
  have ho : odd n ≠ 0 := by unfold odd; omega
  have ho' : odd n < 2 ^ 64 := by unfold odd; omega
  rw [Lib.bitLen_half _ ho ho', Lib.bitLen_half _ h0 h]
  congr 2
  unfold odd; omega
theorem size_enc (k : Nat) (hk : k ≤ 9) (n : Nat) (h : (n : Int) < 2 * 128 ^ k) : (Lib.bitLen (odd n) + 6) / 7 = (encF k (n : Int)).length := by
  induction k generalizing n with
  | zero => simp at h; exact small_len ⟨n, by omega⟩
  | succ k ih =>
    by_cases hx : (127 : Int) < (n : Int)
    · rw [encF_more hx]
      have h64 : n < 2 ^ 64 := by
        have : (2 : Int) * 128 ^ (k + 1) ≤ 2 * 128 ^ 9 := by have := pw_le (i := k) (by omega); omega
        rw [top_eq] at this; omega
      have hs := left_step (by omega) h
      have ec : (n : Int) / 128 = ((n / 128 : Nat) : Int) := by omega
      rw [ec] at hs ⊢
      have := ih (by omega) (n / 128) hs
      rw [List.length_cons, ← this]
      have e1 : Lib.bitLen (odd n) = 7 + Lib.bitLen (odd n / 128) := Lib.bitLen_shift 7 (odd n) (by unfold odd; omega) (by unfold odd; omega)
      have e2 : odd n / 128 = n / 128 := by unfold odd; omega
      rw [e1, e2, bitLen_odd (n / 128) (by omega) (by omega)]
      omega
    · rw [encF_last hx]
      exact small_len ⟨n, by omega⟩
theorem size_eq {x : Int} (h0 : 0 ≤ x) (h : x ≤ 18446744073709551615) : (Lib.bitLen (2 * (x / 2) + 1).toNat + 6) / 7 = (enc x).length := by
  have := size_enc 9 (by omega) x.toNat (by rw [top_eq]; omega)
  have e : ((x.toNat : Nat) : Int) = x := by omega
  rw [e] at this
  rw [← show (odd x.toNat) = (2 * (x / 2) + 1).toNat by unfold odd; omega]
  exact this
theorem bitLen_max (n : Nat) (h : n < 2 ^ 64) : Lib.bitLen n ≤ 64 := by
  by_cases h0 : n = 0
  · subst h0; decide
  · have hs := size_enc 9 (by omega) n (by rw [top_eq]; omega)
    rw [bitLen_odd n h0 h] at hs
    by_cases h32 : 2 ^ 56 ≤ n
    · rw [Lib.bitLen_shift 56 n h32 h]
      exact Nat.add_le_add_left (Lib.bitLen_le8 ⟨n / 2 ^ 56, by omega⟩) 56
    · have := (encF_length 9 (n : Int)).2
      by_cases h9 : n < 2 ^ 56
      · have := size_enc 8 (by omega) n (by have e : (2 : Int) * 128 ^ 8 = 144115188075855872 := by decide
                                            rw [e]; omega)
        have := (encF_length 8 (n : Int)).2
        rw [bitLen_odd n h0 h] at *
        omega
      · omega

end Go.Proofs.YticmjlnpjopfbaaDoor.C
