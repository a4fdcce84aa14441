/-
  Bytes as bits; frames with a sum behind them; and a frame with a stretch of at most 32 bits turned is told.
-/
import Derived.Test.YtaacggbfoejjhaaDoorSCrc
namespace Go.Proofs.YtaacggbfoejjhaaDoor.S
set_option linter.unusedVariables false
set_option linter.unusedSimpArgs false

theorem bitsN_add : ∀ (a b x : Nat), bitsN (a + b) x = bitsN a x ++ bitsN b (x / 2 ^ a)
  | 0, b, x => by simp [bitsN]
  | a + 1, b, x => by
    rw [show a + 1 + b = (a + b) + 1 by omega, bitsN, bitsN, bitsN_add a b (x / 2), List.cons_append, Nat.div_div_eq_div_mul, show 2 * 2 ^ a = 2 ^ (a + 1) by rw [Nat.pow_succ]; omega]
theorem bitsN_mod : ∀ (n x : Nat), bitsN n (x % 2 ^ n) = bitsN n x
  | 0, _ => rfl
  | n + 1, x => by
    have e1 : x % 2 ^ (n + 1) % 2 = x % 2 := by
      rw [Nat.pow_succ, Nat.mod_mul_left_mod]
    have e2 : x % 2 ^ (n + 1) / 2 = x / 2 % 2 ^ n := by
      rw [Nat.pow_succ, Nat.mul_comm, Nat.mod_mul_right_div_self]
    rw [bitsN, bitsN, e1, e2, bitsN_mod n]
theorem bitsN_get : ∀ (n x i : Nat), (bitsN n x)[i]? = if i < n then some (x.testBit i) else none
  | 0, x, i => by simp [bitsN]
  | n + 1, x, 0 => by
    rw [bitsN, List.getElem?_cons_zero, if_pos (by omega), Nat.testBit_zero]
    congr 1
  | n + 1, x, i + 1 => by
    rw [bitsN, List.getElem?_cons_succ, bitsN_get n, Nat.testBit_succ]
    by_cases h : i < n
    · rw [if_pos h, if_pos (by omega)]
    · rw [if_neg h, if_neg (by omega)]
/-- The bits of bytes. -/
def bitsL (l : List Int) : List Bool := l.flatMap fun z => bitsN 8 z.toNat
theorem bitsL_cons (z : Int) (l : List Int) : bitsL (z :: l) = bitsN 8 z.toNat ++ bitsL l := rfl
theorem bitsL_app (l m : List Int) : bitsL (l ++ m) = bitsL l ++ bitsL m := List.flatMap_append
theorem bitsL_len : ∀ l : List Int, (bitsL l).length = 8 * l.length
  | [] => rfl
  | z :: l => by rw [bitsL_cons, List.length_append, bitsN_len, bitsL_len l, List.length_cons]; omega
theorem bitsL_get : ∀ (l : List Int) (k : Nat), (bitsL l)[k]? = if k < 8 * l.length then some ((l.getD (k / 8) 0).toNat.testBit (k % 8)) else none
  | [], k => by simp [bitsL]
  | z :: l, k => by
    rw [bitsL_cons, List.length_cons]
    by_cases h : k < 8
    · rw [List.getElem?_append_left (by rw [bitsN_len]; exact h), bitsN_get, if_pos h, if_pos (by omega), show k / 8 = 0 by omega, show k % 8 = k by omega]
      rfl
    · rw [List.getElem?_append_right (by rw [bitsN_len]; omega), bitsN_len, bitsL_get l (k - 8)]
      by_cases h2 : k - 8 < 8 * l.length
      · rw [if_pos h2, if_pos (by omega), show k / 8 = (k - 8) / 8 + 1 by omega, show k % 8 = (k - 8) % 8 by omega]
        rfl
      · rw [if_neg h2, if_neg (by omega)]
/-- Four bytes of a sum, the lowest first. -/
def le4 (s : Nat) : List Int := [((s % 256 : Nat) : Int), ((s / 256 % 256 : Nat) : Int), ((s / 65536 % 256 : Nat) : Int), ((s / 16777216 % 256 : Nat) : Int)]
theorem bits_le4 (s : Nat) : bitsL (le4 s) = bitsN 32 s := by
  have m : ∀ x : Nat, bitsN 8 (x % 256) = bitsN 8 x := fun x => bitsN_mod 8 x
  rw [show (32 : Nat) = 8 + (8 + (8 + 8)) from rfl, bitsN_add, bitsN_add, bitsN_add]
  simp only [le4, bitsL_cons, Int.toNat_natCast, m, Nat.div_div_eq_div_mul]
  simp [bitsL]
/-- The sum of bytes. -/
def sumB (l : List Int) : Nat := crcR 4294967295 (bitsL l) ^^^ 4294967295
theorem sumB_lt (l : List Int) : sumB l < 4294967296 := Nat.xor_lt_two_pow (n := 32) (crcR_lt _ (by decide)) (by decide)
/-- A row of bytes with its sum behind it. -/
def summed (l : List Int) : List Int := l ++ le4 (sumB l)
theorem summed_bits (l : List Int) : bitsL (summed l) = bitsL l ++ bitsN 32 (crcR 4294967295 (bitsL l) ^^^ 4294967295) := by
  unfold summed
  rw [bitsL_app, bits_le4]
  rfl
/-- Two summed rows of one length that differ in a stretch of at most 32 bits do not differ. -/
theorem summed_told (l m : List Int) (h : l.length = m.length) (a z : Nat) (B : List Bool) (hB : B.length ≤ 32)
    (hd : List.zipWith (· != ·) (bitsL (summed l)) (bitsL (summed m)) = zer a ++ (B ++ zer z)) : B = zer B.length := by
  have k := crc_two 4294967295 (bitsL l) (bitsL m) (by rw [bitsL_len, bitsL_len, h]) (by decide) 4294967295 (by decide)
  rw [← summed_bits, ← summed_bits, hd] at k
  exact crc_burst a z B hB k
/-- One bit is turned. -/
theorem flip_bits (l : List Int) (k : Nat) (hk : k < 8 * l.length) :
    bitsL (l.set (k / 8) (((l.getD (k / 8) 0).toNat ^^^ 2 ^ (k % 8) : Nat) : Int)) = (bitsL l).set k (!((l.getD (k / 8) 0).toNat.testBit (k % 8))) := by
  apply List.ext_getElem?
  intro i
  rw [bitsL_get, List.length_set, List.getElem?_set, bitsL_len, bitsL_get]
  by_cases hi : i < 8 * l.length
  · rw [if_pos hi]
    by_cases hb : i / 8 = k / 8
    · rw [hb, List.getD_eq_getElem?_getD, List.getElem?_set, if_pos rfl, if_pos (by omega), Option.getD_some, Int.toNat_natCast, Nat.testBit_xor, Nat.testBit_two_pow]
      by_cases hik : k = i
      · subst hik
        rw [if_pos rfl, if_pos hk]
        simp
      · rw [if_neg hik, show decide (k % 8 = i % 8) = false by simp; omega, if_pos hi]
        simp [hb]
    · have hik : ¬ k = i := fun e => hb (by rw [e])
      rw [if_neg hik, if_pos hi, List.getD_eq_getElem?_getD, List.getElem?_set, if_neg (fun e => hb e.symm), ← List.getD_eq_getElem?_getD]
  · rw [if_neg hi]
    by_cases hik : k = i
    · omega
    · rw [if_neg hik, if_neg hi]

end Go.Proofs.YtaacggbfoejjhaaDoor.S
