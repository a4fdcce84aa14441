/-
  Sums four bits at a time by a table; products of states; a state behind zeros; the sum of a stretch out of the states at its two ends.
-/
import Derived.Test.YtaacggbfoejjhaaDoorSSpoil
namespace Go.Proofs.YtaacggbfoejjhaaDoor.S
set_option linter.unusedVariables false
set_option linter.unusedSimpArgs false

def leafL : List Nat := [0x00000000, 0x1db71064, 0x3b6e20c8, 0x26d930ac, 0x76dc4190, 0x6b6b51f4, 0x4db26158, 0x5005713c, 0xedb88320, 0xf00f9344, 0xd6d6a3e8, 0xcb61b38c, 0x9b64c2b0, 0x86d3d2d4, 0xa00ae278, 0xbdbdf21c]
def leaf (i : Nat) : Nat := leafL.getD i 0
theorem leaf_eq : ∀ i : Fin 16, crcR i.val (zer 4) = leaf i.val := by decide +kernel
theorem leaf_lt (i : Nat) : leaf i < 4294967296 := by
  by_cases h : i < 16
  · have : ∀ j : Fin 16, leaf j.val < 4294967296 := by decide +kernel
    exact this ⟨i, h⟩
  · unfold leaf
    rw [List.getD_eq_getElem?_getD, List.getElem?_eq_none (by simp [leafL]; omega)]
    decide
theorem split_low4 (x : Nat) : x = x % 16 ^^^ 2 ^ 4 * (x / 16) := by
  apply Nat.eq_of_testBit_eq
  intro i
  have h16 : (16 : Nat) = 2 ^ 4 := rfl
  rw [Nat.testBit_xor, h16, Nat.testBit_mod_two_pow, Nat.testBit_two_pow_mul, Nat.testBit_div_two_pow]
  by_cases hi : i < 4
  · simp [hi, show ¬ 4 ≤ i by omega]
  · simp [hi, show 4 ≤ i by omega]
/-- Four bits go out. -/
def nib (x : Nat) : Nat := x / 16 ^^^ leaf (x % 16)
theorem crc_nib (x : Nat) : crcR x (zer 4) = nib x := by
  have h := crc_lin (x % 16) (2 ^ 4 * (x / 16)) 4
  rw [← split_low4, crc_shift, leaf_eq ⟨x % 16, by omega⟩] at h
  rw [h, Nat.xor_comm]
  rfl
theorem zer_add (a b : Nat) : zer (a + b) = zer a ++ zer b := by
  unfold zer
  rw [List.replicate_append_replicate]
theorem crc_zz (s a b : Nat) : crcR s (zer (a + b)) = crcR (crcR s (zer a)) (zer b) := by
  rw [zer_add, crcR_app]
theorem nib_lt {x : Nat} (h : x < 4294967296) : nib x < 4294967296 := by
  rw [← crc_nib]
  exact crcR_lt _ h
/-- A byte is read, four bits and four bits. -/
theorem crc_over (s z : Nat) (hz : z < 256) : crcR s (bitsN 8 z) = nib (nib (s ^^^ z)) := by
  rw [crc_byte s z hz, show (8 : Nat) = 4 + 4 from rfl, crc_zz, crc_nib, crc_nib]
/-- A product of states, as the program reckons it: the bits of one from the highest on, and the other shifted. -/
def tm : Nat → Nat → Nat → Nat
  | 0, _, _ => 0
  | i + 1, a, b => (if a.testBit i then b else 0) ^^^ tm i a (crcS b false)
theorem mod_top (a i : Nat) : a % 2 ^ (i + 1) = (if a.testBit i then 2 ^ i else 0) ^^^ a % 2 ^ i := by
  apply Nat.eq_of_testBit_eq
  intro j
  rw [Nat.testBit_xor, Nat.testBit_mod_two_pow, Nat.testBit_mod_two_pow]
  by_cases hj : j = i
  · subst hj
    cases h : a.testBit j <;> simp [h]
  · have hne : (2 ^ i).testBit j = false := by rw [Nat.testBit_two_pow]; simp; omega
    cases h : a.testBit i
    · simp
      by_cases hl : j < i
      · simp [hl, show j < i + 1 by omega]
      · simp [hl, show ¬ j < i + 1 by omega]
    · simp only [if_true, hne]
      by_cases hl : j < i
      · simp [hl, show j < i + 1 by omega]
      · simp [hl, show ¬ j < i + 1 by omega]
theorem crc_snocz (s m : Nat) : crcS (crcR s (zer m)) false = crcR (crcS s false) (zer m) := by
  have h1 : crcR s (zer (m + 1)) = crcR (crcR s (zer m)) (zer 1) := crc_zz s m 1
  have h2 : crcR s (zer (m + 1)) = crcR (crcS s false) (zer m) := rfl
  rw [h2] at h1
  exact h1.symm
theorem tm_pow : ∀ (i a m : Nat), tm i a (crcR (2 ^ i / 2) (zer m)) = crcR (a % 2 ^ i) (zer m)
  | 0, a, m => by
    show 0 = crcR (a % 1) (zer m)
    rw [Nat.mod_one, crcR_zer]
  | i + 1, a, m => by
    have e : 2 ^ (i + 1) / 2 = 2 ^ i := by rw [Nat.pow_succ]; omega
    rw [e, tm, mod_top, crc_lin, crc_snocz]
    have e2 : tm i a (crcR (crcS (2 ^ i) false) (zer m)) = tm i a (crcR (2 ^ i / 2) (zer m)) := by
      cases i with
      | zero => rfl
      | succ i =>
        rw [show 2 ^ (i + 1) = 2 * 2 ^ i by rw [Nat.pow_succ]; omega, crcS_even]
        congr 2
        omega
    rw [e2, tm_pow i a m]
    congr 1
    split
    · rfl
    · rw [crcR_zer]
/-- A power of x. -/
def pwx (m : Nat) : Nat := crcR 2147483648 (zer m)
theorem pwx_lt (m : Nat) : pwx m < 4294967296 := crcR_lt _ (by decide)
theorem tm_state (a m : Nat) (h : a < 4294967296) : tm 32 a (pwx m) = crcR a (zer m) := by
  have := tm_pow 32 a m
  rw [show (2 : Nat) ^ 32 / 2 = 2147483648 from rfl, show a % 2 ^ 32 = a from Nat.mod_eq_of_lt h] at this
  exact this
theorem tm_square (m : Nat) : tm 32 (pwx m) (pwx m) = pwx (m + m) := by
  rw [tm_state _ _ (pwx_lt m), pwx, pwx, crc_zz]
theorem pwx_eight : pwx 8 = 8388608 := by decide +kernel
/-- The state behind the first n bytes, begun with 0. -/
def beh (l : List Int) (n : Nat) : Nat := crcR 0 (bitsL (l.take n))
theorem beh_lt (l : List Int) (n : Nat) : beh l n < 4294967296 := crcR_lt _ (by decide)
theorem crc_two_states : ∀ (s t : Nat) (l : List Bool), crcR (s ^^^ t) l = crcR s l ^^^ crcR t (zer l.length) := by
  intro s t l
  have h := crcR_xor l (zer l.length) s t (by simp [zer])
  have e : List.zipWith (· != ·) l (zer l.length) = l := by
    apply List.ext_getElem?
    intro i
    rw [List.getElem?_zipWith]
    unfold zer
    rw [List.getElem?_replicate]
    by_cases hi : i < l.length
    · rw [if_pos hi, List.getElem?_eq_getElem hi]
      simp
    · rw [if_neg hi, List.getElem?_eq_none (by omega)]
  rw [e] at h
  exact h
/-- The sum of a stretch. -/
theorem stretch_sum (l : List Int) (a b : Nat) (hab : a ≤ b) (hb : b ≤ l.length) :
    (beh l b ^^^ crcR (beh l a ^^^ 4294967295) (zer (8 * (b - a)))) ^^^ 4294967295 = sumB ((l.drop a).take (b - a)) := by
  unfold sumB
  congr 1
  have e : l.take b = l.take a ++ (l.drop a).take (b - a) := by
    rw [← List.take_add]
    congr 1
    omega
  have hlen : (bitsL ((l.drop a).take (b - a))).length = 8 * (b - a) := by
    rw [bitsL_len, List.length_take, List.length_drop]
    congr 1
    omega
  have h := crc_two_states (beh l a) (beh l a ^^^ 4294967295) (bitsL ((l.drop a).take (b - a)))
  rw [hlen, ← Nat.xor_assoc, Nat.xor_self, Nat.zero_xor] at h
  rw [h]
  congr 1
  unfold beh
  rw [e, bitsL_app, crcR_app]
theorem beh_on (l : List Int) (a b : Nat) (hab : a ≤ b) : crcR (beh l a) (bitsL ((l.drop a).take (b - a))) = beh l b := by
  have e : l.take b = l.take a ++ (l.drop a).take (b - a) := by
    rw [← List.take_add]
    congr 1
    omega
  unfold beh
  rw [e, bitsL_app, crcR_app]
theorem sumB_on (l : List Int) : crcR 4294967295 (bitsL l) ^^^ 4294967295 = sumB l := rfl

end Go.Proofs.YtaacggbfoejjhaaDoor.S
