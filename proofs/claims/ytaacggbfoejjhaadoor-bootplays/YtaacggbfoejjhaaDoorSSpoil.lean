/-
  Sums byte after byte (with a table, or eight shifts a byte), and bits turned one after the other.
-/
import Derived.Test.YtaacggbfoejjhaaDoorSStream
namespace Go.Proofs.YtaacggbfoejjhaaDoor.S
set_option linter.unusedVariables false
set_option linter.unusedSimpArgs false

/-- A byte is read: it is laid onto the register, and eight bits go out. -/
theorem crc_byte (s z : Nat) (hz : z < 256) : crcR s (bitsN 8 z) = crcR (s ^^^ z) (zer 8) := by
  rw [crcR_num, bitsN_num 8 z hz, bitsN_len]
theorem zer_xor (n : Nat) : List.zipWith (· != ·) (zer n) (zer n) = zer n := by
  unfold zer
  rw [List.zipWith_replicate]
  simp
theorem crc_lin (x y n : Nat) : crcR (x ^^^ y) (zer n) = crcR x (zer n) ^^^ crcR y (zer n) := by
  have h := crcR_xor (zer n) (zer n) x y rfl
  rw [zer_xor] at h
  exact h
theorem crc_shift : ∀ (k y : Nat), crcR (2 ^ k * y) (zer k) = y
  | 0, y => by simp [zer, crcR]
  | k + 1, y => by
    show crcR (crcS (2 ^ (k + 1) * y) false) (zer k) = y
    rw [show 2 ^ (k + 1) * y = 2 * (2 ^ k * y) by rw [Nat.pow_succ, Nat.mul_comm (2 ^ k) 2, Nat.mul_assoc], crcS_even]
    exact crc_shift k y
theorem split_low (x : Nat) : x = x % 256 ^^^ 2 ^ 8 * (x / 256) := by
  apply Nat.eq_of_testBit_eq
  intro i
  have h256 : (256 : Nat) = 2 ^ 8 := rfl
  rw [Nat.testBit_xor, h256, Nat.testBit_mod_two_pow, Nat.testBit_two_pow_mul, Nat.testBit_div_two_pow]
  by_cases hi : i < 8
  · simp [hi, show ¬ 8 ≤ i by omega]
  · simp [hi, show 8 ≤ i by omega]
/-- The table's way. -/
theorem crc_table (x : Nat) : crcR x (zer 8) = crcR (x % 256) (zer 8) ^^^ x / 256 := by
  have h := crc_lin (x % 256) (2 ^ 8 * (x / 256)) 8
  rw [← split_low, crc_shift] at h
  exact h
theorem crc_bytes : ∀ (l : List Int) (s : Nat), crcR s (bitsL l) = l.foldl (fun s z => crcR s (bitsN 8 z.toNat)) s
  | [], s => rfl
  | z :: l, s => by rw [bitsL_cons, crcR_app, crc_bytes l, List.foldl_cons]
theorem crc_snoc (l : List Int) (z : Int) (s : Nat) : crcR s (bitsL (l ++ [z])) = crcR (crcR s (bitsL l)) (bitsN 8 z.toNat) := by
  rw [bitsL_app, crcR_app]
  congr 1
theorem bitsN_snoc : ∀ (n x : Nat), bitsN (n + 1) x = bitsN n x ++ [x.testBit n] := fun n x => by
  rw [bitsN_add n 1 x]
  congr 1
  simp only [bitsN]
  congr 1
  rw [Nat.testBit_eq_decide_div_mod_eq]
  rcases Nat.mod_two_eq_zero_or_one (x / 2 ^ n) with h | h <;> rw [h] <;> rfl
/-- One more bit stands behind those that were turned or not. -/
theorem turn_not (X Y : List Bool) (a m : Nat) (C : List Bool) (h : List.zipWith (· != ·) X Y = zer a ++ (C ++ zer (m + 1))) :
    List.zipWith (· != ·) X Y = zer a ++ ((C ++ [false]) ++ zer m) := by
  rw [h, List.append_assoc C]
  rfl
theorem turn_one (X Y : List Bool) (a m : Nat) (C : List Bool) (hl : X.length = Y.length) (h : List.zipWith (· != ·) X Y = zer a ++ (C ++ zer (m + 1))) (y : Bool) (hy : Y[a + C.length]? = some y) :
    List.zipWith (· != ·) X (Y.set (a + C.length) (!y)) = zer a ++ ((C ++ [true]) ++ zer m) := by
  have e : zer a ++ ((C ++ [true]) ++ zer m) = (zer a ++ (C ++ zer (m + 1))).set (a + C.length) true := by
    have e0 : zer a ++ (C ++ zer (m + 1)) = (zer a ++ C) ++ (false :: zer m) := by rw [List.append_assoc]; rfl
    have e1 : zer a ++ ((C ++ [true]) ++ zer m) = (zer a ++ C) ++ (true :: zer m) := by simp
    have el : (zer a ++ C).length = a + C.length := by simp [zer]
    rw [e0, e1, ← el, List.set_append_right _ _ (Nat.le_refl _), Nat.sub_self]
    rfl
  rw [e, ← h]
  have hk : (List.zipWith (· != ·) X Y)[a + C.length]? = some false := by
    have el : (zer a ++ C).length = a + C.length := by simp [zer]
    rw [h, ← List.append_assoc, List.getElem?_append_right (by omega), el, Nat.sub_self]
    rfl
  rw [List.getElem?_zipWith, hy] at hk
  apply List.ext_getElem?
  intro i
  rw [List.getElem?_zipWith, List.getElem?_set, List.getElem?_set, List.getElem?_zipWith, List.length_zipWith]
  by_cases hi : a + C.length = i
  · subst hi
    have hlt : a + C.length < Y.length := (List.getElem?_eq_some_iff.1 hy).1
    rw [if_pos rfl, if_pos hlt, if_pos rfl, if_pos (by omega)]
    cases hX : X[a + C.length]? with
    | none =>
      have := List.getElem?_eq_none_iff.1 hX
      omega
    | some x =>
      rw [hX] at hk
      simp at hk ⊢
      subst hk
      cases x <;> rfl
  · rw [if_neg hi, if_neg hi]
/-- The bits of a number below 2^n are all 0 only where it is 0. -/
theorem bitsN_zer (n x : Nat) (h : bitsN n x = zer n) (i : Nat) (hi : i < n) : x.testBit i = false := by
  have := bitsN_get n x i
  rw [h, if_pos hi] at this
  simpa [zer, hi] using this.symm

end Go.Proofs.YtaacggbfoejjhaaDoor.S
