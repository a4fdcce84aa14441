/-
  Numbers as bytes, seven bits a byte: how they are written, how they are read; plain mathematics.
-/
import Derived.WalkKit
namespace Go.Proofs.YticmjlnpjopfbaaDoor.C
set_option linter.unusedVariables false

/-- A number from 0 on, in at most k + 1 bytes. -/
def encF : Nat → Int → List Int
  | 0, x => [x]
  | k + 1, x => if 127 < x then (x % 128 + 128) :: encF k (x / 128) else [x]
/-- A number from 0 on. -/
def enc (x : Int) : List Int := encF 9 x

theorem pw_succ (k : Nat) : (128 : Int) ^ (k + 1) = 128 * 128 ^ k := by rw [Int.pow_succ, Int.mul_comm]
theorem pw_pos (k : Nat) : (0 : Int) < 128 ^ k := Int.pow_pos (by decide)
theorem pw_le {i : Nat} (h : i < 9) : (128 : Int) ^ (i + 1) ≤ 128 ^ 9 := by
  have : i = 0 ∨ i = 1 ∨ i = 2 ∨ i = 3 ∨ i = 4 ∨ i = 5 ∨ i = 6 ∨ i = 7 ∨ i = 8 := by omega
  rcases this with rfl | rfl | rfl | rfl | rfl | rfl | rfl | rfl | rfl <;> decide
theorem top_eq : (2 : Int) * 128 ^ 9 = 18446744073709551616 := by decide

theorem encF_more {k : Nat} {x : Int} (h : 127 < x) : encF (k + 1) x = (x % 128 + 128) :: encF k (x / 128) := by simp [encF, h]
theorem encF_last {k : Nat} {x : Int} (h : ¬ 127 < x) : encF k x = [x] := by cases k <;> simp [encF, h]
/-- What is left is small enough. -/
theorem left_step {k : Nat} {x : Int} (h0 : 0 ≤ x) (h : x < 2 * 128 ^ (k + 1)) : x / 128 < 2 * 128 ^ k := by
  rw [pw_succ] at h; omega
theorem left_none {x : Int} (h : x < 2 * 128 ^ 0) : ¬ 127 < x := by simp at h; omega

theorem encF_length (k : Nat) (x : Int) : 1 ≤ (encF k x).length ∧ (encF k x).length ≤ k + 1 := by
  induction k generalizing x with
  | zero => simp [encF]
  | succ k ih =>
    simp only [encF]
    split
    · have := ih (x / 128); simp; omega
    · simp
theorem enc_length (x : Int) : 1 ≤ (enc x).length ∧ (enc x).length ≤ 10 := encF_length 9 x

/-- Every sign that is written is a byte. -/
theorem encF_byte {k : Nat} {x : Int} (h0 : 0 ≤ x) (h : x < 2 * 128 ^ k) : ∀ c ∈ encF k x, 0 ≤ c ∧ c < 256 := by
  induction k generalizing x with
  | zero => intro c hc; simp [encF] at hc; subst hc; simp at h; omega
  | succ k ih =>
    intro c hc
    by_cases hx : 127 < x
    · rw [encF_more hx] at hc
      simp only [List.mem_cons] at hc
      rcases hc with rfl | hc
      · omega
      · exact ih (by omega) (left_step h0 h) c hc
    · rw [encF_last hx] at hc
      simp at hc; subst hc; omega
theorem enc_byte {x : Int} (h0 : 0 ≤ x) (h : x ≤ 18446744073709551615) : ∀ c ∈ enc x, 0 ≤ c ∧ c < 256 :=
  encF_byte h0 (by rw [top_eq]; omega)

/-! ### Reading -/
/-- Reads a number: i bytes have been read, x of it is there. The number, and how many bytes it has; or an error. -/
def numF : List Int → Nat → Int → Except Int (Int × Nat)
  | [], _, _ => .error 21
  | c :: r, i, x =>
    if (c = 0 ∧ 0 < i) ∨ (1 < c ∧ i = 9) then .error 20
    else if c < 128 then .ok (x + c * 128 ^ i, i + 1) else numF r (i + 1) (x + (c - 128) * 128 ^ i)
def num (bs : List Int) : Except Int (Int × Nat) := numF bs 0 0

theorem numF_nil (i : Nat) (x : Int) : numF [] i x = .error 21 := rfl
theorem numF_bad {c : Int} {r : List Int} {i : Nat} {x : Int} (h : (c = 0 ∧ 0 < i) ∨ (1 < c ∧ i = 9)) : numF (c :: r) i x = .error 20 := by simp only [numF, if_pos h]
theorem numF_last {c : Int} {r : List Int} {i : Nat} {x : Int} (h : ¬ ((c = 0 ∧ 0 < i) ∨ (1 < c ∧ i = 9))) (h' : c < 128) : numF (c :: r) i x = .ok (x + c * 128 ^ i, i + 1) := by
  simp only [numF, if_neg h, if_pos h']
theorem numF_more {c : Int} {r : List Int} {i : Nat} {x : Int} (h : ¬ ((c = 0 ∧ 0 < i) ∨ (1 < c ∧ i = 9))) (h' : ¬ c < 128) : numF (c :: r) i x = numF r (i + 1) (x + (c - 128) * 128 ^ i) := by
  simp only [numF, if_neg h, if_neg h']

/-- The number that is read has 64 bits; it takes bytes that are there. -/
theorem numF_ok {bs : List Int} {i : Nat} {x : Int} {v : Int} {n : Nat} (hb : ∀ c ∈ bs, 0 ≤ c ∧ c < 256) (hi : i ≤ 9) (h0 : 0 ≤ x) (hx : x < 128 ^ i) (h : numF bs i x = .ok (v, n)) :
    0 ≤ v ∧ v ≤ 18446744073709551615 ∧ i < n ∧ n ≤ i + bs.length ∧ n ≤ 10 := by
  induction bs generalizing i x with
  | nil => cases h
  | cons c r ih =>
    have hc := hb c (by simp)
    by_cases hbad : (c = 0 ∧ 0 < i) ∨ (1 < c ∧ i = 9)
    · rw [numF_bad hbad] at h; cases h
    · by_cases hl : c < 128
      · rw [numF_last hbad hl] at h
        cases h
        have hp := pw_pos i
        refine ⟨Int.add_nonneg h0 (Int.mul_nonneg hc.1 (Int.le_of_lt hp)), ?_, by omega, by simp, by omega⟩
        by_cases h9 : i = 9
        · subst h9
          have : c ≤ 1 := by omega
          have e : (128 : Int) ^ 9 = 9223372036854775808 := by decide
          rw [e] at hx ⊢
          omega
        · have h1 : c * 128 ^ i ≤ 127 * 128 ^ i := Int.mul_le_mul_of_nonneg_right (by omega) (Int.le_of_lt hp)
          have h2 : (128 : Int) ^ (i + 1) ≤ 128 ^ 9 := pw_le (by omega)
          rw [pw_succ] at h2
          have e : (128 : Int) ^ 9 = 9223372036854775808 := by decide
          rw [e] at h2
          omega
      · rw [numF_more hbad hl] at h
        have hi9 : i ≠ 9 := by omega
        have hp := pw_pos i
        have h1 : (c - 128) * 128 ^ i ≤ 127 * 128 ^ i := Int.mul_le_mul_of_nonneg_right (by omega) (Int.le_of_lt hp)
        have h2 : 0 ≤ (c - 128) * 128 ^ i := Int.mul_nonneg (by omega) (Int.le_of_lt hp)
        have := ih (fun c hc => hb c (by simp [hc])) (by omega) (by omega) (by rw [pw_succ]; omega) h
        simp
        omega
theorem num_ok {bs : List Int} {v : Int} {n : Nat} (hb : ∀ c ∈ bs, 0 ≤ c ∧ c < 256) (h : num bs = .ok (v, n)) : 0 ≤ v ∧ v ≤ 18446744073709551615 ∧ 0 < n ∧ n ≤ bs.length ∧ n ≤ 10 := by
  have := numF_ok hb (by omega) (by omega) (by simp) h
  omega
theorem numF_err {bs : List Int} {i : Nat} {x : Int} {e : Int} (h : numF bs i x = .error e) : e = 20 ∨ e = 21 := by
  induction bs generalizing i x with
  | nil => cases h; exact .inr rfl
  | cons c r ih =>
    by_cases hbad : (c = 0 ∧ 0 < i) ∨ (1 < c ∧ i = 9)
    · rw [numF_bad hbad] at h; cases h; exact .inl rfl
    · by_cases hl : c < 128
      · rw [numF_last hbad hl] at h; cases h
      · rw [numF_more hbad hl] at h; exact ih h

end Go.Proofs.YticmjlnpjopfbaaDoor.C
