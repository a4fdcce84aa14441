/-
  Texts of fractions, read again: digits, signs, the stroke between.
-/
import Derived.Test.YtkdaefaggbmbnaaDoorDigits
import Derived.Test.YtkdaefaggbmbnaaDoorCut
import Derived.Test.YtkdaefaggbmbnaaDoorOps
namespace Go.Proofs.YtkdaefaggbmbnaaDoor
open Go.ChangeShapes Go.WideShapes Go.ChangeAt Go.RowKit
set_option linter.unusedVariables false
set_option linter.unusedSimpArgs false

def dig (c : UInt8) : Prop := 48 ≤ c.toNat ∧ c.toNat ≤ 57
def valD (acc : Nat) (ds : List UInt8) : Nat := ds.foldl (fun a c => 10 * a + (c.toNat - 48)) acc
theorem dig_of {k : Nat} (h : k < 10) : (UInt8.ofNat (48 + k)).toNat = 48 + k := by
  rw [UInt8.toNat_ofNat']; omega
theorem dec_all (u : Nat) : (∀ c ∈ Lib.decDigits u, dig c) ∧ valD 0 (Lib.decDigits u) = u ∧ Lib.decDigits u ≠ [] := by
  induction u using Nat.strongRecOn with
  | ind u ih =>
    rw [Lib.decDigits]
    split
    · rename_i h
      refine ⟨fun c hc => ?_, ?_, by simp⟩
      · rw [List.mem_singleton] at hc
        subst hc
        unfold dig
        rw [dig_of h]
        omega
      · simp only [valD, List.foldl_cons, List.foldl_nil]
        rw [dig_of h]
        omega
    · rename_i h
      obtain ⟨i1, i2, i3⟩ := ih (u / 10) (by omega)
      have hm : u % 10 < 10 := Nat.mod_lt _ (by omega)
      refine ⟨fun c hc => ?_, ?_, by simp⟩
      · rw [List.mem_append, List.mem_singleton] at hc
        rcases hc with hc | rfl
        · exact i1 c hc
        · unfold dig
          rw [dig_of hm]
          omega
      · unfold valD at i2 ⊢
        rw [List.foldl_append, i2]
        simp only [List.foldl_cons, List.foldl_nil]
        rw [dig_of hm]
        omega
theorem dec_len : ∀ (k u : Nat), u < 10 ^ (k + 1) → (Lib.decDigits u).length ≤ k + 1
  | 0, u, h => by rw [Lib.decDigits, dif_pos (by simpa using h)]; simp
  | k + 1, u, h => by
    rw [Lib.decDigits]
    split
    · simp
    · rw [List.length_append]
      have := dec_len k (u / 10) (by rw [Nat.pow_succ] at h; omega)
      simp; omega
theorem valD_le : ∀ (ds : List UInt8) (acc : Nat), acc ≤ valD acc ds
  | [], acc => Nat.le_refl _
  | c :: r, acc => by
    have := valD_le r (10 * acc + (c.toNat - 48))
    have e : valD acc (c :: r) = valD (10 * acc + (c.toNat - 48)) r := rfl
    omega
theorem digR_app : ∀ (ds : List UInt8) (f acc : Nat) (r : List UInt8), (∀ c ∈ ds, dig c) → ds.length ≤ f →
    digR f acc (ds ++ r) = ((digR (f - ds.length) (valD acc ds) r).1, (digR (f - ds.length) (valD acc ds) r).2 + ds.length)
  | [], f, acc, r, _, _ => by simp [valD]
  | c :: ds, f, acc, r, hd, hl => by
    obtain ⟨g, rfl⟩ : ∃ g, f = g + 1 := ⟨f - 1, by simp at hl; omega⟩
    have ih := digR_app ds g (10 * acc + (c.toNat - 48)) r (fun x hx => hd x (List.mem_cons_of_mem _ hx)) (by simp at hl; omega)
    rw [List.cons_append, digR_step (hd c (by simp)), ih]
    simp only [List.length_cons, Nat.add_sub_add_right]
    rfl
theorem uint_app : ∀ (ds : List UInt8) (M acc : Nat), (∀ c ∈ ds, dig c) → valD acc ds ≤ M → valD acc ds < 1844674407370955162 → Lib.parseUintM M acc ds = .ok (valD acc ds)
  | [], M, acc, _, _, _ => rfl
  | c :: ds, M, acc, hd, h1, h2 => by
    have hc : 48 ≤ c.toNat ∧ c.toNat ≤ 57 := hd c (by simp)
    have e : valD acc (c :: ds) = valD (10 * acc + (c.toNat - 48)) ds := rfl
    rw [e] at h1 h2 ⊢
    have k := valD_le ds (10 * acc + (c.toNat - 48))
    unfold Lib.parseUintM
    rw [if_pos hc, if_neg (by omega), if_neg (by omega), show acc * 10 = 10 * acc from Nat.mul_comm _ _]
    exact uint_app ds M _ (fun x hx => hd x (List.mem_cons_of_mem _ hx)) h1 h2
/-- strconv.ParseInt reads what strconv.FormatInt writes. -/
theorem pint_itoa (n : Int) (h : Sm n) : Lib.parseIntB 64 (Lib.itoa n) = .ok n := by
  unfold Sm at h
  have U : ∀ u : Nat, u ≤ 2147483647 → Lib.parseUintB 64 (Lib.decDigits u) = .ok u := fun u hu => by
    obtain ⟨d1, d2, d3⟩ := dec_all u
    unfold Lib.parseUintB
    rw [if_neg d3]
    have := uint_app (Lib.decDigits u) (2 ^ 64 - 1) 0 d1 (by rw [d2]; omega) (by rw [d2]; omega)
    rw [d2] at this
    exact this
  unfold Lib.itoa
  split
  · rename_i hn
    unfold Lib.parseIntB
    simp only
    rw [if_pos (by right; rfl), U n.natAbs (by omega)]
    simp only
    rw [if_neg (by intro hh; exact hh.1 rfl), if_neg (by intro hh; have := hh.2; omega), if_pos (by rfl)]
    congr 1
    omega
  · rename_i hn
    obtain ⟨d1, d2, d3⟩ := dec_all n.toNat
    have hu := U n.toNat (by omega)
    obtain ⟨c, r, hcr⟩ : ∃ c r, Lib.decDigits n.toNat = c :: r := List.exists_cons_of_ne_nil d3
    have hc : dig c := d1 c (by rw [hcr]; simp)
    unfold dig at hc
    rw [hcr] at hu ⊢
    unfold Lib.parseIntB
    simp only
    rw [if_neg (by omega), hu]
    simp only
    rw [if_neg (by intro hh; have := hh.2; omega), if_neg (by intro hh; have := hh.1; omega), if_neg (by omega)]
    congr 1
    omega
theorem itoa_no (n : Int) : ∀ c ∈ Lib.itoa n, c ≠ 47 := by
  intro c hc e
  subst e
  unfold Lib.itoa at hc
  split at hc
  · rcases List.mem_cons.1 hc with h | h
    · simp at h
    · have := (dec_all n.natAbs).1 47 h
      simp [dig] at this
  · have := (dec_all n.toNat).1 47 hc
    simp [dig] at this
theorem ix_none : ∀ l : List UInt8, (∀ c ∈ l, c ≠ 47) → Lib.indexByte l 47 = -1
  | [], _ => rfl
  | c :: r, h => by
    have ih := ix_none r (fun x hx => h x (List.mem_cons_of_mem _ hx))
    have hc : (c == 47) = false := by simpa using h c (by simp)
    unfold Lib.indexByte
    rw [hc, ih]
    rfl
theorem ix_some : ∀ (l r : List UInt8), (∀ c ∈ l, c ≠ 47) → Lib.indexByte (l ++ 47 :: r) 47 = (l.length : Nat)
  | [], r, _ => rfl
  | c :: l, r, h => by
    have ih := ix_some l r (fun x hx => h x (List.mem_cons_of_mem _ hx))
    have hc : (c == 47) = false := by simpa using h c (by simp)
    rw [List.cons_append]
    unfold Lib.indexByte
    rw [hc, ih]
    have e : (((l.length : Nat) : Int) == -1) = false := by simp
    rw [e]
    simp

end Go.Proofs.YtkdaefaggbmbnaaDoor
