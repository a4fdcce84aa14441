/-
  What the document's own Text and digits return.
-/
import Derived.Test.YtkdaefaggbmbnaaDoorText
namespace Go.Proofs.YtkdaefaggbmbnaaDoor
open Go.ChangeShapes Go.WideShapes Go.ChangeAt Go.RowKit
set_option linter.unusedVariables false
set_option linter.unusedSimpArgs false

set_option maxRecDepth 100000 in
theorem rtext_any (n d : Int) (w : World) (hn : I64 n) (hd : I64 d) (ht : Tab w) :
    Calls Tryd.prog 11 #[fr n d] w fun e w' => e = .returned (.string (txt n d)) ∧ Below w.heap.size w w' := by
  by_cases h1 : d = 1
  · have E : Hid (txt n d = ⟨(Lib.itoa n).toArray⟩) := if_pos h1
    have hb1 : (d != 1) = false := by simp [h1]
    obtain ⟨s, hs⟩ : ∃ s : ByteArray, ⟨(Lib.itoa n).toArray⟩ = s := ⟨_, rfl⟩
    rw [hs] at E
    have HF := fun w' h => format_any n w' hn h
    rw [hs] at HF
    clear h1
    go_enter Tryd.func11, Tryd.ntmps11
    go_wp2_with (go_at_call 26; refine (HF _ (ht.below (by go_grown))).mono ?_; rintro e w1 ⟨rfl, hb⟩; obtain ⟨q0, q1, _, _, _⟩ := id ((Two.new w _ _ _).below hb); have hB : Below w.heap.size w w1 := Below.trans (by go_grown) (hb.mono (by simp)))
    go_ret
    exact ⟨ret_string E.out.symm, hB⟩
  · have hb1 : (d != 1) = true := by simp [h1]
    have E : Hid (txt n d = (⟨(Lib.itoa n).toArray⟩ ++ (⟨#[47]⟩ : ByteArray)) ++ ⟨(Lib.itoa d).toArray⟩) := by
      show txt n d = _
      rw [ByteArray.append_assoc]
      exact if_neg h1
    obtain ⟨s, hs⟩ : ∃ s : ByteArray, ⟨(Lib.itoa n).toArray⟩ = s := ⟨_, rfl⟩
    obtain ⟨t, htt⟩ : ∃ t : ByteArray, ⟨(Lib.itoa d).toArray⟩ = t := ⟨_, rfl⟩
    rw [hs, htt] at E
    have z1 : s.size ≤ 21 := by rw [← hs]; exact Lib.itoa_length_le n hn.1 hn.2
    have z2 : t.size ≤ 21 := by rw [← htt]; exact Lib.itoa_length_le d hd.1 hd.2
    have z3 : ¬ 9223372036854775807 < s.size + 1 := by omega
    have z4 : ¬ 9223372036854775807 < s.size + 1 + t.size := by omega
    have HF := fun w' h => format_any n w' hn h
    have HD := fun w' h => format_any d w' hd h
    rw [hs] at HF
    rw [htt] at HD
    clear h1
    go_enter Tryd.func11, Tryd.ntmps11
    go_wp2_with (go_at_call 26; first
      | (refine (HF _ (ht.below (by go_grown))).mono ?_; rintro e w1 ⟨rfl, hb⟩; obtain ⟨q0, q1, _, _, _⟩ := id ((Two.new w _ _ _).below hb); have hB : Below w.heap.size w w1 := Below.trans (by go_grown) (hb.mono (by simp)); clear HF hb)
      | (refine (HD _ (ht.below hB)).mono ?_; rintro e w2 ⟨rfl, hb2⟩; have hB2 : Below w.heap.size w w2 := hB.trans (hb2.mono hB.size)))
    go_ret
    exact ⟨ret_string E.out.symm, hB2⟩

/-- The number at the beginning of a text, with at most f digits, behind acc; and how many digits it has. -/
def digR : Nat → Nat → List UInt8 → Nat × Nat
  | 0, acc, _ => (acc, 0)
  | f + 1, acc, [] => (acc, 0)
  | f + 1, acc, c :: r => if 48 ≤ c.toNat ∧ c.toNat ≤ 57 then ((digR f (10 * acc + (c.toNat - 48)) r).1, (digR f (10 * acc + (c.toNat - 48)) r).2 + 1) else (acc, 0)
theorem digR_le : ∀ (f acc : Nat) (l : List UInt8), (digR f acc l).2 ≤ f ∧ (digR f acc l).2 ≤ l.length
  | 0, acc, l => ⟨Nat.le_refl _, Nat.zero_le _⟩
  | f + 1, acc, [] => ⟨Nat.zero_le _, Nat.zero_le _⟩
  | f + 1, acc, c :: r => by
    have := digR_le f (10 * acc + (c.toNat - 48)) r
    unfold digR
    split <;> simp <;> omega
theorem digR_lt : ∀ (f acc : Nat) (l : List UInt8), (digR f acc l).1 < 10 ^ f * (acc + 1)
  | 0, acc, l => by simp [digR]
  | f + 1, acc, [] => by
    have : 1 * (acc + 1) ≤ 10 ^ (f + 1) * (acc + 1) := Nat.mul_le_mul_right _ (Nat.pos_of_ne_zero (by simp))
    simp [digR]; omega
  | f + 1, acc, c :: r => by
    have h := digR_lt f (10 * acc + (c.toNat - 48)) r
    unfold digR
    split
    · rename_i hc
      have k : 10 ^ f * (10 * acc + (c.toNat - 48) + 1) ≤ 10 ^ f * (10 * (acc + 1)) := Nat.mul_le_mul_left _ (by omega)
      have e : 10 ^ (f + 1) * (acc + 1) = 10 ^ f * (10 * (acc + 1)) := by rw [Nat.pow_succ, Nat.mul_assoc]
      simp only
      omega
    · have : 1 * (acc + 1) ≤ 10 ^ (f + 1) * (acc + 1) := Nat.mul_le_mul_right _ (Nat.pos_of_ne_zero (by simp))
      simp only
      omega
theorem dig_cons (s : ByteArray) (k : Nat) (h : k < s.size) : s.data.toList.drop k = s[k] :: s.data.toList.drop (k + 1) := by
  have hl : k < s.data.toList.length := by rw [Array.length_toList]; exact h
  rw [List.drop_eq_getElem_cons hl]
  rfl
theorem dig_len (s : ByteArray) : s.data.toList.length = s.size := by rw [Array.length_toList]; rfl
theorem digR_stop {f acc : Nat} {c : UInt8} {r : List UInt8} (h : ¬ (48 ≤ c.toNat ∧ c.toNat ≤ 57)) : digR f acc (c :: r) = (acc, 0) := by
  cases f with
  | zero => rfl
  | succ f => unfold digR; rw [if_neg h]
theorem digR_end {f acc : Nat} : digR f acc [] = (acc, 0) := by cases f <;> rfl
theorem digR_step {f acc : Nat} {c : UInt8} {r : List UInt8} (h : 48 ≤ c.toNat ∧ c.toNat ≤ 57) : digR (f + 1) acc (c :: r) = ((digR f (10 * acc + (c.toNat - 48)) r).1, (digR f (10 * acc + (c.toNat - 48)) r).2 + 1) := by
  rw [digR, if_pos h]

/-- What the loop keeps. -/
def Dig (l : List UInt8) (k acc : Nat) : Prop := digR 11 0 l = ((digR (11 - k) acc (l.drop k)).1, (digR (11 - k) acc (l.drop k)).2 + k)

set_option maxRecDepth 100000 in
set_option maxHeartbeats 2000000 in
theorem digits_any (s : ByteArray) (w : World) (hs : s.size ≤ 9223372036854775807) :
    Calls Tryd.prog 20 #[.string s] w fun e w' => e = .returned (.tuple #[.int .i64 ((digR 11 0 s.data.toList).1 : Nat), .int .i64 ((digR 11 0 s.data.toList).2 : Nat)]) ∧ w' = w := by
  go_enter Tryd.func20, Tryd.ntmps20
  go_wp2
  go_loopg [4, 5] 11 (fun g n i wr => ∃ k acc : Nat, k + g = 11 ∧ n = .int .i64 acc ∧ i = .int .i64 k ∧ k ≤ s.size ∧ Hid (Dig s.data.toList k acc) ∧ acc < 10 ^ k ∧ wr = w)
  case atStart => exact ⟨0, 0, by omega, rfl, rfl, Nat.zero_le _, by show Dig _ _ _; simp [Dig], by simp, rfl⟩
  case round =>
    obtain ⟨k, acc, hk, rfl, rfl, hks, HD, ha, rfl⟩ := hrel
    have hk11 : k ≤ 11 := by omega
    have ha2 : acc < 100000000000 := Nat.lt_of_lt_of_le ha (by have : 10 ^ k ≤ 10 ^ 11 := Nat.pow_le_pow_right (by omega) hk11; simpa using this)
    have HG : Hid (k + gk = 11) := hk
    have HA : Hid (acc < 10 ^ k) := ha
    clear hk ha
    by_cases c0 : k = s.size
    · have HQ : Hid (digR 11 0 s.data.toList = (acc, k)) := by
        show _ = _
        have h := HD.out
        unfold Dig at h
        rw [List.drop_eq_nil_of_le (by rw [dig_len]; omega), digR_end] at h
        simpa using h
      have hI : ¬ ((k : Int) < (s.size : Int)) := by omega
      go_wp2
      exact bodyPost_ret (v := .tuple #[.int .i64 acc, .int .i64 k]) (by simp [results, Tryd.results20, go_sem]; omega) rfl ⟨by rw [HQ.out], rfl⟩
    · have hlt : k < s.size := by omega
      have hI : ((k : Int) < (s.size : Int)) := by omega
      have HX : Hid (s.data.toList.drop k = s[k] :: s.data.toList.drop (k + 1)) := dig_cons s k hlt
      by_cases c1 : k = 11
      · have HQ : Hid (digR 11 0 s.data.toList = (acc, k)) := by
          show _ = _
          have h := HD.out
          unfold Dig at h
          rw [c1] at h ⊢
          simpa [digR] using h
        have hJ : ¬ ((k : Int) < 11) := by omega
        have hJd : decide ((k : Int) < 11) = false := by simpa using hJ
        go_wp2
        exact bodyPost_ret (v := .tuple #[.int .i64 acc, .int .i64 k]) (by simp [results, Tryd.results20, go_sem]; omega) rfl ⟨by rw [HQ.out], rfl⟩
      · have hJ : (k : Int) < 11 := by omega
        have hxb : s[k].toNat < 256 := s[k].toNat_lt
        by_cases c2 : 48 ≤ s[k].toNat ∧ s[k].toNat ≤ 57
        · have h1 : (48 : Int) ≤ (s[k].toNat : Int) := by omega
          have h2 : (s[k].toNat : Int) ≤ 57 := by omega
          have HN : Hid (Dig s.data.toList (k + 1) (10 * acc + (s[k].toNat - 48))) := by
            show Dig _ _ _
            have h := HD.out
            unfold Dig at h ⊢
            rw [HX.out, show 11 - k = (11 - (k + 1)) + 1 by omega, digR_step c2] at h
            rw [h]
            simp only [Prod.mk.injEq, true_and]
            omega
          have HA2 : Hid (10 * acc + (s[k].toNat - 48) < 10 ^ (k + 1)) := by
            show _ < _
            have := HA.out
            rw [Nat.pow_succ]
            omega
          clear HA HD HX
          go_wp2
          go_roundg (gk - 1)
          case measure => have := HG.out; omega
          case rel => exact ⟨k + 1, 10 * acc + (s[k].toNat - 48), by have := HG.out; omega, by congr 1; omega, by simp, by omega, HN.out, HA2.out, rfl⟩
        · have HQ : Hid (digR 11 0 s.data.toList = (acc, k)) := by
            show _ = _
            have h := HD.out
            unfold Dig at h
            rw [HX.out, digR_stop c2] at h
            simpa using h
          by_cases c3 : 48 ≤ s[k].toNat
          · have h1 : (48 : Int) ≤ (s[k].toNat : Int) := by omega
            have h2 : ¬ ((s[k].toNat : Int) ≤ 57) := by omega
            have h2d : decide ((s[k].toNat : Int) ≤ 57) = false := by simpa using h2
            clear c2
            go_wp2
            exact bodyPost_ret (v := .tuple #[.int .i64 acc, .int .i64 k]) (by simp [results, Tryd.results20, go_sem]) rfl ⟨by rw [HQ.out], rfl⟩
          · have h1 : ¬ ((48 : Int) ≤ (s[k].toNat : Int)) := by omega
            have h1d : decide ((48 : Int) ≤ (s[k].toNat : Int)) = false := by simpa using h1
            clear c2
            go_wp2
            exact bodyPost_ret (v := .tuple #[.int .i64 acc, .int .i64 k]) (by simp [results, Tryd.results20, go_sem]) rfl ⟨by rw [HQ.out], rfl⟩

end Go.Proofs.YtkdaefaggbmbnaaDoor
