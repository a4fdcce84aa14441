/-
  What the document's own Text and digits return.
-/
import Derived.Test.YtiigmohnmkgfoaaDoorText

namespace Go.Proofs.YtiigmohnmkgfoaaDoor
open Go.ChangeShapes Go.WideShapes Go.ChangeAt Go.RowKit
set_option linter.unusedVariables false
set_option linter.unusedSimpArgs false

set_option maxRecDepth 100000 in
theorem rtext_any (n d : Int) (w : World) (hn : I64 n) (hd : I64 d) (ht : Tab w) :
    Calls Tryd.prog 32 #[fr n d] w fun e w' => e = .returned (.string (txt n d)) ∧ Below w.heap.size w w' := by
  by_cases h1 : d = 1
  · have E : Hid (txt n d = ⟨(Lib.itoa n).toArray⟩) := if_pos h1
    have hb1 : (d != 1) = false := by simp [h1]
    obtain ⟨s, hs⟩ : ∃ s : ByteArray, ⟨(Lib.itoa n).toArray⟩ = s := ⟨_, rfl⟩
    rw [hs] at E
    have HF := fun w' h => format_any n w' hn h
    rw [hs] at HF
    clear h1
    go_enter Tryd.func32, Tryd.ntmps32
    go_wp2_with (go_at_call 33; refine (HF _ (ht.below (by go_grown))).mono ?_; rintro e w1 ⟨rfl, hb⟩; obtain ⟨q0, q1, _, _, _⟩ := id ((Two.new w _ _ _).below hb); have hB : Below w.heap.size w w1 := Below.trans (by go_grown) (hb.mono (by simp)))
    go_ret
    exact ⟨ret_string E.out.symm, hB⟩
  · have hb1 : (d != 1) = true := by simp [h1]
    have E : Hid (txt n d = (⟨(Lib.itoa n).toArray⟩ ++ (⟨#[47]⟩ : ByteArray)) ++ ⟨(Lib.itoa d).toArray⟩) := by
      show txt n d = _
      rw [ByteArray.append_assoc]
      exact if_neg h1
    obtain ⟨s, hs⟩ : ∃ s : ByteArray, ⟨(Lib.itoa n).toArray⟩ = s := ⟨_, rfl⟩
    obtain ⟨t, htt⟩ : ∃ t : ByteArray, ⟨(Lib.itoa d).toArray⟩ = t := ⟨_, rfl⟩
    rw [hs, htt] at E
    have z1 : s.size ≤ 21 := by rw [← hs]; exact Lib.itoa_length_le n hn.1 hn.2
    have z2 : t.size ≤ 21 := by rw [← htt]; exact Lib.itoa_length_le d hd.1 hd.2
    have z3 : ¬ 9223372036854775807 < s.size + 1 := by omega
    have z4 : ¬ 9223372036854775807 < s.size + 1 + t.size := by omega
    have HF := fun w' h => format_any n w' hn h
    have HD := fun w' h => format_any d w' hd h
    rw [hs] at HF
    rw [htt] at HD
    clear h1
    go_enter Tryd.func32, Tryd.ntmps32
    go_wp2_with (go_at_call 33; first
      | (refine (HF _ (ht.below (by go_grown))).mono ?_; rintro e w1 ⟨rfl, hb⟩; obtain ⟨q0, q1, _, _, _⟩ := id ((Two.new w _ _ _).below hb); have hB : Below w.heap.size w w1 := Below.trans (by go_grown) (hb.mono (by simp)); clear HF hb)
      | (refine (HD _ (ht.below hB)).mono ?_; rintro e w2 ⟨rfl, hb2⟩; have hB2 : Below w.heap.size w w2 := hB.trans (hb2.mono hB.size)))
    go_ret
    exact ⟨ret_string E.out.symm, hB2⟩
end Go.Proofs.YtiigmohnmkgfoaaDoor
