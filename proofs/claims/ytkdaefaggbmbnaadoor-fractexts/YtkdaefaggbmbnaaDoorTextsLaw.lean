/-
  The law FracTexts returns true for any fraction and any text.
-/
import Derived.Test.YtkdaefaggbmbnaaDoorTextsWalk
namespace Go.Proofs.YtkdaefaggbmbnaaDoor
open Go.ChangeShapes Go.WideShapes Go.ChangeAt Go.RowKit
set_option linter.unusedVariables false
set_option linter.unusedSimpArgs false

theorem txt_size {a b : Int} (ha : I64 a) (hb : I64 b) : (txt a b).size ≤ 281474976710656 := by
  have z1 : (Lib.itoa a).length ≤ 21 := Lib.itoa_length_le a ha.1 ha.2
  have z2 : (Lib.itoa b).length ≤ 21 := Lib.itoa_length_le b hb.1 hb.2
  rw [← list_size]
  by_cases h : b = 1
  · subst h; rw [txt_one]; omega
  · rw [txt_two a h]; simp; omega
theorem texts_walk (a b : Int) (s : ByteArray) (w : World) (ha : I64 a) (hb : I64 b) (hs : s.size ≤ 140737488351232) (ht : Tab w) (hS : Sent w) :
    Calls Tryd.prog 3 #[fr a b, .string s] w fun e w' => e = .returned (.bool true) ∧ Below w.heap.size w w' := by
  have hs' : s.size ≤ 281474976710656 := by omega
  have K : ∃ (p q : Int) (g : Bool), (∀ W, Tab W → Sent W → Calls Tryd.prog 6 #[.string s] W fun e w' => e = .returned (.tuple #[fr p q, .bool g]) ∧ Below W.heap.size W w') ∧
      (∀ W, Tab W → Calls Tryd.prog 7 #[.string s] W fun e w' => e = .returned (.tuple #[fr p q, .bool g]) ∧ Below W.heap.size W w') := by
    by_cases h : ∃ n d, okS s n d
    · obtain ⟨n, d, h⟩ := h
      exact ⟨n, d, true, fun W t v => parse_yes s n d W h hs' t v, fun W t => rparse_yes s n d W h hs' t⟩
    · exact ⟨0, 0, false, fun W t v => parse_no s W (fun n d hh => h ⟨n, d, hh⟩) hs' t v, fun W t => rparse_no s W (fun n d hh => h ⟨n, d, hh⟩) hs' t⟩
  obtain ⟨p, q, g, HP, HR⟩ := K
  cases hv : validB a b with
  | false => exact texts_not a b s p q g w ha hb ht hS HP HR hv
  | true => exact texts_is a b s p q g w ha hb ht hS HP HR hv _ rfl (fun W t v => parse_yes _ a b W ⟨hv, rfl⟩ (txt_size ha hb) t v)

end Go.Proofs.YtkdaefaggbmbnaaDoor
