/-
  Put.
-/
import Derived.Test.YtcacocndcfbmaaaH10
namespace Go.Proofs.Ytcacocndcfbmaaa
open Go.ChangeShapes Go.WideShapes Go.ChangeAt Go.RowKit
set_option linter.unusedVariables false
set_option linter.unusedSimpArgs false

theorem getD_set {α : Type} (l : List α) (p i : Nat) (x z : α) (hp : p < l.length) : (l.set p x).getD i z = if i = p then x else l.getD i z := by
  rw [List.getD_eq_getElem?_getD, List.getElem?_set]
  by_cases h : p = i
  · subst h; simp [hp]
  · rw [if_neg h, if_neg (fun e => h e.symm), List.getD_eq_getElem?_getD]
theorem getD_ins {α : Type} (l : List α) (p i : Nat) (x z : α) (hp : p ≤ l.length) : (l.take p ++ x :: l.drop p).getD i z = if i < p then l.getD i z else if i = p then x else l.getD (i - 1) z := by
  rw [List.getD_eq_getElem?_getD]
  have hl : (l.take p).length = p := by rw [List.length_take]; omega
  by_cases h : i < p
  · rw [if_pos h, List.getElem?_append_left (by omega), List.getElem?_take, if_pos h, List.getD_eq_getElem?_getD]
  · rw [if_neg h, List.getElem?_append_right (by omega), hl]
    by_cases e : i = p
    · subst e; simp
    · rw [if_neg e, show i - p = (i - p - 1) + 1 by omega, List.getElem?_cons_succ, List.getElem?_drop, List.getD_eq_getElem?_getD, show p + (i - p - 1) = i - 1 by omega]
theorem Ech.mono {base base' : Nat} {W : World} {es : List HR} {hs : List HS} (h : Ech base W es hs) (hb : base' ≤ base) : Ech base' W es hs := fun i hi => by
  obtain ⟨a, c, e, O⟩ := h i hi
  exact ⟨a, c, e, O.mono hb⟩
theorem Ech.below {base : Nat} {W W' : World} {es : List HR} {hs : List HS} (h : Ech base W es hs) (b : Below W.heap.size W W') : Ech base W' es hs := fun i hi => by
  obtain ⟨a, c, e, O⟩ := h i hi
  exact ⟨a, c, e, O.below b⟩
theorem Ech.set {base : Nat} {W : World} {es : List HR} {hs : List HS} {x : HS} {a : Option Addr} {c : Nat} (h : Ech base W es hs) (hl : es.length = hs.length) (O : Own base W x a c) (p : Nat) (hp : p < hs.length) : Ech base W (es.set p (x.on a c)) (hs.set p x) := fun i hi => by
  rw [List.length_set] at hi
  rw [getD_set _ _ _ _ _ (by omega), getD_set _ _ _ _ _ hp]
  split
  · exact ⟨a, c, rfl, O⟩
  · exact h i hi
theorem Ech.ins {base : Nat} {W : World} {es : List HR} {hs : List HS} {x : HS} {a : Option Addr} {c : Nat} (h : Ech base W es hs) (hl : es.length = hs.length) (O : Own base W x a c) (p : Nat) (hp : p ≤ hs.length) : Ech base W (es.take p ++ x.on a c :: es.drop p) (hs.take p ++ x :: hs.drop p) := fun i hi => by
  have hi' : i < hs.length + 1 := by
    rw [List.length_append, List.length_cons, List.length_take, List.length_drop] at hi
    omega
  rw [getD_ins _ _ _ _ _ (by omega), getD_ins _ _ _ _ _ hp]
  split
  · exact h i (by omega)
  · split
    · exact ⟨a, c, rfl, O⟩
    · exact h (i - 1) (by omega)
def putH (x : HS) (l : List HS) : List HS := if hitH x.peer l = true then l.set (posH x.peer l) x else l.take (posH x.peer l) ++ x :: l.drop (posH x.peer l)
end Go.Proofs.Ytcacocndcfbmaaa
