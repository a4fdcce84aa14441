/-
  Drop.
-/
import Derived.Test.YtcacocndcfbmaaaH6
import Derived.Test.YtcacocndcfbmaaaH9
import Derived.Test.YtcacocndcfbmaaaC9
namespace Go.Proofs.Ytcacocndcfbmaaa
open Go.ChangeShapes Go.WideShapes Go.ChangeAt Go.RowKit Go.Maps Go.Shelf
set_option linter.unusedVariables false
set_option linter.unusedSimpArgs false
attribute [local go_sem] Oper.semAt_some

/-- Half-edges' cells and what they stand for, each with lines of its own. -/
def Ech (base : Nat) (W : World) (es : List HR) (hs : List HS) : Prop := ∀ i, i < hs.length → ∃ a c, es.getD i HR.z = (hs.getD i HS.z).on a c ∧ Own base W (hs.getD i HS.z) a c
theorem Ech.only {base n cap : Nat} {W W' : World} {es ds : List HR} {hs : List HS} {a : Option Addr} (h : Ech base W es hs) (L : LstH W a n cap ds) (o : Only (atL a) W W') : Ech base W' es hs := fun i hi => by
  obtain ⟨a', c', e, O⟩ := h i hi
  refine ⟨a', c', e, O.lst.of_block fun g off e' => o.block g (O.lst.lt' e') ?_, O.new⟩
  rintro ⟨off2, e2⟩
  subst e2
  rcases O.lst.mem with ⟨e3, _⟩ | ⟨g', off', cur, e3, hh, _⟩
  · rw [e3] at e'; cases e'
  · rw [e3] at e'; cases e'
    exact L.ne_cells hh (by decide) rfl
theorem Ech.hs {base n cap : Nat} {W : World} {es : List HR} {hs : List HS} {a : Option Addr} (h : Ech base W es hs) (L : LstH W a n cap es) (hl : es.length = hs.length) (hn : hs.length * 64 ≤ 140737488355328) (hf : ∀ j, j < hs.length → (hs.getD j HS.z).ls.length * 40 ≤ 140737488355328) : n = hs.length ∧ Hs W a hs.length cap hs := by
  have e : n = hs.length := L.size.symm.trans hl
  subst e
  refine ⟨rfl, rfl, es, L.rd hn, fun i hi => ?_⟩
  obtain ⟨a', c', e', O⟩ := h i hi
  exact ⟨a', c', e', O.rd (hf i hi)⟩
theorem getD_erase {α : Type} (l : List α) (p i : Nat) (z : α) : (l.eraseIdx p).getD i z = if i < p then l.getD i z else l.getD (i + 1) z := by
  rw [List.getD_eq_getElem?_getD, List.getElem?_eraseIdx]
  split <;> rw [List.getD_eq_getElem?_getD]
theorem Ech.erase {base : Nat} {W : World} {es : List HR} {hs : List HS} (h : Ech base W es hs) (p : Nat) (hp : p < hs.length) : Ech base W (es.eraseIdx p) (hs.eraseIdx p) := fun i hi => by
  rw [List.length_eraseIdx, if_pos hp] at hi
  rw [getD_erase, getD_erase]
  split
  · exact h i (by omega)
  · exact h (i + 1) (by omega)
def dropH (k : Int) (l : List HS) : List HS := if hitH k l = true then l.eraseIdx (posH k l) else l
theorem erase_few {hs : List HS} (p : Nat) (hp : p < hs.length) (h : ∀ j, j < hs.length → (hs.getD j HS.z).ls.length * 40 ≤ 140737488355328) : ∀ j, j < (hs.eraseIdx p).length → ((hs.eraseIdx p).getD j HS.z).ls.length * 40 ≤ 140737488355328 := fun j hj => by
  rw [List.length_eraseIdx, if_pos hp] at hj
  rw [getD_erase]
  split
  · exact h j (by omega)
  · exact h (j + 1) (by omega)
end Go.Proofs.Ytcacocndcfbmaaa
