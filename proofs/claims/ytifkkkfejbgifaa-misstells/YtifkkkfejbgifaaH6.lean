/-
  The document's Copy.
-/
import Derived.Test.YtifkkkfejbgifaaH1
import Derived.Test.YtifkkkfejbgifaaG1
namespace Go.Proofs.Ytifkkkfejbgifaa
open Go.ChangeShapes Go.WideShapes Go.ChangeAt Go.RowKit Go.Maps Go.Shelf
set_option linter.unusedVariables false
set_option linter.unusedSimpArgs false
attribute [local go_sem] Oper.semAt_some

/-- Copies of the first i half-edges, each with lines of its own. -/
structure Cpy (w : World) (hs : List HS) (i : Nat) (v : Value) (es : List HR) (W : World) : Prop where
  below : Below w.heap.size w W
  row : W.ownsRow w.heap.size 24 6 v i (csH es)
  len : es.length = i
  each : ∀ j, j < i → ∃ a c, es.getD j HR.z = (hs.getD j HS.z).on a c ∧ Own w.heap.size W (hs.getD j HS.z) a c
theorem Cpy.nil (w : World) (hs : List HS) : Cpy w hs 0 (.slice none 0 0) [] w := ⟨Below.refl _ _, World.ownsRow_nil _ _ 24 6, rfl, fun j hj => by omega⟩
theorem Cpy.later {w : World} {hs : List HS} {i : Nat} {v : Value} {es : List HR} {W W' : World} (C : Cpy w hs i v es W) (b : Below W.heap.size W W') : Cpy w hs i v es W' :=
  ⟨C.below.trans (b.mono C.below.size), owns_later C.row b, C.len, fun j hj => by
    obtain ⟨a, c, e, o⟩ := C.each j hj
    exact ⟨a, c, e, o.below b⟩⟩
theorem own_grow {base i : Nat} {W W' : World} {v : Value} {es : List HR} {h : HS} {a : Option Addr} {c : Nat} (row : W.ownsRow base 24 6 v i (csH es)) (r : W.grownBy W' v.ownBlock) (o : Own base W h a c) : Own base W' h a c := by
  refine ⟨?_, o.new⟩
  refine o.lst.of_block fun g off e => ?_
  rcases o.lst.mem with ⟨e', _⟩ | ⟨g', off', cur, e', hh, _⟩
  · rw [e'] at e; cases e
  · rw [e'] at e; cases e
    exact r.block g (row_lt hh) (owns_ne row hh (by decide))
theorem Cpy.next {w : World} {hs : List HS} {i : Nat} {v v' : Value} {es : List HR} {W W' : World} {a : Option Addr} {c : Nat} (C : Cpy w hs i v es W) (O : Own w.heap.size W (hs.getD i HS.z) a c)
    (r : W.grownBy W' v.ownBlock) (b : Below w.heap.size W W') (o : W'.ownsRow w.heap.size 24 6 v' (i + 1) (csH (es ++ [(hs.getD i HS.z).on a c]))) : Cpy w hs (i + 1) v' (es ++ [(hs.getD i HS.z).on a c]) W' := by
  refine ⟨C.below.trans b, o, by simp [C.len], fun j hj => ?_⟩
  by_cases e : j = i
  · subst e
    refine ⟨a, c, ?_, own_grow C.row r O⟩
    rw [List.getD_eq_getElem?_getD, List.getElem?_append_right (by rw [C.len]; exact Nat.le_refl _), C.len]
    simp
  · obtain ⟨a', c', e', o'⟩ := C.each j (by omega)
    refine ⟨a', c', ?_, own_grow C.row r o'⟩
    rw [← e', List.getD_eq_getElem?_getD, List.getElem?_append_left (by rw [C.len]; omega), ← List.getD_eq_getElem?_getD]
theorem Cpy.hs {w : World} {hs : List HS} {v : Value} {es : List HR} {W : World} (C : Cpy w hs hs.length v es W) (hn : hs.length * 64 ≤ 140737488355328) (hl : ∀ j, j < hs.length → (hs.getD j HS.z).ls.length * 40 ≤ 140737488355328) : ∃ a c, v = .slice a hs.length c ∧ Hs W a hs.length c hs := by
  obtain ⟨a, c, e, L, _⟩ := own_lstH C.row C.len
  refine ⟨a, c, e, rfl, es, L.rd hn, fun i hi => ?_⟩
  obtain ⟨a', c', e', o'⟩ := C.each i hi
  exact ⟨a', c', e', o'.rd (hl i hi)⟩
theorem Hs.few {W : World} {A : Option Addr} {n cap : Nat} {hs : List HS} (h : Hs W A n cap hs) : ∀ j, j < n → (hs.getD j HS.z).ls.length * 40 ≤ 140737488355328 := fun j hj => by
  obtain ⟨g, off, a, c, _, _, _, R⟩ := h.at j hj
  exact R.few
end Go.Proofs.Ytifkkkfejbgifaa
