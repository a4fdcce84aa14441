/-
  The document: put.
-/
import Derived.Test.YtpdmpekkmblgmaaF1
namespace Go.Proofs.Ytpdmpekkmblgmaa
open Go.ChangeShapes Go.WideShapes Go.ChangeAt Go.RowKit Go.Maps Go.Shelf
set_option linter.unusedVariables false
set_option linter.unusedSimpArgs false
attribute [local go_sem] Oper.semAt_some

/-- A pair put ahead of the first that is greater. -/
def insL (x : LK) : List LK → List LK
  | [] => [x]
  | y :: ys => if ltL x y = true then x :: y :: ys else y :: insL x ys
def putD (l : List LK) (a b : Int) : List LK := if a = b ∨ (min a b, max a b) ∈ l then l else insL (min a b, max a b) l
theorem insL_len (x : LK) : ∀ l, (insL x l).length = l.length + 1
  | [] => rfl
  | y :: ys => by
    unfold insL
    split
    · rfl
    · rw [List.length_cons, insL_len x ys]; rfl
theorem putD_len (l : List LK) (a b : Int) : (putD l a b).length ≤ l.length + 1 := by
  unfold putD
  split
  · omega
  · rw [insL_len]; omega
theorem ins_ahead {l : List LK} {x p : LK} {i : Nat} (hi : l[i]? = some p) (h : ltL x p = true) : insL x (l.drop i) = x :: l.drop i := by
  have hlt := (List.getElem?_eq_some_iff.1 hi).1
  rw [List.drop_eq_getElem_cons hlt, (List.getElem?_eq_some_iff.1 hi).2]
  unfold insL
  rw [if_pos h]
theorem ins_on {l : List LK} {x p : LK} {i : Nat} (hi : l[i]? = some p) (h : ltL x p = false) : insL x (l.drop i) = p :: insL x (l.drop (i + 1)) := by
  have hlt := (List.getElem?_eq_some_iff.1 hi).1
  rw [List.drop_eq_getElem_cons hlt, (List.getElem?_eq_some_iff.1 hi).2]
  rw [insL, if_neg (by rw [h]; decide)]
theorem drop_on {l : List LK} {p : LK} {i : Nat} (hi : l[i]? = some p) : l.drop i = p :: l.drop (i + 1) := by
  have hlt := (List.getElem?_eq_some_iff.1 hi).1
  rw [List.drop_eq_getElem_cons hlt, (List.getElem?_eq_some_iff.1 hi).2]
/-- How far the list has grown. -/
def putI (l : List LK) (x : LK) (i : Nat) (dn : Bool) (out : List LK) : Prop := insL x l = (if dn = true then out ++ l.drop i else out ++ insL x (l.drop i)) ∧ out.length ≤ i + 1
theorem putI_done {l out : List LK} {x p : LK} {i : Nat} (h : putI l x i true out) (hi : l[i]? = some p) : putI l x (i + 1) true (out ++ [p]) := by
  obtain ⟨h1, h2⟩ := h
  refine ⟨?_, by simp; omega⟩
  rw [if_pos rfl] at h1 ⊢
  rw [h1, drop_on hi, List.append_assoc]
  rfl
theorem putI_on {l out : List LK} {x p : LK} {i : Nat} (h : putI l x i false out) (h0 : out.length ≤ i) (hi : l[i]? = some p) (hx : ltL x p = false) : putI l x (i + 1) false (out ++ [p]) := by
  obtain ⟨h1, h2⟩ := h
  refine ⟨?_, by simp; omega⟩
  rw [if_neg (by decide)] at h1 ⊢
  rw [h1, ins_on hi hx, List.append_assoc]
  rfl
theorem putI_put {l out : List LK} {x p : LK} {i : Nat} (h : putI l x i false out) (h0 : out.length ≤ i) (hi : l[i]? = some p) (hx : ltL x p = true) : putI l x (i + 1) true (out ++ [x] ++ [p]) := by
  obtain ⟨h1, h2⟩ := h
  refine ⟨?_, by simp; omega⟩
  rw [if_neg (by decide)] at h1
  rw [if_pos rfl, h1, ins_ahead hi hx, drop_on hi, List.append_assoc, List.append_assoc]
  rfl
theorem ret_slice {a : Option Addr} {n m c : Nat} (h : n = m) : Ending.returned (.slice a n c) = .returned (.slice a m c) := by rw [h]
/-- The world behind an append, above the block that keeps the pair. -/
theorem kx_of {w0 W : World} {xb : Nat} {x : LK} (hx : w0.heap[xb]? = some (.cells #[.int .i64 x.1, .int .i64 x.2] 49 (0, 0))) (h : Below w0.heap.size w0 W) : W.rangeAt xb 0 (LK.cells x) := range_rowL ((h.block _ (row_lt hx)).trans hx)
end Go.Proofs.Ytpdmpekkmblgmaa
