/-
  The document's Reg.
-/
import Derived.Test.YteoiogjaecpddaaC3
namespace Go.Proofs.Yteoiogjaecpddaa
open Go.ChangeShapes Go.WideShapes Go.ChangeAt Go.RowKit
set_option linter.unusedVariables false
set_option linter.unusedSimpArgs false

def regF (name : ByteArray) : List LS → LS
  | [] => LS.z
  | x :: r => if eqN x.name name = true then x else regF name r
theorem regF_at {name : ByteArray} : ∀ {ls : List LS} {i : Nat}, (∀ j, j < i → eqN (ls.getD j LS.z).name name = false) → i < ls.length → eqN (ls.getD i LS.z).name name = true → regF name ls = ls.getD i LS.z
  | [], i, _, h, _ => by simp at h
  | x :: r, 0, _, _, h => by
    have h' : eqN x.name name = true := h
    simp [regF, h']
  | x :: r, i + 1, h0, hl, h => by
    have h1 : eqN x.name name = false := h0 0 (by omega)
    have := regF_at (ls := r) (i := i) (fun j hj => h0 (j + 1) (by omega)) (by simpa using hl) h
    simp [regF, h1, this]
theorem regF_none {name : ByteArray} : ∀ {ls : List LS}, (∀ j, j < ls.length → eqN (ls.getD j LS.z).name name = false) → regF name ls = LS.z
  | [], _ => rfl
  | x :: r, h => by
    have h1 : eqN x.name name = false := h 0 (by simp)
    have := regF_none (ls := r) (fun j hj => h (j + 1) (by simp; omega))
    simp [regF, h1, this]
end Go.Proofs.Yteoiogjaecpddaa
