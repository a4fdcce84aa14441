/-
  A load of a record that a test stands ahead of.
-/
import Derived.Test.YtnnapooochfnhaaX0
namespace Go.Proofs.Ytnnapooochfnhaa
open Go.ChangeShapes Go.WideShapes Go.ChangeAt Go.RowKit
set_option linter.unusedVariables false
set_option linter.unusedSimpArgs false

section
variable {ops : Array Oper} {rest : List Oper} {o : Oper} {A : Act} {w W : World} {l : List (Nat × EX)} {Q : Exit → Act → World → Prop}
theorem wpList_loadw (M : Mem w W l) (hw : Region.wanted o (yielded ops A.tmps) = true) (x : Operand) (ho : o.op = .load 23 x) {k : Nat} {h : Bool} {v p g : Int} (hx : A.eval x = .pointer (some ⟨k, 0, none⟩)) (hk : (k, EX.mk h v p g) ∈ l)
    (H : wpList Try.prog ops Q rest (A.put o.dst (ex h v p g)) W) : wpList Try.prog ops Q (o :: rest) A W :=
  wpList_wanted hw _ (exec_load23 ho hx (M.get hk)) H
end
end Go.Proofs.Ytnnapooochfnhaa
