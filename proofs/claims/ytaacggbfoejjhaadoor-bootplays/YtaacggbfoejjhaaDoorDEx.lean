/-
  What single operations yield.
-/
import Derived.Test.YtaacggbfoejjhaaDoorDWr
namespace Go.Proofs.YtaacggbfoejjhaaDoor.D
open Go.ChangeShapes Go.WideShapes Go.ChangeAt Go.RowKit
set_option linter.unusedVariables false
set_option linter.unusedSimpArgs false
variable {o : Oper} {ρ : Operand → Value} {X : World} {x y c : Operand} {v : Value}
theorem exec_move (ho : o.op = .move x) (hx : ρ x = v) : (execOp ρ o).run Tryd.prog X = .ok (.value v) X := by
  unfold execOp
  rw [ho]
  simp [hx]
theorem exec_assign (ho : o.op = .assign x) (hx : ρ x = v) : (execOp ρ o).run Tryd.prog X = .ok (.value v) X := by
  unfold execOp
  rw [ho]
  simp [hx]
theorem exec_pickT (ho : o.op = .pick c x y) (hc : ρ c = .bool true) (hx : ρ x = v) : (execOp ρ o).run Tryd.prog X = .ok (.value v) X := by
  unfold execOp
  rw [ho]
  simp [hc, hx, go_sem]
theorem exec_eq3 {p q : Int} (ho : o.op = .binOp .eql 3 x y 3) (hx : ρ x = .int .i64 p) (hy : ρ y = .int .i64 q) (h : (p == q) = true) : (execOp ρ o).run Tryd.prog X = .ok (.value (.bool true)) X := by
  unfold execOp
  rw [ho]
  go_simp
theorem exec_eq4 {p q : Bool} (ho : o.op = .binOp .eql 4 x y 4) (hx : ρ x = .bool p) (hy : ρ y = .bool q) (h : (p == q) = true) : (execOp ρ o).run Tryd.prog X = .ok (.value (.bool true)) X := by
  unfold execOp
  rw [ho]
  go_simp
theorem exec_eqs {s : ByteArray} (ho : o.op = .binOp .eql 9 x y 9) (hx : ρ x = .string s) (hy : ρ y = .string s) : (execOp ρ o).run Tryd.prog X = .ok (.value (.bool true)) X := by
  unfold execOp
  rw [ho]
  go_simp
theorem exec_conv {u : Value} (ho : o.op = .convert 22 9 x) (hx : ρ x = v) (h : (convert 22 9 v).run Tryd.prog X = .ok u X) : (execOp ρ o).run Tryd.prog X = .ok (.value u) X := by
  unfold execOp
  rw [ho]
  simp [hx, h]
end Go.Proofs.YtaacggbfoejjhaaDoor.D
