/-
  Package reg: registers compared.
-/
import Derived.Test.YtifkkkfejbgifaaA2
import Derived.Test.YtifkkkfejbgifaaHeld
import Derived.Laws.StructEq
namespace Go.Proofs.Ytifkkkfejbgifaa
open Go.ChangeShapes Go.WideShapes Go.ChangeAt Go.RowKit
set_option linter.unusedVariables false
set_option linter.unusedSimpArgs false
theorem eqFields_cons {P : Program} {w : World} {d : Nat} {xs ys : Array Value} {f : Field} {fs : List Field} {a b : Value} {r q : Bool} (hn : f.name ≠ "_") (ha : (part f.type xs f.offset).run P w = .ok a w) (hb : (part f.type ys f.offset).run P w = .ok b w)
    (hr : (Op.equalIn d f.type a b).run P w = .ok r w) (hq : (Op.eqFields d xs ys fs).run P w = .ok q w) : (Op.eqFields d xs ys (f :: fs)).run P w = .ok (r && q) w := by
  simp only [Op.eqFields, Sem.run_bind, Sem.run_ite, if_pos hn, ha, hb, hr, Result.andThen_ok]
  cases r
  · simp
  · simpa using hq
theorem eqFields_nil {P : Program} {w : World} {d : Nat} {xs ys : Array Value} : (Op.eqFields d xs ys []).run P w = .ok true w := by simp [Op.eqFields]
theorem eq42 (w : World) (d : Nat) (a0 a1 a2 b0 b1 b2 : Int) :
    (Op.equalIn (d + 2) 33 (rg a0 a1 a2) (rg b0 b1 b2)).run Try.prog w = .ok ((a0 == b0) && ((a1 == b1) && ((a2 == b2) && true))) w := by
  have hS : Try.prog.underlying 33 = some (.struct (Try.prog.fieldsOf 33)) := by kernel_rfl
  have hp : Try.prog.stoodInHeld 33 = false := by kernel_rfl
  rw [run_equalIn_agg w (d + 1) 33 _ _ hS hp]
  simp only [Program.fieldsOf, Try.underlying33]
  refine eqFields_cons (a := .int .i64 a0) (b := .int .i64 b0) (r := (a0 == b0)) (by decide) (by go_simp) (by go_simp) (by go_simp) ?_
  refine eqFields_cons (a := .int .i64 a1) (b := .int .i64 b1) (r := (a1 == b1)) (by decide) (by go_simp) (by go_simp) (by go_simp) ?_
  refine eqFields_cons (a := .int .i64 a2) (b := .int .i64 b2) (r := (a2 == b2)) (by decide) (by go_simp) (by go_simp) (by go_simp) ?_
  exact eqFields_nil
def sameB (a0 a1 a2 b0 b1 b2 : Int) : Bool := decide (a0 = b0 ∧ a1 = b1 ∧ a2 = b2)
theorem sameB_self (a b c : Int) : sameB a b c a b c = true := by simp [sameB]
theorem eql42 (w : World) (a0 a1 a2 b0 b1 b2 : Int) : (binOp .eql 33 (rg a0 a1 a2) (rg b0 b1 b2)).run Try.prog w = .ok (.bool (sameB a0 a1 a2 b0 b1 b2)) w := by
  rw [run_eql_struct, show (10000 : Nat) = 9998 + 2 from rfl, eq42]
  simp [sameB, Bool.decide_and]
  grind
theorem neq42 (w : World) (a0 a1 a2 b0 b1 b2 : Int) : (binOp .neq 33 (rg a0 a1 a2) (rg b0 b1 b2)).run Try.prog w = .ok (.bool (!sameB a0 a1 a2 b0 b1 b2)) w := by
  rw [run_neq_struct, show (10000 : Nat) = 9998 + 2 from rfl, eq42]
  simp [sameB, Bool.decide_and]
  grind
theorem exec_eql42 {o : Oper} {ρ : Operand → Value} {x y : Operand} (ho : o.op = .binOp .eql 33 x y 33) (a0 a1 a2 b0 b1 b2 : Int) (hx : ρ x = rg a0 a1 a2) (hy : ρ y = rg b0 b1 b2) (X : World) : (execOp ρ o).run Try.prog X = .ok (.value (.bool (sameB a0 a1 a2 b0 b1 b2))) X := by
  have hm : Try.prog.eqGuardType Try.prog.depth 33 = false := by kernel_rfl
  unfold execOp
  simp only [ho, hx, hy, Sem.run_bind, run_eqGuard_agg _ _ _ _ _ _ _ hm, eql42, Result.andThen_ok, Sem.run_pure]
theorem exec_neq42 {o : Oper} {ρ : Operand → Value} {x y : Operand} (ho : o.op = .binOp .neq 33 x y 33) (a0 a1 a2 b0 b1 b2 : Int) (hx : ρ x = rg a0 a1 a2) (hy : ρ y = rg b0 b1 b2) (X : World) : (execOp ρ o).run Try.prog X = .ok (.value (.bool (!sameB a0 a1 a2 b0 b1 b2))) X := by
  have hm : Try.prog.eqGuardType Try.prog.depth 33 = false := by kernel_rfl
  unfold execOp
  simp only [ho, hx, hy, Sem.run_bind, run_eqGuard_agg _ _ _ _ _ _ _ hm, neq42, Result.andThen_ok, Sem.run_pure]
end Go.Proofs.Ytifkkkfejbgifaa
