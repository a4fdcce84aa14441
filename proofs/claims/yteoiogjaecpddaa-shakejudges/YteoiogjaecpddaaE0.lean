/-
  What was seen, incarnations and pairs compared.
-/
import Derived.Test.YteoiogjaecpddaaS0
namespace Go.Proofs.Yteoiogjaecpddaa
open Go.ChangeShapes Go.WideShapes Go.ChangeAt Go.RowKit
set_option linter.unusedVariables false
set_option linter.unusedSimpArgs false

theorem eq33 (w : World) (d : Nat) (a0 a1 a2 a3 b0 b1 b2 b3 : Int) : (Op.equalIn (d + 2) 33 (.agg #[.int .i64 a0, .int .i64 a1, .int .i64 a2, .int .i64 a3]) (.agg #[.int .i64 b0, .int .i64 b1, .int .i64 b2, .int .i64 b3])).run Try.prog w = .ok ((a0 == b0) && ((a1 == b1) && ((a2 == b2) && ((a3 == b3) && true)))) w := by
  have hS : Try.prog.underlying 33 = some (.struct (Try.prog.fieldsOf 33)) := by kernel_rfl
  have hp : Try.prog.stoodInHeld 33 = false := by kernel_rfl
  rw [run_equalIn_agg w (d + 1) 33 _ _ hS hp]
  simp only [Program.fieldsOf, Try.underlying33]
  refine eqFields_cons (a := .int .i64 a0) (b := .int .i64 b0) (r := (a0 == b0)) (by decide) (by go_simp) (by go_simp) (by go_simp) ?_
  refine eqFields_cons (a := .int .i64 a1) (b := .int .i64 b1) (r := (a1 == b1)) (by decide) (by go_simp) (by go_simp) (by go_simp) ?_
  refine eqFields_cons (a := .int .i64 a2) (b := .int .i64 b2) (r := (a2 == b2)) (by decide) (by go_simp) (by go_simp) (by go_simp) ?_
  refine eqFields_cons (a := .int .i64 a3) (b := .int .i64 b3) (r := (a3 == b3)) (by decide) (by go_simp) (by go_simp) (by go_simp) ?_
  exact eqFields_nil
theorem eq59 (w : World) (d : Nat) (a0 a1 b0 b1 : Int) : (Op.equalIn (d + 2) 59 (.agg #[.int .i64 a0, .int .i64 a1]) (.agg #[.int .i64 b0, .int .i64 b1])).run Try.prog w = .ok ((a0 == b0) && ((a1 == b1) && true)) w := by
  have hS : Try.prog.underlying 59 = some (.struct (Try.prog.fieldsOf 59)) := by kernel_rfl
  have hp : Try.prog.stoodInHeld 59 = false := by kernel_rfl
  rw [run_equalIn_agg w (d + 1) 59 _ _ hS hp]
  simp only [Program.fieldsOf, Try.underlying59]
  refine eqFields_cons (a := .int .i64 a0) (b := .int .i64 b0) (r := (a0 == b0)) (by decide) (by go_simp) (by go_simp) (by go_simp) ?_
  refine eqFields_cons (a := .int .i64 a1) (b := .int .i64 b1) (r := (a1 == b1)) (by decide) (by go_simp) (by go_simp) (by go_simp) ?_
  exact eqFields_nil
theorem eq61 (w : World) (d : Nat) (a0 a1 a2 b0 b1 b2 : Int) : (Op.equalIn (d + 3) 61 (.agg #[.int .i64 a0, .int .i64 a1, .int .i64 a2]) (.agg #[.int .i64 b0, .int .i64 b1, .int .i64 b2])).run Try.prog w = .ok ((a0 == b0) && (((a1 == b1) && ((a2 == b2) && true)) && true)) w := by
  have hS : Try.prog.underlying 61 = some (.struct (Try.prog.fieldsOf 61)) := by kernel_rfl
  have hp : Try.prog.stoodInHeld 61 = false := by kernel_rfl
  rw [run_equalIn_agg w (d + 2) 61 _ _ hS hp]
  simp only [Program.fieldsOf, Try.underlying61]
  refine eqFields_cons (a := .int .i64 a0) (b := .int .i64 b0) (r := (a0 == b0)) (by decide) (by go_simp) (by go_simp) (by go_simp) ?_
  refine eqFields_cons (a := .agg #[.int .i64 a1, .int .i64 a2]) (b := .agg #[.int .i64 b1, .int .i64 b2]) (r := ((a1 == b1) && ((a2 == b2) && true))) (by decide) (by go_simp) (by go_simp) (eq59 w d a1 a2 b1 b2) ?_
  exact eqFields_nil
def same33 (a0 a1 a2 a3 b0 b1 b2 b3 : Int) : Bool := decide (a0 = b0 ∧ a1 = b1 ∧ a2 = b2 ∧ a3 = b3)
theorem same33_self (a0 a1 a2 a3 : Int) : same33 a0 a1 a2 a3 a0 a1 a2 a3 = true := by simp [same33]
theorem eql33 (w : World) (a0 a1 a2 a3 b0 b1 b2 b3 : Int) : (binOp .eql 33 (.agg #[.int .i64 a0, .int .i64 a1, .int .i64 a2, .int .i64 a3]) (.agg #[.int .i64 b0, .int .i64 b1, .int .i64 b2, .int .i64 b3])).run Try.prog w = .ok (.bool (same33 a0 a1 a2 a3 b0 b1 b2 b3)) w := by
  rw [run_eql_struct, show (10000 : Nat) = 9998 + 2 from rfl, eq33]
  simp [same33, Bool.decide_and]
  grind
theorem exec_eql33 {o : Oper} {ρ : Operand → Value} {x y : Operand} (ho : o.op = .binOp .eql 33 x y 33) (a0 a1 a2 a3 b0 b1 b2 b3 : Int) (hx : ρ x = (.agg #[.int .i64 a0, .int .i64 a1, .int .i64 a2, .int .i64 a3])) (hy : ρ y = (.agg #[.int .i64 b0, .int .i64 b1, .int .i64 b2, .int .i64 b3])) (X : World) : (execOp ρ o).run Try.prog X = .ok (.value (.bool (same33 a0 a1 a2 a3 b0 b1 b2 b3))) X := by
  have hm : Try.prog.eqGuardType Try.prog.depth 33 = false := by kernel_rfl
  unfold execOp
  simp only [ho, hx, hy, Sem.run_bind, run_eqGuard_agg _ _ _ _ _ _ _ hm, eql33, Result.andThen_ok, Sem.run_pure]
section
variable {ops : Array Oper} {rest : List Oper} {o : Oper} {A : Act} {W : World} {Q : Exit → Act → World → Prop}
theorem wpList_eql33 (hw : Region.wanted o (yielded ops A.tmps) = true) {x y : Operand} (ho : o.op = .binOp .eql 33 x y 33) (a0 a1 a2 a3 b0 b1 b2 b3 : Int) (hx : A.eval x = (.agg #[.int .i64 a0, .int .i64 a1, .int .i64 a2, .int .i64 a3])) (hy : A.eval y = (.agg #[.int .i64 b0, .int .i64 b1, .int .i64 b2, .int .i64 b3]))
    (h : wpList Try.prog ops Q rest (A.put o.dst (.bool (same33 a0 a1 a2 a3 b0 b1 b2 b3))) W) : wpList Try.prog ops Q (o :: rest) A W := by
  refine wpList_step (fun K hK => ?_)
  rw [if_pos hw]
  unfold Oper.wp
  rw [exec_eql33 ho a0 a1 a2 a3 b0 b1 b2 b3 hx hy]
  exact hK _ _ h
end
theorem neq33 (w : World) (a0 a1 a2 a3 b0 b1 b2 b3 : Int) : (binOp .neq 33 (.agg #[.int .i64 a0, .int .i64 a1, .int .i64 a2, .int .i64 a3]) (.agg #[.int .i64 b0, .int .i64 b1, .int .i64 b2, .int .i64 b3])).run Try.prog w = .ok (.bool (!same33 a0 a1 a2 a3 b0 b1 b2 b3)) w := by
  rw [run_neq_struct, show (10000 : Nat) = 9998 + 2 from rfl, eq33]
  simp [same33, Bool.decide_and]
  grind
theorem exec_neq33 {o : Oper} {ρ : Operand → Value} {x y : Operand} (ho : o.op = .binOp .neq 33 x y 33) (a0 a1 a2 a3 b0 b1 b2 b3 : Int) (hx : ρ x = (.agg #[.int .i64 a0, .int .i64 a1, .int .i64 a2, .int .i64 a3])) (hy : ρ y = (.agg #[.int .i64 b0, .int .i64 b1, .int .i64 b2, .int .i64 b3])) (X : World) : (execOp ρ o).run Try.prog X = .ok (.value (.bool (!same33 a0 a1 a2 a3 b0 b1 b2 b3))) X := by
  have hm : Try.prog.eqGuardType Try.prog.depth 33 = false := by kernel_rfl
  unfold execOp
  simp only [ho, hx, hy, Sem.run_bind, run_eqGuard_agg _ _ _ _ _ _ _ hm, neq33, Result.andThen_ok, Sem.run_pure]
section
variable {ops : Array Oper} {rest : List Oper} {o : Oper} {A : Act} {W : World} {Q : Exit → Act → World → Prop}
theorem wpList_neq33 (hw : Region.wanted o (yielded ops A.tmps) = true) {x y : Operand} (ho : o.op = .binOp .neq 33 x y 33) (a0 a1 a2 a3 b0 b1 b2 b3 : Int) (hx : A.eval x = (.agg #[.int .i64 a0, .int .i64 a1, .int .i64 a2, .int .i64 a3])) (hy : A.eval y = (.agg #[.int .i64 b0, .int .i64 b1, .int .i64 b2, .int .i64 b3]))
    (h : wpList Try.prog ops Q rest (A.put o.dst (.bool (!same33 a0 a1 a2 a3 b0 b1 b2 b3))) W) : wpList Try.prog ops Q (o :: rest) A W := by
  refine wpList_step (fun K hK => ?_)
  rw [if_pos hw]
  unfold Oper.wp
  rw [exec_neq33 ho a0 a1 a2 a3 b0 b1 b2 b3 hx hy]
  exact hK _ _ h
end
def same59 (a0 a1 b0 b1 : Int) : Bool := decide (a0 = b0 ∧ a1 = b1)
theorem same59_self (a0 a1 : Int) : same59 a0 a1 a0 a1 = true := by simp [same59]
theorem eql59 (w : World) (a0 a1 b0 b1 : Int) : (binOp .eql 59 (.agg #[.int .i64 a0, .int .i64 a1]) (.agg #[.int .i64 b0, .int .i64 b1])).run Try.prog w = .ok (.bool (same59 a0 a1 b0 b1)) w := by
  rw [run_eql_struct, show (10000 : Nat) = 9998 + 2 from rfl, eq59]
  simp [same59, Bool.decide_and]
  grind
theorem exec_eql59 {o : Oper} {ρ : Operand → Value} {x y : Operand} (ho : o.op = .binOp .eql 59 x y 59) (a0 a1 b0 b1 : Int) (hx : ρ x = (.agg #[.int .i64 a0, .int .i64 a1])) (hy : ρ y = (.agg #[.int .i64 b0, .int .i64 b1])) (X : World) : (execOp ρ o).run Try.prog X = .ok (.value (.bool (same59 a0 a1 b0 b1))) X := by
  have hm : Try.prog.eqGuardType Try.prog.depth 59 = false := by kernel_rfl
  unfold execOp
  simp only [ho, hx, hy, Sem.run_bind, run_eqGuard_agg _ _ _ _ _ _ _ hm, eql59, Result.andThen_ok, Sem.run_pure]
section
variable {ops : Array Oper} {rest : List Oper} {o : Oper} {A : Act} {W : World} {Q : Exit → Act → World → Prop}
theorem wpList_eql59 (hw : Region.wanted o (yielded ops A.tmps) = true) {x y : Operand} (ho : o.op = .binOp .eql 59 x y 59) (a0 a1 b0 b1 : Int) (hx : A.eval x = (.agg #[.int .i64 a0, .int .i64 a1])) (hy : A.eval y = (.agg #[.int .i64 b0, .int .i64 b1]))
    (h : wpList Try.prog ops Q rest (A.put o.dst (.bool (same59 a0 a1 b0 b1))) W) : wpList Try.prog ops Q (o :: rest) A W := by
  refine wpList_step (fun K hK => ?_)
  rw [if_pos hw]
  unfold Oper.wp
  rw [exec_eql59 ho a0 a1 b0 b1 hx hy]
  exact hK _ _ h
end
theorem neq59 (w : World) (a0 a1 b0 b1 : Int) : (binOp .neq 59 (.agg #[.int .i64 a0, .int .i64 a1]) (.agg #[.int .i64 b0, .int .i64 b1])).run Try.prog w = .ok (.bool (!same59 a0 a1 b0 b1)) w := by
  rw [run_neq_struct, show (10000 : Nat) = 9998 + 2 from rfl, eq59]
  simp [same59, Bool.decide_and]
  grind
theorem exec_neq59 {o : Oper} {ρ : Operand → Value} {x y : Operand} (ho : o.op = .binOp .neq 59 x y 59) (a0 a1 b0 b1 : Int) (hx : ρ x = (.agg #[.int .i64 a0, .int .i64 a1])) (hy : ρ y = (.agg #[.int .i64 b0, .int .i64 b1])) (X : World) : (execOp ρ o).run Try.prog X = .ok (.value (.bool (!same59 a0 a1 b0 b1))) X := by
  have hm : Try.prog.eqGuardType Try.prog.depth 59 = false := by kernel_rfl
  unfold execOp
  simp only [ho, hx, hy, Sem.run_bind, run_eqGuard_agg _ _ _ _ _ _ _ hm, neq59, Result.andThen_ok, Sem.run_pure]
section
variable {ops : Array Oper} {rest : List Oper} {o : Oper} {A : Act} {W : World} {Q : Exit → Act → World → Prop}
theorem wpList_neq59 (hw : Region.wanted o (yielded ops A.tmps) = true) {x y : Operand} (ho : o.op = .binOp .neq 59 x y 59) (a0 a1 b0 b1 : Int) (hx : A.eval x = (.agg #[.int .i64 a0, .int .i64 a1])) (hy : A.eval y = (.agg #[.int .i64 b0, .int .i64 b1]))
    (h : wpList Try.prog ops Q rest (A.put o.dst (.bool (!same59 a0 a1 b0 b1))) W) : wpList Try.prog ops Q (o :: rest) A W := by
  refine wpList_step (fun K hK => ?_)
  rw [if_pos hw]
  unfold Oper.wp
  rw [exec_neq59 ho a0 a1 b0 b1 hx hy]
  exact hK _ _ h
end
def same61 (a0 a1 a2 b0 b1 b2 : Int) : Bool := decide (a0 = b0 ∧ a1 = b1 ∧ a2 = b2)
theorem same61_self (a0 a1 a2 : Int) : same61 a0 a1 a2 a0 a1 a2 = true := by simp [same61]
theorem eql61 (w : World) (a0 a1 a2 b0 b1 b2 : Int) : (binOp .eql 61 (.agg #[.int .i64 a0, .int .i64 a1, .int .i64 a2]) (.agg #[.int .i64 b0, .int .i64 b1, .int .i64 b2])).run Try.prog w = .ok (.bool (same61 a0 a1 a2 b0 b1 b2)) w := by
  rw [run_eql_struct, show (10000 : Nat) = 9997 + 3 from rfl, eq61]
  simp [same61, Bool.decide_and]
  grind
theorem exec_eql61 {o : Oper} {ρ : Operand → Value} {x y : Operand} (ho : o.op = .binOp .eql 61 x y 61) (a0 a1 a2 b0 b1 b2 : Int) (hx : ρ x = (.agg #[.int .i64 a0, .int .i64 a1, .int .i64 a2])) (hy : ρ y = (.agg #[.int .i64 b0, .int .i64 b1, .int .i64 b2])) (X : World) : (execOp ρ o).run Try.prog X = .ok (.value (.bool (same61 a0 a1 a2 b0 b1 b2))) X := by
  have hm : Try.prog.eqGuardType Try.prog.depth 61 = false := by kernel_rfl
  unfold execOp
  simp only [ho, hx, hy, Sem.run_bind, run_eqGuard_agg _ _ _ _ _ _ _ hm, eql61, Result.andThen_ok, Sem.run_pure]
section
variable {ops : Array Oper} {rest : List Oper} {o : Oper} {A : Act} {W : World} {Q : Exit → Act → World → Prop}
theorem wpList_eql61 (hw : Region.wanted o (yielded ops A.tmps) = true) {x y : Operand} (ho : o.op = .binOp .eql 61 x y 61) (a0 a1 a2 b0 b1 b2 : Int) (hx : A.eval x = (.agg #[.int .i64 a0, .int .i64 a1, .int .i64 a2])) (hy : A.eval y = (.agg #[.int .i64 b0, .int .i64 b1, .int .i64 b2]))
    (h : wpList Try.prog ops Q rest (A.put o.dst (.bool (same61 a0 a1 a2 b0 b1 b2))) W) : wpList Try.prog ops Q (o :: rest) A W := by
  refine wpList_step (fun K hK => ?_)
  rw [if_pos hw]
  unfold Oper.wp
  rw [exec_eql61 ho a0 a1 a2 b0 b1 b2 hx hy]
  exact hK _ _ h
end
theorem neq61 (w : World) (a0 a1 a2 b0 b1 b2 : Int) : (binOp .neq 61 (.agg #[.int .i64 a0, .int .i64 a1, .int .i64 a2]) (.agg #[.int .i64 b0, .int .i64 b1, .int .i64 b2])).run Try.prog w = .ok (.bool (!same61 a0 a1 a2 b0 b1 b2)) w := by
  rw [run_neq_struct, show (10000 : Nat) = 9997 + 3 from rfl, eq61]
  simp [same61, Bool.decide_and]
  grind
theorem exec_neq61 {o : Oper} {ρ : Operand → Value} {x y : Operand} (ho : o.op = .binOp .neq 61 x y 61) (a0 a1 a2 b0 b1 b2 : Int) (hx : ρ x = (.agg #[.int .i64 a0, .int .i64 a1, .int .i64 a2])) (hy : ρ y = (.agg #[.int .i64 b0, .int .i64 b1, .int .i64 b2])) (X : World) : (execOp ρ o).run Try.prog X = .ok (.value (.bool (!same61 a0 a1 a2 b0 b1 b2))) X := by
  have hm : Try.prog.eqGuardType Try.prog.depth 61 = false := by kernel_rfl
  unfold execOp
  simp only [ho, hx, hy, Sem.run_bind, run_eqGuard_agg _ _ _ _ _ _ _ hm, neq61, Result.andThen_ok, Sem.run_pure]
section
variable {ops : Array Oper} {rest : List Oper} {o : Oper} {A : Act} {W : World} {Q : Exit → Act → World → Prop}
theorem wpList_neq61 (hw : Region.wanted o (yielded ops A.tmps) = true) {x y : Operand} (ho : o.op = .binOp .neq 61 x y 61) (a0 a1 a2 b0 b1 b2 : Int) (hx : A.eval x = (.agg #[.int .i64 a0, .int .i64 a1, .int .i64 a2])) (hy : A.eval y = (.agg #[.int .i64 b0, .int .i64 b1, .int .i64 b2]))
    (h : wpList Try.prog ops Q rest (A.put o.dst (.bool (!same61 a0 a1 a2 b0 b1 b2))) W) : wpList Try.prog ops Q (o :: rest) A W := by
  refine wpList_step (fun K hK => ?_)
  rw [if_pos hw]
  unfold Oper.wp
  rw [exec_neq61 ho a0 a1 a2 b0 b1 b2 hx hy]
  exact hK _ _ h
end
end Go.Proofs.Yteoiogjaecpddaa
