/-
  Package dir: Newer; records compared; lists copied and compared.
-/
import Derived.Test.YtoeebofappbneaaGreatD3
import Derived.Test.YtoeebofappbneaaGreatQ0
namespace Go.Proofs.YtoeebofappbneaaGreat
open Go.ChangeShapes Go.WideShapes Go.ChangeAt Go.RowKit
set_option linter.unusedVariables false
set_option linter.unusedSimpArgs false

theorem field57 (n : ByteArray) (e m : Int) (a : Bool) (k s : Int) (W : World) : (Instr.field 82 (rcv n e m a k s) 0).run Tryz.prog W = .ok (stv e m) W := by
  unfold Instr.field
  rw [Sem.run_bind, run_underlying Tryz.underlying82]
  go_simp
  try rfl
attribute [local go_sem] field57
/-- The same in all parts. -/
def eqC (x y : CH) : Bool := eqN x.nm y.nm && ((x.ep == y.ep) && ((x.mr == y.mr) && ((x.al == y.al) && ((x.kd == y.kd) && ((x.sc == y.sc) && true)))))
theorem eqC_iff (x y : CH) : eqC x y = true ↔ x = y := by
  obtain ⟨a, b, c, d, e, f⟩ := x
  obtain ⟨a', b', c', d', e', f'⟩ := y
  simp only [eqC, Bool.and_eq_true, eqN_iff, beq_iff_eq, and_true, CH.mk.injEq]
theorem eqC_self (x : CH) : eqC x x = true := (eqC_iff x x).2 rfl
theorem eqFields_cons {P : Program} {w : World} {d : Nat} {xs ys : Array Value} {f : Field} {fs : List Field} {a b : Value} {r q : Bool} (hn : f.name ≠ "_") (ha : (part f.type xs f.offset).run P w = .ok a w) (hb : (part f.type ys f.offset).run P w = .ok b w)
    (hr : (Op.equalIn d f.type a b).run P w = .ok r w) (hq : (Op.eqFields d xs ys fs).run P w = .ok q w) : (Op.eqFields d xs ys (f :: fs)).run P w = .ok (r && q) w := by
  simp only [Op.eqFields, Sem.run_bind, Sem.run_ite, if_pos hn, ha, hb, hr, Result.andThen_ok]
  cases r
  · simp
  · simpa using hq
theorem eqFields_nil {P : Program} {w : World} {d : Nat} {xs ys : Array Value} : (Op.eqFields d xs ys []).run P w = .ok true w := by simp [Op.eqFields]
theorem eq23 (w : World) (d : Nat) (x y : CH) : (Op.equalIn (d + 2) 47 x.val y.val).run Tryz.prog w = .ok (eqC x y) w := by
  have hS : Tryz.prog.underlying 47 = some (.struct (Tryz.prog.fieldsOf 47)) := by kernel_rfl
  have hp : Tryz.prog.stoodInHeld 47 = false := by kernel_rfl
  unfold CH.val
  rw [run_equalIn_agg w (d + 1) 47 _ _ hS hp]
  simp only [Program.fieldsOf, Tryz.underlying47]
  refine eqFields_cons (a := .string x.nm) (b := .string y.nm) (r := eqN x.nm y.nm) (by decide) (by go_simp) (by go_simp) (by unfold eqN; go_simp) ?_
  refine eqFields_cons (a := .int .i64 x.ep) (b := .int .i64 y.ep) (r := (x.ep == y.ep)) (by decide) (by go_simp) (by go_simp) (by go_simp) ?_
  refine eqFields_cons (a := .int .i64 x.mr) (b := .int .i64 y.mr) (r := (x.mr == y.mr)) (by decide) (by go_simp) (by go_simp) (by go_simp) ?_
  refine eqFields_cons (a := .bool x.al) (b := .bool y.al) (r := (x.al == y.al)) (by decide) (by go_simp) (by go_simp) (by go_simp) ?_
  refine eqFields_cons (a := .int .i64 x.kd) (b := .int .i64 y.kd) (r := (x.kd == y.kd)) (by decide) (by go_simp) (by go_simp) (by go_simp) ?_
  refine eqFields_cons (a := .int .i64 x.sc) (b := .int .i64 y.sc) (r := (x.sc == y.sc)) (by decide) (by go_simp) (by go_simp) (by go_simp) ?_
  exact eqFields_nil
theorem eql23 (w : World) (x y : CH) : (binOp .eql 47 x.val y.val).run Tryz.prog w = .ok (.bool (eqC x y)) w := by
  rw [show (binOp .eql 47 x.val y.val).run Tryz.prog w = _ from run_eql_struct ..]
  rw [show (10000 : Nat) = 9998 + 2 from rfl]
  have := eq23 w 9998 x y
  unfold CH.val at this
  rw [this]
  simp
theorem neq23 (w : World) (x y : CH) : (binOp .neq 47 x.val y.val).run Tryz.prog w = .ok (.bool (!eqC x y)) w := by
  rw [show (binOp .neq 47 x.val y.val).run Tryz.prog w = _ from run_neq_struct ..]
  rw [show (10000 : Nat) = 9998 + 2 from rfl]
  have := eq23 w 9998 x y
  unfold CH.val at this
  rw [this]
  simp
theorem exec_eql23 {o : Oper} {ρ : Operand → Value} {p q : Operand} (ho : o.op = .binOp .eql 47 p q 47) (x y : CH) (hx : ρ p = x.val) (hy : ρ q = y.val) (X : World) : (execOp ρ o).run Tryz.prog X = .ok (.value (.bool (eqC x y))) X := by
  have hm : Tryz.prog.eqGuardType Tryz.prog.depth 47 = false := by kernel_rfl
  have hg := run_eqGuard_agg (P := Tryz.prog) X .eql 47 p q #[.string x.nm, .int .i64 x.ep, .int .i64 x.mr, .bool x.al, .int .i64 x.kd, .int .i64 x.sc] #[.string y.nm, .int .i64 y.ep, .int .i64 y.mr, .bool y.al, .int .i64 y.kd, .int .i64 y.sc] hm
  have he := eql23 X x y
  unfold CH.val at hg he
  unfold execOp
  simp only [ho, hx, hy, CH.val, Sem.run_bind, hg, he, Result.andThen_ok, Sem.run_pure]
theorem exec_neq23 {o : Oper} {ρ : Operand → Value} {p q : Operand} (ho : o.op = .binOp .neq 47 p q 47) (x y : CH) (hx : ρ p = x.val) (hy : ρ q = y.val) (X : World) : (execOp ρ o).run Tryz.prog X = .ok (.value (.bool (!eqC x y))) X := by
  have hm : Tryz.prog.eqGuardType Tryz.prog.depth 47 = false := by kernel_rfl
  have hg := run_eqGuard_agg (P := Tryz.prog) X .neq 47 p q #[.string x.nm, .int .i64 x.ep, .int .i64 x.mr, .bool x.al, .int .i64 x.kd, .int .i64 x.sc] #[.string y.nm, .int .i64 y.ep, .int .i64 y.mr, .bool y.al, .int .i64 y.kd, .int .i64 y.sc] hm
  have he := neq23 X x y
  unfold CH.val at hg he
  unfold execOp
  simp only [ho, hx, hy, CH.val, Sem.run_bind, hg, he, Result.andThen_ok, Sem.run_pure]
end Go.Proofs.YtoeebofappbneaaGreat
