/-
  Package dir: Newer; records compared; lists copied and compared.
-/
import Derived.Test.YtmbchcpggbfkcaaD3
import Derived.Test.YtmbchcpggbfkcaaQ0
namespace Go.Proofs.Ytmbchcpggbfkcaa
open Go.ChangeShapes Go.WideShapes Go.ChangeAt Go.RowKit
set_option linter.unusedVariables false
set_option linter.unusedSimpArgs false

theorem field57 (n : ByteArray) (e m : Int) (a : Bool) (k s : Int) (W : World) : (Instr.field 57 (rcv n e m a k s) 0).run Try.prog W = .ok (stv e m) W := by
  unfold Instr.field
  rw [Sem.run_bind, run_underlying Try.underlying57]
  go_simp
  try rfl
attribute [local go_sem] field57
set_option maxRecDepth 100000 in
set_option maxHeartbeats 4000000 in
theorem newer_any (nm : ByteArray) (ep mr : Int) (al : Bool) (kd sc : Int) (nm' : ByteArray) (ep' mr' : Int) (al' : Bool) (kd' sc' : Int) (w : World) : Calls Try.prog 15 #[chv nm ep mr al kd sc, chv nm' ep' mr' al' kd' sc'] w fun r w' => r = .returned (.bool (nwZ ep mr ep' mr')) ∧ Below w.heap.size w w' := by
  have M := Mem.nil w
  have K1 := fun w => of_any nm ep mr al kd sc w
  have K2 := fun w => of_any nm' ep' mr' al' kd' sc' w
  have K3 := fun w => snewer_any ep mr ep' mr' w
  go_enter Try.func15, Try.ntmps15
  go_wp2_with (first
      | ((with_reducible show wpList _ _ _ (Oper.mk (some 2) (Op.box 23 _) _ _ _ _ :: _) _ _); refine wpList_box M rfl _ rfl _ rfl ?_; clear M; intro k2 W M)
      | ((with_reducible show wpList _ _ _ (Oper.mk (some 3) (Op.box 23 _) _ _ _ _ :: _) _ _); refine wpList_box M rfl _ rfl _ rfl ?_; clear M; intro k3 W M))
  refine wp_region_any (by kernel_rfl) ?_
  change wpAny _ _ _ _ _ _ _ (World.drew _)
  replace M := M.drew
  generalize World.drew W = WD at M ⊢
  refine wpAny_narrow (fun W' => Mem w W' [(k3, #[.string nm', .int .i64 ep', .int .i64 mr', .bool al', .int .i64 kd', .int .i64 sc'], 23), (k2, #[.string nm, .int .i64 ep, .int .i64 mr, .bool al, .int .i64 kd, .int .i64 sc], 23)]) _ _ _ _ ?_
  refine anyH_take 0 5 (chv nm ep mr al kd sc) rfl rfl (by kernel_rfl) (by kernel_rfl) (by kernel_rfl) (fun _ _ _ h => h) (Or.inl ⟨by rfl, fun X hSw => exec_loadr rfl rt23 rfl (hSw.get (.tail _ (.head _))) rfl⟩) (M) ?_
  try simp only [Act.put, List.setIfInBounds_toArray, List.set_cons_zero, List.set_cons_succ]
  refine anyH_take 3 8 (chv nm' ep' mr' al' kd' sc') rfl rfl (by kernel_rfl) (by kernel_rfl) (by kernel_rfl) (fun _ _ _ h => h) (Or.inl ⟨by rfl, fun X hSw => exec_loadr rfl rt23 rfl (hSw.get (.head _)) rfl⟩) (M) ?_
  try simp only [Act.put, List.setIfInBounds_toArray, List.set_cons_zero, List.set_cons_succ]
  refine wpAnyH_ready (rs := [1]) (by kernel_rfl) (by simp) ?_
  refine AllReadyH.cons rfl (fun K hK => ?_) AllReadyH.nil
  go_simp
  go_wp2_with (go_at_call 39; refine (K1 _).mono ?_; clear K1; rintro e w1 ⟨rfl, b1⟩; replace M := M.later b1; clear b1)
  refine hK.out _ _ (M) (fun hS => ?_)
  clear hK
  refine anyH_take 2 7 (stv ep mr) rfl rfl (by kernel_rfl) (by kernel_rfl) (by kernel_rfl) (fun _ _ _ h => h) (Or.inl ⟨by rfl, by intro w hSw; go_simp⟩) (M) ?_
  try simp only [Act.put, List.setIfInBounds_toArray, List.set_cons_zero, List.set_cons_succ]
  refine wpAnyH_ready (rs := [4]) (by kernel_rfl) (by simp) ?_
  refine AllReadyH.cons rfl (fun K hK => ?_) AllReadyH.nil
  go_simp
  go_wp2_with (go_at_call 39; refine (K2 _).mono ?_; clear K2; rintro e w1 ⟨rfl, b1⟩; replace M := M.later b1; clear b1)
  refine hK.out _ _ (M) (fun hS => ?_)
  clear hK
  refine anyH_take 5 10 (stv ep' mr') rfl rfl (by kernel_rfl) (by kernel_rfl) (by kernel_rfl) (fun _ _ _ h => h) (Or.inl ⟨by rfl, by intro w hSw; go_simp⟩) (M) ?_
  try simp only [Act.put, List.setIfInBounds_toArray, List.set_cons_zero, List.set_cons_succ]
  refine wpAnyH_ready (rs := [6]) (by kernel_rfl) (by simp) ?_
  refine AllReadyH.cons rfl (fun K hK => ?_) AllReadyH.nil
  go_simp
  go_wp2_with (go_at_call 40; refine (K3 _).mono ?_; clear K3; rintro e w1 ⟨rfl, b1⟩; replace M := M.later b1; clear b1)
  refine hK.out _ _ (M) (fun hS => ?_)
  clear hK
  refine anyH_take 7 4 (.bool (nwZ ep mr ep' mr')) rfl rfl (by kernel_rfl) (by kernel_rfl) (by kernel_rfl) (fun _ _ _ h => h) (Or.inl ⟨by rfl, by intro w hSw; go_simp⟩) (M) ?_
  try simp only [Act.put, List.setIfInBounds_toArray, List.set_cons_zero, List.set_cons_succ]
  refine wpAnyH_done (by kernel_rfl) ?_ _
  go_wp2
  go_ret
  exact ⟨rfl, M.below⟩
/-- The same in all parts. -/
def eqC (x y : CH) : Bool := eqN x.nm y.nm && ((x.ep == y.ep) && ((x.mr == y.mr) && ((x.al == y.al) && ((x.kd == y.kd) && ((x.sc == y.sc) && true)))))
theorem eqC_iff (x y : CH) : eqC x y = true ↔ x = y := by
  obtain ⟨a, b, c, d, e, f⟩ := x
  obtain ⟨a', b', c', d', e', f'⟩ := y
  simp only [eqC, Bool.and_eq_true, eqN_iff, beq_iff_eq, and_true, CH.mk.injEq]
theorem eqC_self (x : CH) : eqC x x = true := (eqC_iff x x).2 rfl
theorem eqFields_cons {P : Program} {w : World} {d : Nat} {xs ys : Array Value} {f : Field} {fs : List Field} {a b : Value} {r q : Bool} (hn : f.name ≠ "_") (ha : (part f.type xs f.offset).run P w = .ok a w) (hb : (part f.type ys f.offset).run P w = .ok b w)
    (hr : (Op.equalIn d f.type a b).run P w = .ok r w) (hq : (Op.eqFields d xs ys fs).run P w = .ok q w) : (Op.eqFields d xs ys (f :: fs)).run P w = .ok (r && q) w := by
  simp only [Op.eqFields, Sem.run_bind, Sem.run_ite, if_pos hn, ha, hb, hr, Result.andThen_ok]
  cases r
  · simp
  · simpa using hq
theorem eqFields_nil {P : Program} {w : World} {d : Nat} {xs ys : Array Value} : (Op.eqFields d xs ys []).run P w = .ok true w := by simp [Op.eqFields]
theorem eq23 (w : World) (d : Nat) (x y : CH) : (Op.equalIn (d + 2) 23 x.val y.val).run Try.prog w = .ok (eqC x y) w := by
  have hS : Try.prog.underlying 23 = some (.struct (Try.prog.fieldsOf 23)) := by kernel_rfl
  have hp : Try.prog.stoodInHeld 23 = false := by kernel_rfl
  unfold CH.val
  rw [run_equalIn_agg w (d + 1) 23 _ _ hS hp]
  simp only [Program.fieldsOf, Try.underlying23]
  refine eqFields_cons (a := .string x.nm) (b := .string y.nm) (r := eqN x.nm y.nm) (by decide) (by go_simp) (by go_simp) (by unfold eqN; go_simp) ?_
  refine eqFields_cons (a := .int .i64 x.ep) (b := .int .i64 y.ep) (r := (x.ep == y.ep)) (by decide) (by go_simp) (by go_simp) (by go_simp) ?_
  refine eqFields_cons (a := .int .i64 x.mr) (b := .int .i64 y.mr) (r := (x.mr == y.mr)) (by decide) (by go_simp) (by go_simp) (by go_simp) ?_
  refine eqFields_cons (a := .bool x.al) (b := .bool y.al) (r := (x.al == y.al)) (by decide) (by go_simp) (by go_simp) (by go_simp) ?_
  refine eqFields_cons (a := .int .i64 x.kd) (b := .int .i64 y.kd) (r := (x.kd == y.kd)) (by decide) (by go_simp) (by go_simp) (by go_simp) ?_
  refine eqFields_cons (a := .int .i64 x.sc) (b := .int .i64 y.sc) (r := (x.sc == y.sc)) (by decide) (by go_simp) (by go_simp) (by go_simp) ?_
  exact eqFields_nil
theorem eql23 (w : World) (x y : CH) : (binOp .eql 23 x.val y.val).run Try.prog w = .ok (.bool (eqC x y)) w := by
  rw [show (binOp .eql 23 x.val y.val).run Try.prog w = _ from run_eql_struct ..]
  rw [show (10000 : Nat) = 9998 + 2 from rfl]
  have := eq23 w 9998 x y
  unfold CH.val at this
  rw [this]
  simp
theorem neq23 (w : World) (x y : CH) : (binOp .neq 23 x.val y.val).run Try.prog w = .ok (.bool (!eqC x y)) w := by
  rw [show (binOp .neq 23 x.val y.val).run Try.prog w = _ from run_neq_struct ..]
  rw [show (10000 : Nat) = 9998 + 2 from rfl]
  have := eq23 w 9998 x y
  unfold CH.val at this
  rw [this]
  simp
theorem exec_eql23 {o : Oper} {ρ : Operand → Value} {p q : Operand} (ho : o.op = .binOp .eql 23 p q 23) (x y : CH) (hx : ρ p = x.val) (hy : ρ q = y.val) (X : World) : (execOp ρ o).run Try.prog X = .ok (.value (.bool (eqC x y))) X := by
  have hm : Try.prog.eqGuardType Try.prog.depth 23 = false := by kernel_rfl
  have hg := run_eqGuard_agg (P := Try.prog) X .eql 23 p q #[.string x.nm, .int .i64 x.ep, .int .i64 x.mr, .bool x.al, .int .i64 x.kd, .int .i64 x.sc] #[.string y.nm, .int .i64 y.ep, .int .i64 y.mr, .bool y.al, .int .i64 y.kd, .int .i64 y.sc] hm
  have he := eql23 X x y
  unfold CH.val at hg he
  unfold execOp
  simp only [ho, hx, hy, CH.val, Sem.run_bind, hg, he, Result.andThen_ok, Sem.run_pure]
theorem exec_neq23 {o : Oper} {ρ : Operand → Value} {p q : Operand} (ho : o.op = .binOp .neq 23 p q 23) (x y : CH) (hx : ρ p = x.val) (hy : ρ q = y.val) (X : World) : (execOp ρ o).run Try.prog X = .ok (.value (.bool (!eqC x y))) X := by
  have hm : Try.prog.eqGuardType Try.prog.depth 23 = false := by kernel_rfl
  have hg := run_eqGuard_agg (P := Try.prog) X .neq 23 p q #[.string x.nm, .int .i64 x.ep, .int .i64 x.mr, .bool x.al, .int .i64 x.kd, .int .i64 x.sc] #[.string y.nm, .int .i64 y.ep, .int .i64 y.mr, .bool y.al, .int .i64 y.kd, .int .i64 y.sc] hm
  have he := neq23 X x y
  unfold CH.val at hg he
  unfold execOp
  simp only [ho, hx, hy, CH.val, Sem.run_bind, hg, he, Result.andThen_ok, Sem.run_pure]
end Go.Proofs.Ytmbchcpggbfkcaa
