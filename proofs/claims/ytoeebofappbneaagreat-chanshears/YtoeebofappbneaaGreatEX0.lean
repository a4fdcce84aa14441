/-
  Extreme values in memory: records of four cells in blocks of their own, and what the operations make of them.
-/
import Derived.Test.YtoeebofappbneaaGreatProg
import Derived.WalkKit
import Derived.ProofKit
import Derived.OpenShut
import Derived.Handy
import Derived.Below
import Derived.BigQuiet
import Derived.Deep.LoopGhost
import Derived.WalkLawsBesides
import Derived.Deep.RegionWith
import Derived.Deep.DeepCutAuto
import Derived.Laws.StructEq
import Derived.Laws.Tables
import Derived.Deep.MidRow
import Derived.Deep.Slices
import Derived.RangeFuncRecord
namespace Go.Proofs.YtoeebofappbneaaGreat.E
open Go.ChangeShapes Go.WideShapes Go.ChangeAt Go.RowKit
set_option linter.unusedVariables false
set_option linter.unusedSimpArgs false

theorem ret_bool {a b : Bool} (h : a = b) : Ending.returned (.bool a) = .returned (.bool b) := by rw [h]
theorem ret_i64 {a b : Int} (h : a = b) : Ending.returned (.int .i64 a) = .returned (.int .i64 b) := by rw [h]
theorem row_cell {w : World} {g : Nat} {cs : Array Value} {t : TypeId} (h : w.heap[g]? = some (.cells cs t (0, 0))) (i : Nat) (v : Value) (hv : cs[i]? = some v) : w.cell? ⟨g, i, none⟩ = some v := by
  simp [World.cell?, h, hv]
theorem row_free {w : World} {g : Nat} {cs : Array Value} {t : TypeId} (h : w.heap[g]? = some (.cells cs t (0, 0))) (i : Nat) : w.frozen? ⟨g, i, none⟩ = false := by simp [World.frozen?, h]
theorem row_lt {w : World} {g : Nat} {o : Obj} (h : w.heap[g]? = some o) : g < w.heap.size := (Array.getElem?_eq_some_iff.1 h).1
/-- An extreme value: whether it is there, its value, whose it is, its age. -/
structure EX where
  h : Bool
  v : Int
  o : Int
  g : Int
abbrev ex (h : Bool) (v o g : Int) : Value := .agg #[.bool h, .int .i64 v, .int .i64 o, .int .i64 g]
abbrev EX.val (x : EX) : Value := ex x.h x.v x.o x.g
abbrev EX.row (x : EX) : Array Value := #[.bool x.h, .int .i64 x.v, .int .i64 x.o, .int .i64 x.g]
abbrev EX.z : EX := ⟨false, 0, 0, 0⟩
/-- Block k holds x. -/
def At (W : World) (k : Nat) (x : EX) : Prop := W.heap[k]? = some (.cells x.row 38 (0, 0))
/-- Since w nothing that was there has changed, and the blocks of l, made since, hold what l says. -/
structure Mem (w W : World) (l : List (Nat × EX)) : Prop where
  below : Below w.heap.size w W
  at_ : ∀ p, p ∈ l → At W p.1 p.2 ∧ w.heap.size ≤ p.1
  nd : (l.map Prod.fst).Nodup
theorem Mem.nil (w : World) : Mem w w [] := ⟨Below.refl _ _, fun p h => (by cases h), by simp⟩
theorem Mem.drew {w W : World} {l : List (Nat × EX)} (M : Mem w W l) : Mem w W.drew l := ⟨M.below.drew, M.at_, M.nd⟩
theorem Mem.later {w W W' : World} {l : List (Nat × EX)} (M : Mem w W l) (b : Below W.heap.size W W') : Mem w W' l :=
  ⟨M.below.trans (b.mono M.below.size), fun p hp => ⟨(b.block _ (row_lt (M.at_ p hp).1)).trans (M.at_ p hp).1, (M.at_ p hp).2⟩, M.nd⟩
theorem Mem.get {w W : World} {l : List (Nat × EX)} (M : Mem w W l) {k : Nat} {x : EX} (h : (k, x) ∈ l) : At W k x := (M.at_ _ h).1
theorem Mem.add {w W : World} {l : List (Nat × EX)} (M : Mem w W l) (x : EX) : Mem w (W.alloc (.cells x.row 38)) ((W.heap.size, x) :: l) := by
  refine ⟨M.below.alloc M.below.size _, fun p hp => ?_, ?_⟩
  · rcases List.mem_cons.1 hp with rfl | hp
    · exact ⟨World.alloc_heap_new W _, M.below.size⟩
    · exact ⟨(Below.heap_alloc _ _ _ (row_lt (M.at_ p hp).1)).trans (M.at_ p hp).1, (M.at_ p hp).2⟩
  · rw [List.map_cons, List.nodup_cons]
    refine ⟨fun h => ?_, M.nd⟩
    obtain ⟨p, hp, e⟩ := List.mem_map.1 h
    have := row_lt (M.at_ p hp).1
    dsimp only at e
    omega
theorem Mem.sub {w W : World} {l : List (Nat × EX)} (M : Mem w W l) (l' : List (Nat × EX)) (h : ∀ p, p ∈ l' → p ∈ l) (hn : (l'.map Prod.fst).Nodup) : Mem w W l' := ⟨M.below, fun p hp => M.at_ p (h p hp), hn⟩
theorem nodup_set (l : List (Nat × EX)) (i k : Nat) (x y : EX) (h : l[i]? = some (k, y)) : (l.set i (k, x)).map Prod.fst = l.map Prod.fst := by
  induction l generalizing i with
  | nil => cases h
  | cons a l ih =>
    cases i with
    | zero => cases h; rfl
    | succ i => simp only [List.set_cons_succ, List.map_cons, ih i h]
theorem nodup_at {l : List (Nat × EX)} (hn : (l.map Prod.fst).Nodup) : ∀ {i j k : Nat} {x y : EX}, l[i]? = some (k, x) → l[j]? = some (k, y) → i = j := by
  induction l with
  | nil => intro i j k x y h; cases h
  | cons a l ih =>
    rw [List.map_cons, List.nodup_cons] at hn
    intro i j k x y hi hj
    cases i with
    | zero =>
      cases j with
      | zero => rfl
      | succ j =>
        cases hi
        rw [List.getElem?_cons_succ] at hj
        exact absurd (List.mem_map.2 ⟨(k, y), List.mem_of_getElem? hj, rfl⟩) hn.1
    | succ i =>
      cases j with
      | zero =>
        cases hj
        rw [List.getElem?_cons_succ] at hi
        exact absurd (List.mem_map.2 ⟨(k, x), List.mem_of_getElem? hi, rfl⟩) hn.1
      | succ j => exact congrArg _ (ih hn.2 hi hj)
/-- One block is changed. -/
theorem Mem.put {w W W' : World} {l : List (Nat × EX)} (M : Mem w W l) (i : Nat) {k : Nat} {y : EX} (x : EX) (hi : l[i]? = some (k, y)) (h1 : W'.os = W.os) (h2 : W'.tape = W.tape) (h3 : W'.output = W.output) (h4 : W'.heap.size = W.heap.size)
    (hk : At W' k x) (hf : ∀ q, q ≠ k → W'.heap[q]? = W.heap[q]?) : Mem w W' (l.set i (k, x)) := by
  have hb := (M.at_ _ (List.mem_of_getElem? hi)).2
  refine ⟨⟨h1.trans M.below.os, h2.trans M.below.tape, h3.trans M.below.output, by rw [h4]; exact M.below.size, fun q hq => (hf q (by dsimp only at hb; omega)).trans (M.below.block q hq)⟩, fun p hp => ?_, ?_⟩
  · obtain ⟨j, hj⟩ := List.getElem?_of_mem hp
    by_cases e : i = j
    · subst e
      rw [List.getElem?_set_self (List.getElem?_eq_some_iff.1 hi).1] at hj
      cases hj
      exact ⟨hk, hb⟩
    · rw [List.getElem?_set_ne e] at hj
      have hm := M.at_ p (List.mem_of_getElem? hj)
      refine ⟨(hf p.1 (fun ep => e ?_)).trans hm.1, hm.2⟩
      obtain ⟨p1, p2⟩ := p
      dsimp only at ep
      subst ep
      exact nodup_at M.nd hi hj
  · rw [nodup_set l i k x y hi]
    exact M.nd
theorem info23 : (Tryz.prog.info? 38).map (·.size) = some 4 := by kernel_rfl
theorem load_23 {W : World} {k : Nat} {x : EX} (h : At W k x) : (loadVar 38 ⟨k, 0, none⟩).run Tryz.prog W = .ok x.val W :=
  run_loadVar_row (P := Tryz.prog) W k 38 38 _ (0, 0) _ h Tryz.underlying38 rfl (by show _ = some 4; kernel_rfl)
theorem zero23 (W : World) : (zeroValue 38).run Tryz.prog W = .ok (EX.val EX.z) W := by kernel_rfl
theorem results_c {fn : Func} {p : Tmp} (h : fn.results = #[.cell p 38]) (tmps : Array Value) (W : World) (k : Nat) (x : EX)
    (hp : tmps.getD p undef = .pointer (some ⟨k, 0, none⟩)) (hl : At W k x) : (results fn tmps).run Tryz.prog W = .ok x.val W := by
  have hp' : tmps[p]?.getD undef = .pointer (some ⟨k, 0, none⟩) := by simpa using hp
  simp [results, h, hp', asAddr, load_23 hl]
theorem results_cc {fn : Func} {p q : Tmp} (h : fn.results = #[.cell p 38, .cell q 38]) (tmps : Array Value) (W : World) (k j : Nat) (x y : EX)
    (hp : tmps.getD p undef = .pointer (some ⟨k, 0, none⟩)) (hq : tmps.getD q undef = .pointer (some ⟨j, 0, none⟩)) (hx : At W k x) (hy : At W j y) : (results fn tmps).run Tryz.prog W = .ok (.tuple #[x.val, y.val]) W := by
  have hp' : tmps[p]?.getD undef = .pointer (some ⟨k, 0, none⟩) := by simpa using hp
  have hq' : tmps[q]?.getD undef = .pointer (some ⟨j, 0, none⟩) := by simpa using hq
  simp [results, h, hp', hq', asAddr, load_23 hx, load_23 hy]
/-- The cells of a record. -/
theorem At.cells {W : World} {k : Nat} {x : EX} (h : At W k x) : W.cell? ⟨k, 0, none⟩ = some (.bool x.h) ∧ W.cell? ⟨k, 1, none⟩ = some (.int .i64 x.v) ∧ W.cell? ⟨k, 2, none⟩ = some (.int .i64 x.o) ∧ W.cell? ⟨k, 3, none⟩ = some (.int .i64 x.g) :=
  ⟨row_cell h 0 _ rfl, row_cell h 1 _ rfl, row_cell h 2 _ rfl, row_cell h 3 _ rfl⟩
section
variable {ops : Array Oper} {rest : List Oper} {o : Oper} {A : Act} {w W : World} {l : List (Nat × EX)} {Q : Exit → Act → World → Prop} {K : Act → World → Prop}
theorem exec_load23 {ρ : Operand → Value} {x : Operand} (ho : o.op = .load 38 x) {k : Nat} {d : EX} (hx : ρ x = .pointer (some ⟨k, 0, none⟩)) (hc : At W k d) : (execOp ρ o).run Tryz.prog W = .ok (.value d.val) W := by
  simp only [execOp, ho, hx, Instr.loadAt, Instr.sureAddr, Sem.run_bind, Sem.run_pure, Result.andThen_ok, load_23 hc]
theorem wpList_load (M : Mem w W l) (hgd : o.guard = none) (x : Operand) (ho : o.op = .load 38 x) {k : Nat} {h : Bool} {v p g : Int} (hx : A.eval x = .pointer (some ⟨k, 0, none⟩)) (hk : (k, EX.mk h v p g) ∈ l)
    (H : wpList Tryz.prog ops Q rest (A.put o.dst (ex h v p g)) W) : wpList Tryz.prog ops Q (o :: rest) A W := by
  refine wpList_plain hgd fun K hK => ?_
  unfold Oper.wp
  rw [exec_load23 ho hx (M.get hk)]
  exact hK _ _ H
theorem wp_put (M : Mem w W l) (x y : Operand) (ho : o.op = .store 38 x y) (i : Nat) {k : Nat} {y0 : EX} (h : Bool) (v p g : Int) (hi : l[i]? = some (k, y0)) (hx : A.eval x = .pointer (some ⟨k, 0, none⟩)) (hy : A.eval y = ex h v p g)
    (H : ∀ W', Mem w W' (l.set i (k, ⟨h, v, p, g⟩)) → K (A.put o.dst undef) W') : o.wp Tryz.prog A W K Q := by
  have ha : At W k y0 := M.get (List.mem_of_getElem? hi)
  refine wp_store_row 38 x y ho k #[.bool h, .int .i64 v, .int .i64 p, .int .i64 g] hx hy 38 _ ha info23 rfl (by simp [Value.oneCell']) ?_
  exact H _ (M.put i ⟨h, v, p, g⟩ hi rfl rfl rfl (size_setRow _ _ _) (setRow_heap _ _ _ _ _ _ ha) (fun q hq => setRow_other _ _ _ _ hq))
theorem wpList_put (M : Mem w W l) (hgd : o.guard = none) (x y : Operand) (ho : o.op = .store 38 x y) (i : Nat) {k : Nat} {y0 : EX} (h : Bool) (v p g : Int) (hi : l[i]? = some (k, y0)) (hx : A.eval x = .pointer (some ⟨k, 0, none⟩)) (hy : A.eval y = ex h v p g)
    (H : ∀ W', Mem w W' (l.set i (k, ⟨h, v, p, g⟩)) → wpList Tryz.prog ops Q rest (A.put o.dst undef) W') : wpList Tryz.prog ops Q (o :: rest) A W :=
  wpList_plain hgd fun _ hK => wp_put M x y ho i h v p g hi hx hy fun W' M' => hK _ _ (H W' M')
/-- A record's age is set. -/
theorem wpList_age (M : Mem w W l) (hgd : o.guard = none) (x y : Operand) (ho : o.op = .store 2 x y) (i : Nat) {k : Nat} {h : Bool} {v p g : Int} (n : Int) (hi : l[i]? = some (k, ⟨h, v, p, g⟩)) (hx : A.eval x = .pointer (some ⟨k, 3, none⟩)) (hy : A.eval y = .int .i64 n)
    (H : ∀ W', Mem w W' (l.set i (k, ⟨h, v, p, n⟩)) → wpList Tryz.prog ops Q rest (A.put o.dst undef) W') : wpList Tryz.prog ops Q (o :: rest) A W := by
  have ha : At W k ⟨h, v, p, g⟩ := M.get (List.mem_of_getElem? hi)
  refine wpList_plain hgd fun K hK => ?_
  unfold Oper.wp execOp
  have hc := row_cell ha 3 _ rfl
  have hf := row_free ha 3
  simp only [ho, hx, hy]
  go_simp
  refine hK _ _ (H _ (M.put i ⟨h, v, p, n⟩ hi rfl rfl rfl (by simp [World.setCell]) ?_ (fun q hq => Below.heap_setCell _ _ _ _ hq)))
  rw [setCell_eq_setRow W k 3 _ 38 (0, 0) _ ha]
  exact setRow_heap W k _ _ 38 _ ha
theorem wp_box (M : Mem w W l) (x : Operand) (ho : o.op = .box 38 x) (h : Bool) (v p g : Int) (hx : A.eval x = ex h v p g)
    (H : ∀ k W', Mem w W' ((k, ⟨h, v, p, g⟩) :: l) → K (A.put o.dst (.pointer (some ⟨k, 0, none⟩))) W') : o.wp Tryz.prog A W K Q := by
  unfold Oper.wp execOp
  simp only [ho, hx, Sem.run_bind, Instr.box, newVar, newRow, run_newObj_alloc, Sem.run_pure, Result.andThen_ok]
  exact H _ _ (M.add ⟨h, v, p, g⟩)
theorem wpList_box (M : Mem w W l) (hgd : o.guard = none) (x : Operand) (ho : o.op = .box 38 x) (h : Bool) (v p g : Int) (hx : A.eval x = ex h v p g)
    (H : ∀ k W', Mem w W' ((k, ⟨h, v, p, g⟩) :: l) → wpList Tryz.prog ops Q rest (A.put o.dst (.pointer (some ⟨k, 0, none⟩))) W') : wpList Tryz.prog ops Q (o :: rest) A W :=
  wpList_plain hgd fun _ hK => wp_box M x ho h v p g hx fun k W' M' => hK _ _ (H k W' M')
theorem wp_alloc (M : Mem w W l) (ho : o.op = .alloc 38)
    (H : ∀ k W', Mem w W' ((k, EX.z) :: l) → K (A.put o.dst (.pointer (some ⟨k, 0, none⟩))) W') : o.wp Tryz.prog A W K Q := by
  unfold Oper.wp execOp
  simp only [ho, Sem.run_bind, Instr.alloc, zero23, Result.andThen_ok, newVar, newRow, run_newObj_alloc, Sem.run_pure]
  exact H _ _ (M.add EX.z)
theorem wpList_alloc (M : Mem w W l) (hgd : o.guard = none) (ho : o.op = .alloc 38)
    (H : ∀ k W', Mem w W' ((k, EX.z) :: l) → wpList Tryz.prog ops Q rest (A.put o.dst (.pointer (some ⟨k, 0, none⟩))) W') : wpList Tryz.prog ops Q (o :: rest) A W :=
  wpList_plain hgd fun _ hK => wp_alloc M ho fun k W' M' => hK _ _ (H k W' M')
end
/-- The same in all four parts. -/
def sameX (x y : EX) : Bool := (x.h == y.h) && ((x.v == y.v) && ((x.o == y.o) && ((x.g == y.g) && true)))
theorem sameX_self (x : EX) : sameX x x = true := by simp [sameX]
theorem sameX_eq (x y : EX) : sameX x y = true ↔ x = y := by
  obtain ⟨a, b, c, d⟩ := x
  obtain ⟨a', b', c', d'⟩ := y
  simp [sameX]
theorem eqFields_cons {P : Program} {w : World} {d : Nat} {xs ys : Array Value} {f : Field} {fs : List Field} {a b : Value} {r q : Bool} (hn : f.name ≠ "_") (ha : (part f.type xs f.offset).run P w = .ok a w) (hb : (part f.type ys f.offset).run P w = .ok b w)
    (hr : (Op.equalIn d f.type a b).run P w = .ok r w) (hq : (Op.eqFields d xs ys fs).run P w = .ok q w) : (Op.eqFields d xs ys (f :: fs)).run P w = .ok (r && q) w := by
  simp only [Op.eqFields, Sem.run_bind, Sem.run_ite, if_pos hn, ha, hb, hr, Result.andThen_ok]
  cases r
  · simp
  · simpa using hq
theorem eqFields_nil {P : Program} {w : World} {d : Nat} {xs ys : Array Value} : (Op.eqFields d xs ys []).run P w = .ok true w := by simp [Op.eqFields]
theorem eq23 (w : World) (d : Nat) (x y : EX) : (Op.equalIn (d + 2) 38 x.val y.val).run Tryz.prog w = .ok (sameX x y) w := by
  have hS : Tryz.prog.underlying 38 = some (.struct (Tryz.prog.fieldsOf 38)) := by kernel_rfl
  have hp : Tryz.prog.stoodInHeld 38 = false := by kernel_rfl
  rw [run_equalIn_agg w (d + 1) 38 _ _ hS hp]
  simp only [Program.fieldsOf, Tryz.underlying38]
  refine eqFields_cons (a := .bool x.h) (b := .bool y.h) (r := (x.h == y.h)) (by decide) (by go_simp) (by go_simp) (by go_simp) ?_
  refine eqFields_cons (a := .int .i64 x.v) (b := .int .i64 y.v) (r := (x.v == y.v)) (by decide) (by go_simp) (by go_simp) (by go_simp) ?_
  refine eqFields_cons (a := .int .i64 x.o) (b := .int .i64 y.o) (r := (x.o == y.o)) (by decide) (by go_simp) (by go_simp) (by go_simp) ?_
  refine eqFields_cons (a := .int .i64 x.g) (b := .int .i64 y.g) (r := (x.g == y.g)) (by decide) (by go_simp) (by go_simp) (by go_simp) ?_
  exact eqFields_nil
theorem eql23 (w : World) (x y : EX) : (binOp .eql 38 x.val y.val).run Tryz.prog w = .ok (.bool (sameX x y)) w := by
  rw [run_eql_struct, show (10000 : Nat) = 9998 + 2 from rfl, eq23]
  simp
theorem neq23 (w : World) (x y : EX) : (binOp .neq 38 x.val y.val).run Tryz.prog w = .ok (.bool (!sameX x y)) w := by
  rw [run_neq_struct, show (10000 : Nat) = 9998 + 2 from rfl, eq23]
  simp
theorem exec_eql23 {o : Oper} {ρ : Operand → Value} {p q : Operand} (ho : o.op = .binOp .eql 38 p q 38) (x y : EX) (hx : ρ p = x.val) (hy : ρ q = y.val) (X : World) : (execOp ρ o).run Tryz.prog X = .ok (.value (.bool (sameX x y))) X := by
  have hm : Tryz.prog.eqGuardType Tryz.prog.depth 38 = false := by kernel_rfl
  unfold execOp
  simp only [ho, hx, hy, Sem.run_bind, run_eqGuard_agg _ _ _ _ _ _ _ hm, eql23, Result.andThen_ok, Sem.run_pure]
theorem exec_neq23 {o : Oper} {ρ : Operand → Value} {p q : Operand} (ho : o.op = .binOp .neq 38 p q 38) (x y : EX) (hx : ρ p = x.val) (hy : ρ q = y.val) (X : World) : (execOp ρ o).run Tryz.prog X = .ok (.value (.bool (!sameX x y))) X := by
  have hm : Tryz.prog.eqGuardType Tryz.prog.depth 38 = false := by kernel_rfl
  unfold execOp
  simp only [ho, hx, hy, Sem.run_bind, run_eqGuard_agg _ _ _ _ _ _ _ hm, neq23, Result.andThen_ok, Sem.run_pure]
section
variable {ops : Array Oper} {rest : List Oper} {o : Oper} {A : Act} {W : World} {Q : Exit → Act → World → Prop}
theorem wpList_wanted (hw : Region.wanted o (yielded ops A.tmps) = true) (v : Value) (hr : (execOp A.eval o).run Tryz.prog W = .ok (.value v) W) (h : wpList Tryz.prog ops Q rest (A.put o.dst v) W) : wpList Tryz.prog ops Q (o :: rest) A W := by
  unfold wpList
  rw [if_pos hw]
  left
  unfold Oper.wp
  rw [hr]
  exact h
theorem wpList_eql (hw : Region.wanted o (yielded ops A.tmps) = true) (p q : Operand) (ho : o.op = .binOp .eql 38 p q 38) {h h' : Bool} {v r g v' r' g' : Int} (hx : A.eval p = ex h v r g) (hy : A.eval q = ex h' v' r' g')
    (H : wpList Tryz.prog ops Q rest (A.put o.dst (.bool (sameX ⟨h, v, r, g⟩ ⟨h', v', r', g'⟩))) W) : wpList Tryz.prog ops Q (o :: rest) A W :=
  wpList_wanted hw _ (exec_eql23 ho ⟨h, v, r, g⟩ ⟨h', v', r', g'⟩ hx hy W) H
theorem wpList_neq (hw : Region.wanted o (yielded ops A.tmps) = true) (p q : Operand) (ho : o.op = .binOp .neq 38 p q 38) {h h' : Bool} {v r g v' r' g' : Int} (hx : A.eval p = ex h v r g) (hy : A.eval q = ex h' v' r' g')
    (H : wpList Tryz.prog ops Q rest (A.put o.dst (.bool (!sameX ⟨h, v, r, g⟩ ⟨h', v', r', g'⟩))) W) : wpList Tryz.prog ops Q (o :: rest) A W :=
  wpList_wanted hw _ (exec_neq23 ho ⟨h, v, r, g⟩ ⟨h', v', r', g'⟩ hx hy W) H
end
end Go.Proofs.YtoeebofappbneaaGreat.E
