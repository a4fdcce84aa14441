/-
  Lists of pairs, of steps, of numbers, compared.
-/
import Derived.Test.YtpdmpekkmblgmaaP3
import Derived.Test.YtpdmpekkmblgmaaP5b
import Derived.Test.YtpdmpekkmblgmaaMS
import Derived.Laws.StructEq
namespace Go.Proofs.Ytpdmpekkmblgmaa
open Go.ChangeShapes Go.WideShapes Go.ChangeAt Go.RowKit Go.Maps Go.Shelf
set_option linter.unusedVariables false
set_option linter.unusedSimpArgs false
attribute [local go_sem] Oper.semAt_some

theorem eqFields_cons {P : Program} {w : World} {d : Nat} {xs ys : Array Value} {f : Field} {fs : List Field} {a b : Value} {r q : Bool} (hn : f.name ≠ "_") (ha : (part f.type xs f.offset).run P w = .ok a w) (hb : (part f.type ys f.offset).run P w = .ok b w)
    (hr : (Op.equalIn d f.type a b).run P w = .ok r w) (hq : (Op.eqFields d xs ys fs).run P w = .ok q w) : (Op.eqFields d xs ys (f :: fs)).run P w = .ok (r && q) w := by
  simp only [Op.eqFields, Sem.run_bind, Sem.run_ite, if_pos hn, ha, hb, hr, Result.andThen_ok]
  cases r
  · simp
  · simpa using hq
theorem eqFields_nil {P : Program} {w : World} {d : Nat} {xs ys : Array Value} : (Op.eqFields d xs ys []).run P w = .ok true w := by simp [Op.eqFields]
/-- Whether two lists are the same. -/
structure EqP {α : Type} (xs ys : List α) (w : World) (e : Ending) (w' : World) : Prop where
  out : ∃ r, e = .returned (.bool r) ∧ (r = true ↔ xs = ys) ∧ Below w.heap.size w w'
theorem toList_inj {a b : ByteArray} (h : a.toList = b.toList) : a = b := by
  rw [ByteArray.toList_eq, ByteArray.toList_eq] at h
  obtain ⟨⟨x⟩⟩ := a
  obtain ⟨⟨y⟩⟩ := b
  simpa using h
def eqN (a b : ByteArray) : Bool := a.toList == b.toList
theorem eqN_iff {a b : ByteArray} : eqN a b = true ↔ a = b := by
  unfold eqN
  rw [beq_iff_eq]
  exact ⟨toList_inj, fun h => by rw [h]⟩
/-- Two lists are the same as far as they have been looked at. -/
theorem take_eq {α : Type} {xs ys : List α} {i : Nat} {z : α} (h : xs.take i = ys.take i) (hx : i < xs.length) (hy : i < ys.length) (e : xs.getD i z = ys.getD i z) : xs.take (i + 1) = ys.take (i + 1) := by
  rw [List.take_add_one, List.take_add_one, h, List.getElem?_eq_getElem hx, List.getElem?_eq_getElem hy]
  rw [List.getD_eq_getElem?_getD, List.getD_eq_getElem?_getD, List.getElem?_eq_getElem hx, List.getElem?_eq_getElem hy] at e
  simp only [Option.getD_some] at e
  rw [e]
theorem take_ne {α : Type} {xs ys : List α} {i : Nat} {z : α} (e : xs.getD i z ≠ ys.getD i z) : xs ≠ ys := fun h => e (by rw [h])
theorem exec_neq3 {o : Oper} {ρ : Operand → Value} {p q : Operand} (ho : o.op = .binOp .neq 3 p q 3) (x y : Int) (hx : ρ p = .int .i64 x) (hy : ρ q = .int .i64 y) (X : World) : (execOp ρ o).run Try.prog X = .ok (.value (.bool (x != y))) X := by
  unfold execOp
  simp only [ho, hx, hy]
  go_simp
/-- The same in all parts. -/
def eqL (x y : LK) : Bool := (x.1 == y.1) && ((x.2 == y.2) && (true))
theorem eqL_iff (x y : LK) : eqL x y = true ↔ x = y := by
  obtain ⟨a, b⟩ := x
  obtain ⟨a', b'⟩ := y
  simp only [eqL, Bool.and_eq_true, beq_iff_eq, and_true, Prod.mk.injEq]
theorem eq49 (w : World) (d : Nat) (x y : LK) : (Op.equalIn (d + 2) 49 (LK.val x) (LK.val y)).run Try.prog w = .ok (eqL x y) w := by
  have hS : Try.prog.underlying 49 = some (.struct (Try.prog.fieldsOf 49)) := by kernel_rfl
  have hp : Try.prog.stoodInHeld 49 = false := by kernel_rfl
  unfold LK.val
  rw [run_equalIn_agg w (d + 1) 49 _ _ hS hp]
  simp only [Program.fieldsOf, Try.underlying49]
  refine eqFields_cons (a := .int .i64 x.1) (b := .int .i64 y.1) (r := (x.1 == y.1)) (by decide) (by go_simp) (by go_simp) (by go_simp) ?_
  refine eqFields_cons (a := .int .i64 x.2) (b := .int .i64 y.2) (r := (x.2 == y.2)) (by decide) (by go_simp) (by go_simp) (by go_simp) ?_
  exact eqFields_nil
theorem neq49 (w : World) (x y : LK) : (binOp .neq 49 (LK.val x) (LK.val y)).run Try.prog w = .ok (.bool (!eqL x y)) w := by
  rw [show (binOp .neq 49 (LK.val x) (LK.val y)).run Try.prog w = _ from run_neq_struct ..]
  rw [show (10000 : Nat) = 9998 + 2 from rfl]
  have := eq49 w 9998 x y
  unfold LK.val at this
  rw [this]
  simp
theorem exec_neq49 {o : Oper} {ρ : Operand → Value} {p q : Operand} (ho : o.op = .binOp .neq 49 p q 49) (x y : LK) (hx : ρ p = LK.val x) (hy : ρ q = LK.val y) (X : World) : (execOp ρ o).run Try.prog X = .ok (.value (.bool (!eqL x y))) X := by
  have hm : Try.prog.eqGuardType Try.prog.depth 49 = false := by kernel_rfl
  have hg := run_eqGuard_agg (P := Try.prog) X .neq 49 p q #[.int .i64 x.1, .int .i64 x.2] #[.int .i64 y.1, .int .i64 y.2] hm
  have he := neq49 X x y
  unfold LK.val at hg he
  unfold execOp
  simp only [ho, hx, hy, LK.val, Sem.run_bind, hg, he, Result.andThen_ok, Sem.run_pure]
theorem eql49 (w : World) (x y : LK) : (binOp .eql 49 (LK.val x) (LK.val y)).run Try.prog w = .ok (.bool (eqL x y)) w := by
  rw [show (binOp .eql 49 (LK.val x) (LK.val y)).run Try.prog w = _ from run_eql_struct ..]
  rw [show (10000 : Nat) = 9998 + 2 from rfl]
  have := eq49 w 9998 x y
  unfold LK.val at this
  rw [this]
  simp
theorem exec_eql49 {o : Oper} {ρ : Operand → Value} {p q : Operand} (ho : o.op = .binOp .eql 49 p q 49) (x y : LK) (hx : ρ p = LK.val x) (hy : ρ q = LK.val y) (X : World) : (execOp ρ o).run Try.prog X = .ok (.value (.bool (eqL x y))) X := by
  have hm : Try.prog.eqGuardType Try.prog.depth 49 = false := by kernel_rfl
  have hg := run_eqGuard_agg (P := Try.prog) X .eql 49 p q #[.int .i64 x.1, .int .i64 x.2] #[.int .i64 y.1, .int .i64 y.2] hm
  have he := eql49 X x y
  unfold LK.val at hg he
  unfold execOp
  simp only [ho, hx, hy, LK.val, Sem.run_bind, hg, he, Result.andThen_ok, Sem.run_pure]
/-- The same in all parts. -/
def eqS (x y : SP) : Bool := (x.kd == y.kd) && ((x.a == y.a) && ((x.b == y.b) && (eqN x.nm y.nm && ((x.k == y.k) && ((x.n == y.n) && (true))))))
theorem eqS_iff (x y : SP) : eqS x y = true ↔ x = y := by
  obtain ⟨a, b, c, d, e, f⟩ := x
  obtain ⟨a', b', c', d', e', f'⟩ := y
  simp only [eqS, Bool.and_eq_true, beq_iff_eq, and_true, SP.mk.injEq, eqN_iff]
theorem eq74 (w : World) (d : Nat) (x y : SP) : (Op.equalIn (d + 2) 74 (SP.val x) (SP.val y)).run Try.prog w = .ok (eqS x y) w := by
  have hS : Try.prog.underlying 74 = some (.struct (Try.prog.fieldsOf 74)) := by kernel_rfl
  have hp : Try.prog.stoodInHeld 74 = false := by kernel_rfl
  unfold SP.val
  rw [run_equalIn_agg w (d + 1) 74 _ _ hS hp]
  simp only [Program.fieldsOf, Try.underlying74]
  refine eqFields_cons (a := .int .i64 x.kd) (b := .int .i64 y.kd) (r := (x.kd == y.kd)) (by decide) (by go_simp) (by go_simp) (by go_simp) ?_
  refine eqFields_cons (a := .int .i64 x.a) (b := .int .i64 y.a) (r := (x.a == y.a)) (by decide) (by go_simp) (by go_simp) (by go_simp) ?_
  refine eqFields_cons (a := .int .i64 x.b) (b := .int .i64 y.b) (r := (x.b == y.b)) (by decide) (by go_simp) (by go_simp) (by go_simp) ?_
  refine eqFields_cons (a := .string x.nm) (b := .string y.nm) (r := (eqN x.nm y.nm)) (by decide) (by go_simp) (by go_simp) (by unfold eqN; go_simp) ?_
  refine eqFields_cons (a := .int .i64 x.k) (b := .int .i64 y.k) (r := (x.k == y.k)) (by decide) (by go_simp) (by go_simp) (by go_simp) ?_
  refine eqFields_cons (a := .int .i64 x.n) (b := .int .i64 y.n) (r := (x.n == y.n)) (by decide) (by go_simp) (by go_simp) (by go_simp) ?_
  exact eqFields_nil
theorem neq74 (w : World) (x y : SP) : (binOp .neq 74 (SP.val x) (SP.val y)).run Try.prog w = .ok (.bool (!eqS x y)) w := by
  rw [show (binOp .neq 74 (SP.val x) (SP.val y)).run Try.prog w = _ from run_neq_struct ..]
  rw [show (10000 : Nat) = 9998 + 2 from rfl]
  have := eq74 w 9998 x y
  unfold SP.val at this
  rw [this]
  simp
theorem exec_neq74 {o : Oper} {ρ : Operand → Value} {p q : Operand} (ho : o.op = .binOp .neq 74 p q 74) (x y : SP) (hx : ρ p = SP.val x) (hy : ρ q = SP.val y) (X : World) : (execOp ρ o).run Try.prog X = .ok (.value (.bool (!eqS x y))) X := by
  have hm : Try.prog.eqGuardType Try.prog.depth 74 = false := by kernel_rfl
  have hg := run_eqGuard_agg (P := Try.prog) X .neq 74 p q #[.int .i64 x.kd, .int .i64 x.a, .int .i64 x.b, .string x.nm, .int .i64 x.k, .int .i64 x.n] #[.int .i64 y.kd, .int .i64 y.a, .int .i64 y.b, .string y.nm, .int .i64 y.k, .int .i64 y.n] hm
  have he := neq74 X x y
  unfold SP.val at hg he
  unfold execOp
  simp only [ho, hx, hy, SP.val, Sem.run_bind, hg, he, Result.andThen_ok, Sem.run_pure]
theorem eql74 (w : World) (x y : SP) : (binOp .eql 74 (SP.val x) (SP.val y)).run Try.prog w = .ok (.bool (eqS x y)) w := by
  rw [show (binOp .eql 74 (SP.val x) (SP.val y)).run Try.prog w = _ from run_eql_struct ..]
  rw [show (10000 : Nat) = 9998 + 2 from rfl]
  have := eq74 w 9998 x y
  unfold SP.val at this
  rw [this]
  simp
theorem exec_eql74 {o : Oper} {ρ : Operand → Value} {p q : Operand} (ho : o.op = .binOp .eql 74 p q 74) (x y : SP) (hx : ρ p = SP.val x) (hy : ρ q = SP.val y) (X : World) : (execOp ρ o).run Try.prog X = .ok (.value (.bool (eqS x y))) X := by
  have hm : Try.prog.eqGuardType Try.prog.depth 74 = false := by kernel_rfl
  have hg := run_eqGuard_agg (P := Try.prog) X .eql 74 p q #[.int .i64 x.kd, .int .i64 x.a, .int .i64 x.b, .string x.nm, .int .i64 x.k, .int .i64 x.n] #[.int .i64 y.kd, .int .i64 y.a, .int .i64 y.b, .string y.nm, .int .i64 y.k, .int .i64 y.n] hm
  have he := eql74 X x y
  unfold SP.val at hg he
  unfold execOp
  simp only [ho, hx, hy, SP.val, Sem.run_bind, hg, he, Result.andThen_ok, Sem.run_pure]
set_option maxRecDepth 100000 in
set_option maxHeartbeats 1000000 in
theorem same_any (a : Option Addr) (k cap : Nat) (xs : List LK) (a' : Option Addr) (k' cap' : Nat) (ys : List LK) (w : World) (hr : RdL w a k cap xs) (hr' : RdL w a' k' cap' ys) : Calls Try.prog 10 #[.slice a k cap, .slice a' k' cap'] w (EqP xs ys w) := by
  have HN : Hid (k ≤ 140737488355328) := hr.small
  have HL : Hid (xs.length = k ∧ ys.length = k') := ⟨hr.size, hr'.size⟩
  by_cases hk : k = k'
  case neg =>
    have hk' : ((k : Int) != (k' : Int)) = true := by simp; omega
    have hk2 : ¬ (k : Int) = (k' : Int) := by omega
    have HE : Hid (xs ≠ ys) := fun e => by have := HL.out; rw [e] at this; omega
    go_enter Try.func10, Try.ntmps10
    go_wp2
    go_ret
    exact ⟨⟨false, rfl, ⟨fun h => (by cases h), fun h => (HE.out h).elim⟩, Below.refl _ _⟩⟩
  case pos =>
    subst hk
    go_enter Try.func10, Try.ntmps10
    go_wp2
    go_loopg [13] k (fun gk v13 wr => ∃ i : Nat, v13 = .int .i64 (i : Int) ∧ i + gk = k ∧ Below w.heap.size w wr ∧ xs.take i = ys.take i)
    case atStart => exact ⟨0, by first | rfl | go_num, by omega, Below.refl _ _, by simp⟩
    case round =>
      obtain ⟨i, rfl, hg, B, ht⟩ := hrel
      have HT : Hid (xs.take i = ys.take i) := ht
      clear ht
      by_cases hi : i < k
      case neg =>
        have HE : Hid (xs = ys) := by
          have := HT.out
          rw [List.take_of_length_le (by have := HL.out; omega), List.take_of_length_le (by have := HL.out; omega)] at this
          exact this
        have hin : ¬ (i : Int) < (k : Int) := by omega
        go_wp2
        go_ret
        exact ⟨⟨true, rfl, ⟨fun _ => HE.out, fun _ => rfl⟩, B⟩⟩
      case pos =>
        have hiI : (i : Int) < (k : Int) := by omega
        have HI : Hid (i < xs.length ∧ i < ys.length) := by show _ ∧ _; have := HL.out; omega
        have hin : IntKind.i64.wrap ((i : Int) + 1) = (i : Int) + 1 := by rw [IntKind.wrap_i64]; have := HN.out; omega
        obtain ⟨b, off, rfl, hb, hd, hra⟩ := (hr.below B).at i hi
        obtain ⟨b', off', rfl, hb', hd', hra'⟩ := (hr'.below B).at i hi
        obtain ⟨p, hp⟩ : ∃ x : LK, xs.getD i LK.z = x := ⟨_, rfl⟩
        obtain ⟨q, hq⟩ : ∃ x : LK, ys.getD i LK.z = x := ⟨_, rfl⟩
        have HP : Hid (xs.getD i LK.z = p ∧ ys.getD i LK.z = q) := ⟨hp, hq⟩
        rw [hp] at hra
        rw [hq] at hra'
        clear hd hd' hp hq
        cases heq : eqL p q with
        | false =>
          have HE : Hid (xs ≠ ys) := take_ne (i := i) (z := LK.z) (by rw [HP.out.1, HP.out.2]; intro e; rw [(eqL_iff p q).2 e] at heq; cases heq)
          have BB := Below.refl wr.heap.size wr
          go_wp2
          refine wp_region_qw (fun X => Below wr.heap.size wr X) (by kernel_rfl) (by kernel_rfl) (Below.refl _ _).drew ?_
          repeat (first
            | (refine QW.skip (by rfl) ?_; simp only [Act.put, List.setIfInBounds_toArray, List.set_cons_zero, List.set_cons_succ])
            | (refine QW.val (LK.val p) (by rfl) (fun X hX => exec_load49 rfl b (off + i * 2) p rfl (range_later hra hb (BB.trans (hX.mono BB.size)))) ?_; simp only [Act.put, List.setIfInBounds_toArray, List.set_cons_zero, List.set_cons_succ])
            | (refine QW.val (LK.val q) (by rfl) (fun X hX => exec_load49 rfl b' (off' + i * 2) q rfl (range_later hra' hb' (BB.trans (hX.mono BB.size)))) ?_; simp only [Act.put, List.setIfInBounds_toArray, List.set_cons_zero, List.set_cons_succ])
            | (refine QW.val (.bool (!eqL p q)) (by rfl) (fun X _ => exec_neq49 rfl p q rfl rfl X) ?_; simp only [Act.put, List.setIfInBounds_toArray, List.set_cons_zero, List.set_cons_succ]; rw [heq])
            | (refine QW.op (by rfl) ?_; apply Exists.intro; refine ⟨fun X hX => ?_, ?_⟩; (have s1 := hiI; go_simp <;> first | exact rfl); simp only [Act.put, List.setIfInBounds_toArray, List.set_cons_zero, List.set_cons_succ]))
          refine QW.nil ?_
          intro X hS
          go_wp2
          go_ret
          exact ⟨⟨false, rfl, ⟨fun h => (by cases h), fun h => (HE.out h).elim⟩, B.trans (hS.mono B.size)⟩⟩
        | true =>
          have HE : Hid (xs.take (i + 1) = ys.take (i + 1)) := take_eq (z := LK.z) HT.out HI.out.1 HI.out.2 (by rw [HP.out.1, HP.out.2]; exact (eqL_iff p q).1 heq)
          have BB := Below.refl wr.heap.size wr
          go_wp2
          refine wp_region_qw (fun X => Below wr.heap.size wr X) (by kernel_rfl) (by kernel_rfl) (Below.refl _ _).drew ?_
          repeat (first
            | (refine QW.skip (by rfl) ?_; simp only [Act.put, List.setIfInBounds_toArray, List.set_cons_zero, List.set_cons_succ])
            | (refine QW.val (LK.val p) (by rfl) (fun X hX => exec_load49 rfl b (off + i * 2) p rfl (range_later hra hb (BB.trans (hX.mono BB.size)))) ?_; simp only [Act.put, List.setIfInBounds_toArray, List.set_cons_zero, List.set_cons_succ])
            | (refine QW.val (LK.val q) (by rfl) (fun X hX => exec_load49 rfl b' (off' + i * 2) q rfl (range_later hra' hb' (BB.trans (hX.mono BB.size)))) ?_; simp only [Act.put, List.setIfInBounds_toArray, List.set_cons_zero, List.set_cons_succ])
            | (refine QW.val (.bool (!eqL p q)) (by rfl) (fun X _ => exec_neq49 rfl p q rfl rfl X) ?_; simp only [Act.put, List.setIfInBounds_toArray, List.set_cons_zero, List.set_cons_succ]; rw [heq])
            | (refine QW.op (by rfl) ?_; apply Exists.intro; refine ⟨fun X hX => ?_, ?_⟩; (have s1 := hiI; go_simp <;> first | exact rfl); simp only [Act.put, List.setIfInBounds_toArray, List.set_cons_zero, List.set_cons_succ]))
          refine QW.nil ?_
          intro X hS
          go_wp2
          go_roundg (gk - 1)
          case measure => omega
          case rel => exact ⟨i + 1, by first | rfl | go_num, by omega, B.trans (hS.mono B.size), HE.out⟩
end Go.Proofs.Ytpdmpekkmblgmaa
