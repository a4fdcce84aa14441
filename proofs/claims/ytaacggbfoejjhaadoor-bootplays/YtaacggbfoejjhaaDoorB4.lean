/-
  Package boot: two records compared; the number that stands in one.
-/
import Derived.Test.YtaacggbfoejjhaaDoorB3
import Derived.Test.YtaacggbfoejjhaaDoorDEx
import Derived.Laws.StructEq
namespace Go.Proofs.YtaacggbfoejjhaaDoor
open Go.ChangeShapes Go.WideShapes Go.ChangeAt Go.RowKit
open D
set_option linter.unusedVariables false
set_option linter.unusedSimpArgs false

theorem all_range_eqI : ∀ (xs ys : List Int), xs.length = ys.length → ((List.range xs.length).all fun i => xs.getD i 0 == ys.getD i 0) = (xs == ys)
  | [], [], _ => rfl
  | x :: xs, y :: ys, h => by
    have ih := all_range_eqI xs ys (by simpa using h)
    rw [List.length_cons, List.range_succ_eq_map, List.all_cons, List.all_map]
    simp only [List.getD_cons_zero, Function.comp_def, List.getD_cons_succ, ih]
    simp [List.cons_beq_cons]
  | [], _ :: _, h => by simp at h
  | _ :: _, [], h => by simp at h
theorem run_equalIn_B (w : World) (d : Nat) (t e : TypeId) (n : Nat) (ht : Tryd.prog.underlying t = some (.array n e)) (he : Tryd.prog.underlying e = some (.int .u8)) (hsz : ∀ w, (sizeOf e).run Tryd.prog w = .ok 1 w)
    (xs ys : List Int) (hx : xs.length = n) (hy : ys.length = n) :
    (Op.equalIn (d + 2) t (vb xs) (vb ys)).run Tryd.prog w = .ok (xs == ys) w := by
  rw [← all_range_eqI xs ys (hx.trans hy.symm), hx, List.range_eq_range', Op.equalIn]
  simp only [Sem.run_bind, run_underlying ht, Result.andThen_ok, hsz, Std.Legacy.Range.forIn_eq_forIn_range', Std.Legacy.Range.size, Nat.sub_zero, Nat.add_sub_cancel, Nat.div_one]
  have hl : ∀ i ∈ List.range' 0 n 1, i < n := fun i hi => by simpa using (List.mem_range'_1.1 hi).2
  generalize List.range' 0 n 1 = l at hl ⊢
  induction l with
  | nil => simp
  | cons i l ih =>
    have hi : i < n := hl i (by simp)
    have px : (part e (xs.map bv).toArray (i * 1)).run Tryd.prog w = .ok (bv (xs.getD i 0)) w := by
      simp [part, isAgg, run_underlying he, List.getD, List.getElem?_eq_getElem (show i < xs.length by omega)]
    have py : (part e (ys.map bv).toArray (i * 1)).run Tryd.prog w = .ok (bv (ys.getD i 0)) w := by
      simp [part, isAgg, run_underlying he, List.getD, List.getElem?_eq_getElem (show i < ys.length by omega)]
    have pe : (Op.equalIn (d + 1) e (bv (xs.getD i 0)) (bv (ys.getD i 0))).run Tryd.prog w = .ok (xs.getD i 0 == ys.getD i 0) w := by
      rw [bv, bv, run_equalIn_int w d e .u8 .u8 _ _ he]
    simp only [List.forIn_cons, Sem.run_bind, px, py, pe, Result.andThen_ok, List.all_cons]
    cases hb : (xs.getD i 0 == ys.getD i 0)
    · simp
    · simp only [Bool.not_true, Bool.false_eq_true, if_false, Sem.run_pure, Result.andThen_ok, Bool.true_and]
      exact ih fun j hj => hl j (by simp [hj])
theorem und52 : Tryd.prog.underlying 52 = some (.array 16 5) := by kernel_rfl
theorem und54 : Tryd.prog.underlying 54 = some (.array 2 52) := by kernel_rfl
theorem und56 : Tryd.prog.underlying 56 = some (.array 2 54) := by kernel_rfl
theorem size5 (w : World) : (sizeOf 5).run Tryd.prog w = .ok 1 w := by
  obtain ⟨i0, hi, hz0, hz1, hz2⟩ := info_parts info5
  simp [sizeOf, typeInfo, hi, hz1]
theorem sizeB {T n : Nat} (h : Arr T n) (w : World) : (sizeOf T).run Tryd.prog w = .ok n w := by
  have := h.sz
  cases hq : Tryd.prog.info? T with
  | none => simp [hq] at this
  | some i => simp [hq] at this; simp [sizeOf, typeInfo, hq, this]
theorem extract_bv (xs : List Int) (a b : Nat) : (xs.map bv).toArray.extract a b = (((xs.drop a).take (b - a)).map bv).toArray := by
  simp
theorem part_B {T n : Nat} (h : Arr T n) {m : Nat} {e : TypeId} (hu : Tryd.prog.underlying T = some (.array m e)) (xs : List Int) (o : Nat) (w : World) : (part T (xs.map bv).toArray o).run Tryd.prog w = .ok (vb ((xs.drop o).take n)) w := by
  simp only [part, isAgg, run_underlying hu, Sem.run_bind, Result.andThen_ok, Sem.run_pure, if_true, sizeB h, extract_bv, Nat.add_sub_cancel_left]
theorem two_halves (xs ys : List Int) (hx : xs.length = 32) (hy : ys.length = 32) : ((xs.take 16 == ys.take 16) && ((xs.drop 16).take 16 == (ys.drop 16).take 16)) = (xs == ys) := by
  rw [List.take_of_length_le (l := xs.drop 16) (by simp; omega), List.take_of_length_le (l := ys.drop 16) (by simp; omega), Bool.eq_iff_iff]
  simp only [Bool.and_eq_true, beq_iff_eq]
  constructor
  · rintro ⟨h1, h2⟩
    rw [← List.take_append_drop 16 xs, h1, h2, List.take_append_drop]
  · rintro rfl
    exact ⟨rfl, rfl⟩
theorem equalIn_two {P : Program} (w : World) (d : Nat) (t e : TypeId) (n : Nat) (ht : P.underlying t = some (.array 2 e)) (hsz : ∀ w, (sizeOf e).run P w = .ok n w) (xs ys : Array Value) (a0 b0 a1 b1 : Value) (p q : Bool)
    (x0 : (part e xs (0 * n)).run P w = .ok a0 w) (y0 : (part e ys (0 * n)).run P w = .ok b0 w) (x1 : (part e xs (1 * n)).run P w = .ok a1 w) (y1 : (part e ys (1 * n)).run P w = .ok b1 w)
    (e0 : (Op.equalIn d e a0 b0).run P w = .ok p w) (e1 : (Op.equalIn d e a1 b1).run P w = .ok q w) : (Op.equalIn (d + 1) t (.agg xs) (.agg ys)).run P w = .ok (p && q) w := by
  rw [Op.equalIn]
  simp only [Sem.run_bind, run_underlying ht, Result.andThen_ok, hsz, Std.Legacy.Range.forIn_eq_forIn_range', Std.Legacy.Range.size, Nat.sub_zero, Nat.add_sub_cancel, Nat.div_one]
  rw [show List.range' 0 2 1 = [0, 1] from rfl]
  simp only [List.forIn_cons, Sem.run_bind, x0, y0, x1, y1, e0, e1, Result.andThen_ok]
  cases p
  · simp
  · simp only [Bool.not_true, Bool.false_eq_true, if_false, Sem.run_pure, Result.andThen_ok, Bool.true_and, Sem.run_bind, x1, y1, e1]
    cases q <;> simp
theorem run_equalIn_54 (w : World) (d : Nat) (xs ys : List Int) (hx : xs.length = 32) (hy : ys.length = 32) : (Op.equalIn (d + 3) 54 (vb xs) (vb ys)).run Tryd.prog w = .ok (xs == ys) w := by
  rw [← two_halves xs ys hx hy]
  refine equalIn_two w (d + 2) 54 52 16 und54 (sizeB arr52) _ _ (vb (xs.take 16)) (vb (ys.take 16)) (vb ((xs.drop 16).take 16)) (vb ((ys.drop 16).take 16)) _ _ ?_ ?_ ?_ ?_ ?_ ?_
  · exact part_B arr52 und52 xs 0 w
  · exact part_B arr52 und52 ys 0 w
  · exact part_B arr52 und52 xs 16 w
  · exact part_B arr52 und52 ys 16 w
  · exact run_equalIn_B w d 52 5 16 und52 Tryd.underlying5 size5 _ _ (by simp; omega) (by simp; omega)
  · exact run_equalIn_B w d 52 5 16 und52 Tryd.underlying5 size5 _ _ (by simp; omega) (by simp; omega)
theorem run_neq54 (w : World) (xs ys : List Int) (hx : xs.length = 32) (hy : ys.length = 32) : (binOp .neq 54 (vb xs) (vb ys)).run Tryd.prog w = .ok (.bool (!(xs == ys))) w := by
  rw [run_neq_struct, run_equalIn_54 w 9997 xs ys hx hy]
  rfl
theorem guard54 : Tryd.prog.eqGuardType Tryd.prog.depth 54 = false := by kernel_rfl
theorem exec_neq54 {o : Oper} {a : Act} {X : World} {x y : Operand} {xs ys : List Int} (ho : o.op = .binOp .neq 54 x y 54) (hx : a.eval x = vb xs) (hy : a.eval y = vb ys) (h1 : xs.length = 32) (h2 : ys.length = 32) : (execOp a.eval o).run Tryd.prog X = .ok (.value (.bool (!(xs == ys)))) X := by
  unfold execOp
  rw [ho]
  simp only [hx, hy, Sem.run_bind, run_eqGuard_agg X .neq 54 x y _ _ guard54, Result.andThen_ok, run_neq54 X xs ys h1 h2, Sem.run_pure]
end Go.Proofs.YtaacggbfoejjhaaDoor
