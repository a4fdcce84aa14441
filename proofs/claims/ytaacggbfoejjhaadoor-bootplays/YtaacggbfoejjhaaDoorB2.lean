/-
  Blocks of bytes that are made, loaded and stored whole (arrays).
-/
import Derived.Test.YtaacggbfoejjhaaDoorB1
import Derived.Lib.BufferWrite
namespace Go.Proofs.YtaacggbfoejjhaaDoor
open Go.ChangeShapes Go.WideShapes Go.ChangeAt Go.RowKit
open D
set_option linter.unusedVariables false
set_option linter.unusedSimpArgs false

/-- Zeros. -/
def zr (n : Nat) : List Int := List.replicate n 0
/-- An array's value. -/
abbrev vb (zs : List Int) : Value := .agg (zs.map bv).toArray
/-- A new block. -/
structure Nw (w w1 : World) (T : TypeId) (zs : List Int) : Prop where
  blk : Blk w1 w.heap.size T zs
  below : Below w.heap.size w w1
  size : w1.heap.size = w.heap.size + 1
/-- A block that was written. -/
structure Wrote (w w1 : World) (g : Nat) (t : TypeId) (zs : List Int) : Prop where
  blk : Blk w1 g t zs
  only : Only (at1 g) w w1
  size : w1.heap.size = w.heap.size
theorem nw_alloc (w : World) (T : TypeId) (zs : List Int) : Nw w (w.alloc (.cells (zs.map bv).toArray T)) T zs :=
  ⟨World.alloc_heap_new _ _, (Below.refl _ _).alloc (Nat.le_refl _) _, by simp⟩
/-- What a type's arrays are. -/
structure Arr (T : TypeId) (n : Nat) : Prop where
  zero : (Tryd.prog.info? T).map (fun i => (i.zero, i.size)) = some (some (vb (List.replicate n 0)), n)
  row : ∃ d, Tryd.prog.underlying T = some d ∧ d.isRow = true
theorem Arr.sz {T : TypeId} {n : Nat} (h : Arr T n) : (Tryd.prog.info? T).map (·.size) = some n := by
  have := h.zero
  cases hq : Tryd.prog.info? T with
  | none => simp [hq] at this
  | some i => simp [hq] at this; simp [this]
theorem arr52 : Arr 52 16 := ⟨by kernel_rfl, _, Tryd.underlying52, rfl⟩
theorem arr54 : Arr 54 32 := ⟨by kernel_rfl, _, Tryd.underlying54, rfl⟩
theorem arr56 : Arr 56 64 := ⟨by kernel_rfl, _, Tryd.underlying56, rfl⟩
theorem run_allocB (w : World) {T : TypeId} {n : Nat} (h : Arr T n) : (Instr.alloc T true (.tuple #[])).run Tryd.prog w = .ok (.pointer (some ⟨w.heap.size, 0, none⟩)) (w.alloc (.cells ((List.replicate n (0 : Int)).map bv).toArray T)) := by
  have := h.zero
  cases hq : Tryd.prog.info? T with
  | none => simp [hq] at this
  | some i =>
    simp only [hq, Option.map_some, Option.some.injEq, Prod.mk.injEq] at this
    simp [Instr.alloc, zeroValue, typeInfo, hq, this.1, newVar, newRow, Value.cells, go_sem]
theorem wp_allocB {o : Oper} {a : Act} {w : World} {K : Act → World → Prop} {Q : Exit → Act → World → Prop} (T n : Nat) (hT : Arr T n) (ho : o.op = .alloc T)
    (h : ∀ w1, Nw w w1 T (zr n) → K (a.put o.dst (.pointer (some ⟨w.heap.size, 0, none⟩))) w1) : o.wp Tryd.prog a w K Q := by
  unfold Oper.wp execOp
  simp only [ho, Sem.run_bind, run_allocB w hT, Result.andThen_ok, Sem.run_pure]
  exact h _ (nw_alloc _ _ _)
theorem wpList_allocB {ops : Array Oper} {rest : List Oper} {o : Oper} {a : Act} {w : World} {Q : Exit → Act → World → Prop} (hgd : o.guard = none) (T n : Nat) (hT : Arr T n) (ho : o.op = .alloc T)
    (h : ∀ w1, Nw w w1 T (zr n) → wpList Tryd.prog ops Q rest (a.put o.dst (.pointer (some ⟨w.heap.size, 0, none⟩))) w1) : wpList Tryd.prog ops Q (o :: rest) a w :=
  wpList_plain hgd fun K hK => wp_allocB T n hT ho (fun w1 h1 => hK _ _ (h w1 h1))
theorem wpList_boxB {ops : Array Oper} {rest : List Oper} {o : Oper} {a : Act} {w : World} {Q : Exit → Act → World → Prop} (hgd : o.guard = none) (T : Nat) (x : Operand) (ho : o.op = .box T x) (zs : List Int) (hx : a.eval x = vb zs)
    (h : ∀ w1, Nw w w1 T zs → wpList Tryd.prog ops Q rest (a.put o.dst (.pointer (some ⟨w.heap.size, 0, none⟩))) w1) : wpList Tryd.prog ops Q (o :: rest) a w :=
  wpList_plain hgd fun K hK => by
    unfold Oper.wp execOp
    simp only [ho, hx, Instr.box, newVar, newRow, Value.cells, Sem.run_bind, Sem.run_pure, Result.andThen_ok, run_newObj]
    exact hK _ _ (h _ (nw_alloc _ _ _))
theorem Blk.range {W : World} {g : Nat} {t : TypeId} {zs : List Int} (h : Blk W g t zs) (o n : Nat) : W.rangeAt g o (((zs.drop o).take n).map bv) := by
  intro j v hv
  have hj : j < n := by have := (List.getElem?_eq_some_iff.1 hv).1; simp at this; omega
  refine row_cell h _ _ ?_
  rw [List.getElem?_toArray, List.getElem?_map] at *
  rw [List.getElem?_take, if_pos hj, List.getElem?_drop] at hv
  exact hv
theorem run_storeB (w : World) (g o : Nat) (t T : TypeId) (n : Nat) (hT : Arr T n) (bs zs : List Int) (hl : Blk w g t bs) (hz : zs.length = n) (hf : o + n ≤ bs.length) :
    (Instr.storeAt T (.pointer (some ⟨g, o, none⟩)) (vb zs)).run Tryd.prog w = .ok () (w.setRow g ((splice bs o zs).map bv).toArray) := by
  have hst := run_storeCells_at Tryd.prog g o t (zs.map bv) 0 (bs.map bv).toArray w hl (by simp; omega) (bv_one _)
  simp only [Nat.add_zero] at hst
  have e : ((bs.map bv).toArray.toList.take o ++ zs.map bv ++ (bs.map bv).toArray.toList.drop (o + (zs.map bv).length)).toArray = ((splice bs o zs).map bv).toArray := by simp [splice]
  rw [e] at hst
  have hi := hT.sz
  cases hq : Tryd.prog.info? T with
  | none => simp [hq] at hi
  | some j =>
    have hs : j.size = n := by simpa [hq] using hi
    simp [Instr.storeAt, Instr.sureAddr, storeVar, sizeOf, typeInfo, hq, Value.cells, hs, hz, hst]
theorem wrote_row {w : World} {g : Nat} {t : TypeId} {bs : List Int} (h : Blk w g t bs) (zs : List Int) : Wrote w (w.setRow g (zs.map bv).toArray) g t zs :=
  ⟨setRow_heap _ _ _ _ _ _ h, Only.setRow (C := at1 g) (Only.refl _ _) (fun _ => rfl) _, size_setRow _ _ _⟩
theorem wp_storeB {o : Oper} {a : Act} {w : World} {K : Act → World → Prop} {Q : Exit → Act → World → Prop} (T n : Nat) (hT : Arr T n) (x y : Operand) (ho : o.op = .store T x y) (g off : Nat) (t : TypeId) (bs zs : List Int)
    (hx : a.eval x = .pointer (some ⟨g, off, none⟩)) (hy : a.eval y = vb zs) (hl : Blk w g t bs) (hz : zs.length = n) (hf : off + n ≤ bs.length)
    (h : ∀ w1, Wrote w w1 g t (splice bs off zs) → K (a.put o.dst undef) w1) : o.wp Tryd.prog a w K Q := by
  unfold Oper.wp execOp
  simp only [ho, hx, hy, Sem.run_bind, run_storeB w g off t T n hT bs zs hl hz hf, Result.andThen_ok, Sem.run_pure]
  exact h _ (wrote_row hl _)
theorem wpList_storeB {ops : Array Oper} {rest : List Oper} {o : Oper} {a : Act} {w : World} {Q : Exit → Act → World → Prop} (hgd : o.guard = none) (T n : Nat) (hT : Arr T n) (x y : Operand) (ho : o.op = .store T x y) (g off : Nat) (t : TypeId) (bs zs : List Int)
    (hx : a.eval x = .pointer (some ⟨g, off, none⟩)) (hy : a.eval y = vb zs) (hl : Blk w g t bs) (hz : zs.length = n) (hf : off + n ≤ bs.length)
    (h : ∀ w1, Wrote w w1 g t (splice bs off zs) → wpList Tryd.prog ops Q rest (a.put o.dst undef) w1) : wpList Tryd.prog ops Q (o :: rest) a w :=
  wpList_plain hgd fun K hK => wp_storeB T n hT x y ho g off t bs zs hx hy hl hz hf (fun w1 h1 => hK _ _ (h w1 h1))
theorem splice_all (bs zs : List Int) (h : zs.length = bs.length) : splice bs 0 zs = zs := by simp [splice, h]
theorem run_loadB {w : World} {g o T n : Nat} {zs : List Int} (hT : Arr T n) (hc : w.rangeAt g o (zs.map bv)) (hz : zs.length = n) : (Instr.loadAt T (.pointer (some ⟨g, o, none⟩))).run Tryd.prog w = .ok (vb zs) w := by
  obtain ⟨d, hd, hr⟩ := hT.row
  simp only [Instr.loadAt, Instr.sureAddr, Sem.run_bind, Sem.run_pure, Result.andThen_ok, run_loadVar_mid w g o T (zs.map bv) d hc hd hr (by rw [List.length_map, hz]; exact hT.sz)]
theorem wpList_loadB {ops : Array Oper} {rest : List Oper} {o : Oper} {a : Act} {w : World} {Q : Exit → Act → World → Prop} (hgd : o.guard = none) (T n : Nat) (hT : Arr T n) (x : Operand) (ho : o.op = .load T x) (g off : Nat) (zs : List Int)
    (hx : a.eval x = .pointer (some ⟨g, off, none⟩)) (hc : w.rangeAt g off (zs.map bv)) (hz : zs.length = n)
    (h : wpList Tryd.prog ops Q rest (a.put o.dst (vb zs)) w) : wpList Tryd.prog ops Q (o :: rest) a w :=
  wpList_plain hgd fun K hK => by
    unfold Oper.wp execOp
    simp only [ho, hx, Sem.run_bind, run_loadB hT hc hz, Result.andThen_ok, Sem.run_pure]
    exact hK _ _ h
theorem exec_loadB {o : Oper} {a : Act} {w : World} (T n : Nat) (hT : Arr T n) {xx : Operand} {g off : Nat} {zs : List Int} (ho : o.op = .load T xx) (hx : a.eval xx = .pointer (some ⟨g, off, none⟩)) (hc : w.rangeAt g off (zs.map bv)) (hz : zs.length = n) :
    (execOp a.eval o).run Tryd.prog w = .ok (.value (vb zs)) w := by
  unfold execOp
  simp only [ho, hx, Sem.run_bind, run_loadB hT hc hz, Result.andThen_ok, Sem.run_pure]
theorem Blk.whole {W : World} {g : Nat} {t : TypeId} {zs : List Int} (h : Blk W g t zs) : W.rangeAt g 0 (zs.map bv) := by
  have := h.range 0 zs.length
  rwa [List.drop_zero, List.take_length] at this
end Go.Proofs.YtaacggbfoejjhaaDoor
