/-
  Loading a whole item.
-/
import Derived.Test.YticmjlnpjopfbaaDoorEql
import Derived.Laws.Rows
import Derived.RangeFuncRecord
namespace Go.Proofs.YticmjlnpjopfbaaDoor
open Go.ChangeShapes Go.WideShapes Go.ChangeAt Go.RowKit
set_option linter.unusedVariables false

theorem add_plain (g o j : Nat) : (⟨g, o, none⟩ : Addr).add j = ⟨g, o + j, none⟩ := by unfold Addr.add; split <;> simp_all
/-- A row of cells, loaded as one value. -/
theorem load_agg (w : World) (g off : Nat) (ty : TypeId) (cs : List Value) (d : TypeDesc) (hc : ∀ j v, cs[j]? = some v → w.cell? ⟨g, off + j, none⟩ = some v)
    (hu : Tryd.prog.underlying ty = some d) (hd : (match d with | .struct _ | .array _ _ => true | _ => false) = true) (hi : (Tryd.prog.info? ty).map (·.size) = some cs.length) :
    (loadVar ty ⟨g, off, none⟩).run Tryd.prog w = .ok (.agg cs.toArray) w := by
  have hl : (loadCells ⟨g, off, none⟩ cs.length).run Tryd.prog w = .ok cs.toArray w :=
    run_loadCells_list (P := Tryd.prog) w ⟨g, off, none⟩ cs (fun j v hv => by rw [add_plain]; exact hc j v hv)
  cases hq : Tryd.prog.info? ty with
  | none => simp [hq] at hi
  | some i =>
    have hs : i.size = cs.length := by simpa [hq] using hi
    have hagg : (isAgg ty).run Tryd.prog w = .ok true w := by
      unfold isAgg
      rw [Sem.run_bind, run_underlying hu w]
      cases d <;> simp_all
    simp [loadVar, Sem.run_bind, hagg, sizeOf, typeInfo, hq, hs, hl]
theorem wp_load_agg {o : Oper} {a : Act} {w : World} {K : Act → World → Prop} {Q : Exit → Act → World → Prop} (ty : TypeId) (x : Operand) (ho : o.op = .load ty x)
    (g off : Nat) (hx : a.eval x = .pointer (some ⟨g, off, none⟩)) (cs : List Value) (d : TypeDesc) (hc : ∀ j v, cs[j]? = some v → w.cell? ⟨g, off + j, none⟩ = some v)
    (hu : Tryd.prog.underlying ty = some d) (hd : (match d with | .struct _ | .array _ _ => true | _ => false) = true) (hi : (Tryd.prog.info? ty).map (·.size) = some cs.length)
    (h : K (a.put o.dst (.agg cs.toArray)) w) : o.wp Tryd.prog a w K Q := by
  unfold Oper.wp execOp
  simp only [ho, hx, Instr.loadAt, Instr.sureAddr, Sem.run_bind, Sem.run_pure, Result.andThen_ok, load_agg w g off ty cs d hc hu hd hi]
  exact h

/-- An item lies there. -/
def ItAt (w : World) (g off : Nat) (x : Itm) : Prop := ∀ j v, (itc x)[j]? = some v → w.cell? ⟨g, off + j, none⟩ = some v
theorem itAt_new (w : World) (x : Itm) : ItAt (w.alloc (.cells #[.string x.name, .int .i64 x.epoch, .int .i64 x.maker, .bool x.alive, .int .i64 x.kind, .int .i64 x.scale, .int .i64 x.ver, .int .i64 x.writer, .int .i64 x.flow, .bool x.hasRest, .int .i64 x.rest, .bool x.mn.has, .int .i64 x.mn.value, .int .i64 x.mn.origin, .int .i64 x.mn.age, .bool x.mx.has, .int .i64 x.mx.value, .int .i64 x.mx.origin, .int .i64 x.mx.age] 38)) w.heap.size 0 x := by
  intro j v hj
  rw [cell_of_row _ _ _ _ 38 _ (World.alloc_heap_new w _), Nat.zero_add]
  have e : (itc x).toArray[j]? = some v := by simpa using hj
  exact e
theorem ItAt.lt {w : World} {g off : Nat} {x : Itm} (h : ItAt w g off x) : g < w.heap.size := by
  have h0 := h 0 _ rfl
  rcases Nat.lt_or_ge g w.heap.size with k | k
  · exact k
  · simp [World.cell?, Array.getElem?_eq_none k] at h0
theorem ItAt.of_block {w w' : World} {g off : Nat} {x : Itm} (h : ItAt w g off x) (hb : w'.heap[g]? = w.heap[g]?) : ItAt w' g off x :=
  fun j v hj => (World.cell?_of_block (a := ⟨g, off + j, none⟩) hb).trans (h j v hj)
theorem ItAt.below {w w' : World} {g off : Nat} {x : Itm} (h : ItAt w g off x) (hb : Below w.heap.size w w') : ItAt w' g off x := h.of_block (hb.block g h.lt)
theorem ItAt.alloc {w : World} {g off : Nat} {x : Itm} (h : ItAt w g off x) (o : Obj) : ItAt (w.alloc o) g off x := h.of_block (Below.heap_alloc _ _ _ h.lt)
theorem ItAt.drew {w : World} {g off : Nat} {x : Itm} (h : ItAt w g off x) : ItAt w.drew g off x := h.of_block rfl

theorem wpList_load38 {ops : Array Oper} {rest : List Oper} {o : Oper} {a : Act} {w : World} {Q : Exit → Act → World → Prop} (x : Operand) (ho : o.op = .load 38 x)
    (hw : Region.wanted o (yielded ops a.tmps) = true) (g off : Nat) (y : Itm) (hx : a.eval x = .pointer (some ⟨g, off, none⟩)) (hc : ItAt w g off y)
    (h : wpList Tryd.prog ops Q rest (a.put o.dst (itv y)) w) : wpList Tryd.prog ops Q (o :: rest) a w :=
  wpList_step fun K hK => by
    rw [if_pos hw]
    exact wp_load_agg 38 x ho g off hx (itc y) _ hc Tryd.underlying38 rfl (by kernel_rfl) (hK _ _ h)

end Go.Proofs.YticmjlnpjopfbaaDoor
