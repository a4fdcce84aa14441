/-
  The document's Write: what it rests on.
-/
import Derived.Test.YtcacocndcfbmaaaH9
import Derived.Test.YtcacocndcfbmaaaIL
import Derived.Test.YtcacocndcfbmaaaG1
namespace Go.Proofs.Ytcacocndcfbmaaa
open Go.ChangeShapes Go.WideShapes Go.ChangeAt Go.RowKit Go.Maps Go.Shelf
set_option linter.unusedVariables false
set_option linter.unusedSimpArgs false
attribute [local go_sem] Oper.semAt_some

theorem owns_set {W : World} {base e size : Nat} {v : Value} {n : Nat} {xs : List Value} {k i : Nat} {u : Value} (h : W.ownsRow base e size v n xs) (hk : k < base) : (W.setCell ⟨k, i, none⟩ u).ownsRow base e size v n xs := by
  refine ⟨h.1, ?_⟩
  rcases h.2 with x | ⟨g, cap, cur, hv, hb, hg, rest⟩
  · exact .inl x
  · exact .inr ⟨g, cap, cur, hv, hb, set_far hg (by omega) _ _, rest⟩
theorem take_next {α : Type} {l : List α} {i : Nat} {z : α} (hi : i < l.length) : l.take (i + 1) = l.take i ++ [l.getD i z] := by
  rw [List.take_add_one, List.getD_eq_getElem?_getD, List.getElem?_eq_getElem hi]; rfl
/-- A half-edge whose lines are being written anew, into block qb. -/
structure Wt (w : World) (x : HS) (a : Option Addr) (c : Nat) (v p f : Int) (qb : Nat) (L : Value) (es : List LS) (W : World) : Prop where
  below : Below w.heap.size w W
  t0 : W.heap[w.heap.size]? = some (.cells (x.on a c).cells.toArray 43 (0, 0))
  t1 : W.heap[w.heap.size + 1]? = some (.cells #[.int .i64 v, .int .i64 p, .int .i64 f] 50 (0, 0))
  t2 : W.heap[w.heap.size + 2]? = some (.cells z6 43 (0, 0))
  tq : W.heap[qb]? = some (.cells #[.int .i64 x.peer, .int .i64 x.boot, .int .i64 x.life, L, .bool x.pend, .int .i64 x.miss] 43 (0, 0))
  hq : w.heap.size + 3 ≤ qb
  row : W.ownsRow (qb + 1) 62 4 L es.length (csL es)
section
variable {w : World} {x : HS} {a : Option Addr} {c : Nat} {v p f : Int} {qb : Nat} {L : Value} {es : List LS} {W W' : World}
theorem Wt.later (h : Wt w x a c v p f qb L es W) (b : Below W.heap.size W W') : Wt w x a c v p f qb L es W' :=
  ⟨h.below.trans (b.mono h.below.size), (b.block _ (row_lt h.t0)).trans h.t0, (b.block _ (row_lt h.t1)).trans h.t1, (b.block _ (row_lt h.t2)).trans h.t2, (b.block _ (row_lt h.tq)).trans h.tq, h.hq, owns_later h.row b⟩
theorem Wt.grown {L' : Value} {es' : List LS} (h : Wt w x a c v p f qb L es W) (b : Below (qb + 1) W W') (o : W'.ownsRow (qb + 1) 62 4 L' es'.length (csL es')) : Wt w x a c v p f qb L' es' (W'.setCell ⟨qb, 3, none⟩ L') := by
  have hq := h.hq
  refine ⟨(h.below.trans (b.mono (by omega))).setCell (p := ⟨qb, 3, none⟩) (by show w.heap.size ≤ qb; omega) _, set_far ((b.block _ (by omega)).trans h.t0) (by omega) _ _, set_far ((b.block _ (by omega)).trans h.t1) (by omega) _ _, set_far ((b.block _ (by omega)).trans h.t2) (by omega) _ _, ?_, hq, owns_set o (Nat.lt_succ_self _)⟩
  have := set_row ((b.block _ (Nat.lt_succ_self _)).trans h.tq) 3 L'
  simpa using this
theorem Wt.start {w1 : World} (C : Bx w [.cells (x.on a c).cells.toArray 43, .cells #[.int .i64 v, .int .i64 p, .int .i64 f] 50, .cells z6 43] w1) : Wt w x a c v p f w1.heap.size (.slice none 0 0) [] (w1.alloc (.cells #[.int .i64 x.peer, .int .i64 x.boot, .int .i64 x.life, .slice none 0 0, .bool x.pend, .int .i64 x.miss] 43)) :=
  ⟨C.below.alloc C.below.size _, heap_old (row_lt (C.at0 _ rfl)) (C.at0 _ rfl), heap_old (row_lt (C.at_ 1 _ rfl)) (C.at_ 1 _ rfl), heap_old (row_lt (C.at_ 2 _ rfl)) (C.at_ 2 _ rfl), heap_new rfl, C.size, World.ownsRow_nil _ _ 62 4⟩
end
section
variable {ops : Array Oper} {rest : List Oper} {o : Oper} {A : Act} {W : World} {Q : Exit → Act → World → Prop}
theorem wpList_yieldg (hw : Region.wanted o (yielded ops A.tmps) = true) (v : Value) (hr : (execOp A.eval o).run Try.prog W = .ok (.value v) W) (h : wpList Try.prog ops Q rest (A.put o.dst v) W) : wpList Try.prog ops Q (o :: rest) A W := by
  unfold wpList
  rw [if_pos hw]
  left
  unfold Oper.wp
  rw [hr]
  exact h
theorem exec_load42 {ρ : Operand → Value} {x : Operand} (ho : o.op = .load 50 x) (g : Nat) (v p f : Int) (hx : ρ x = .pointer (some ⟨g, 0, none⟩)) (hc : W.heap[g]? = some (.cells #[.int .i64 v, .int .i64 p, .int .i64 f] 50 (0, 0))) : (execOp ρ o).run Try.prog W = .ok (.value (rg v p f)) W := by
  have hr : W.rangeAt g 0 [.int .i64 v, .int .i64 p, .int .i64 f] := fun j u hj => by rw [Nat.zero_add]; exact row_cell hc j u (by simpa using hj)
  simp only [execOp, ho, hx, Instr.loadAt, Instr.sureAddr, Sem.run_bind, Sem.run_pure, Result.andThen_ok, run_loadVar_mid W g 0 50 _ _ hr Try.underlying50 rfl (by show _ = some 3; kernel_rfl)]
end
/-- What the document writes: the lines ahead, the new one, those behind. -/
theorem wr_doc (name : ByteArray) (v p f : Int) (ls : List LS) : wrL name v p f ls = (if zeroB v p f = true then (if hitN name ls = true then ls.take (posN name ls) ++ ls.drop (posN name ls + 1) else ls.take (posN name ls) ++ ls.drop (posN name ls)) else if hitN name ls = true then ls.take (posN name ls) ++ [⟨name, v, p, f⟩] ++ ls.drop (posN name ls + 1) else if ls.length < 8 then ls.take (posN name ls) ++ [⟨name, v, p, f⟩] ++ ls.drop (posN name ls) else ls) := by
  unfold wrL
  split
  · split
    · rw [List.eraseIdx_eq_take_drop_succ]
    · rw [List.take_append_drop]
  · split
    · rename_i h
      rw [List.set_eq_take_append_cons_drop, if_pos (hit_lt h), List.append_assoc]; rfl
    · split
      · rw [List.append_assoc]; rfl
      · rfl
end Go.Proofs.Ytcacocndcfbmaaa
