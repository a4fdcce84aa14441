/-
  Package half: a half-edge in memory of its own; Begin.
-/
import Derived.Test.YtifkkkfejbgifaaC2
namespace Go.Proofs.Ytifkkkfejbgifaa
open Go.ChangeShapes Go.WideShapes Go.ChangeAt Go.RowKit
set_option linter.unusedVariables false
set_option linter.unusedSimpArgs false

/-- Blocks made since w, in a row. -/
structure Bx (w : World) (l : List Obj) (W : World) : Prop where
  below : Below w.heap.size w W
  size : w.heap.size + l.length ≤ W.heap.size
  at_ : ∀ i o, l[i]? = some o → W.heap[w.heap.size + i]? = some o
theorem Bx.nil (w : World) : Bx w [] w := ⟨Below.refl _ _, Nat.le_refl _, fun i o h => by cases h⟩
theorem Bx.add {w : World} {l : List Obj} {W : World} (h : Bx w l W) (hs : W.heap.size = w.heap.size + l.length) (o : Obj) : Bx w (l ++ [o]) (W.alloc o) := by
  refine ⟨h.below.alloc (by omega) _, by simp; omega, fun i x hx => ?_⟩
  by_cases hi : i < l.length
  · rw [List.getElem?_append_left hi] at hx
    exact heap_old (by omega) (h.at_ i x hx)
  · have : i = l.length := by have := (List.getElem?_eq_some_iff.1 hx).1; simp at this; omega
    subst this
    simp at hx
    subst hx
    exact heap_new (by omega)
theorem Bx.later {w : World} {l : List Obj} {W W' : World} (h : Bx w l W) (b : Below W.heap.size W W') : Bx w l W' :=
  ⟨h.below.trans (b.mono h.below.size), Nat.le_trans h.size b.size, fun i o hi => (b.block _ (row_lt (h.at_ i o hi))).trans (h.at_ i o hi)⟩
theorem Bx.later' {w : World} {l : List Obj} {W W' : World} (h : Bx w l W) (b : Below (w.heap.size + l.length) W W') : Bx w l W' :=
  ⟨h.below.trans (b.mono (by omega)), Nat.le_trans h.size b.size, fun i o hi => (b.block _ (by have := (List.getElem?_eq_some_iff.1 hi).1; omega)).trans (h.at_ i o hi)⟩
theorem Bx.at0 {w : World} {l : List Obj} {W : World} (h : Bx w l W) (o : Obj) (e : l[0]? = some o) : W.heap[w.heap.size]? = some o := h.at_ 0 o e
theorem Bx.drew {w : World} {l : List Obj} {W : World} (h : Bx w l W) : Bx w l W.drew := ⟨⟨h.below.os, h.below.tape, h.below.output, h.below.size, h.below.block⟩, h.size, h.at_⟩
theorem Bx.drewN {w : World} {l : List Obj} {W : World} (h : Bx w l W) (n : Nat) : Bx w l (W.drewN n) := ⟨⟨h.below.os, h.below.tape, h.below.output, h.below.size, h.below.block⟩, h.size, h.at_⟩
theorem Bx.set {w : World} {l : List Obj} {W : World} (h : Bx w l W) (i j : Nat) (cs : Array Value) (t : TypeId) (hi : l[i]? = some (.cells cs t (0, 0))) (v : Value) : Bx w (l.set i (.cells (cs.setIfInBounds j v) t (0, 0))) (W.setCell ⟨w.heap.size + i, j, none⟩ v) := by
  refine ⟨h.below.setCell (p := ⟨w.heap.size + i, j, none⟩) (by show w.heap.size ≤ w.heap.size + i; omega) v, by simpa [World.setCell] using h.size, fun k o hk => ?_⟩
  by_cases e : k = i
  · subst e
    rw [List.getElem?_set_self (List.getElem?_eq_some_iff.1 hi).1] at hk
    cases hk
    exact set_row (h.at_ k _ hi) j v
  · rw [List.getElem?_set_ne (Ne.symm e)] at hk
    exact set_far (h.at_ k o hk) (by omega) _ _
structure Cel6 (W : World) (g : Nat) (x0 x1 x2 x3 x4 x5 : Value) : Prop where
  c0 : W.cell? ⟨g, 0, none⟩ = some x0
  c1 : W.cell? ⟨g, 1, none⟩ = some x1
  c2 : W.cell? ⟨g, 2, none⟩ = some x2
  c3 : W.cell? ⟨g, 3, none⟩ = some x3
  c4 : W.cell? ⟨g, 4, none⟩ = some x4
  c5 : W.cell? ⟨g, 5, none⟩ = some x5
theorem cel6 {W : World} {g : Nat} {x0 x1 x2 x3 x4 x5 : Value} {t : TypeId} (h : W.heap[g]? = some (.cells #[x0, x1, x2, x3, x4, x5] t (0, 0))) : Cel6 W g x0 x1 x2 x3 x4 x5 :=
  ⟨row_cell h 0 _ rfl, row_cell h 1 _ rfl, row_cell h 2 _ rfl, row_cell h 3 _ rfl, row_cell h 4 _ rfl, row_cell h 5 _ rfl⟩
theorem fre6 {W : World} {g : Nat} {cs : Array Value} {t : TypeId} (h : W.heap[g]? = some (.cells cs t (0, 0))) : W.frozen? ⟨g, 0, none⟩ = false ∧ W.frozen? ⟨g, 1, none⟩ = false ∧ W.frozen? ⟨g, 2, none⟩ = false ∧ W.frozen? ⟨g, 3, none⟩ = false ∧ W.frozen? ⟨g, 4, none⟩ = false ∧ W.frozen? ⟨g, 5, none⟩ = false :=
  ⟨row_free h 0, row_free h 1, row_free h 2, row_free h 3, row_free h 4, row_free h 5⟩
/-- Six cells stored. -/
abbrev put6 (W : World) (g : Nat) (x0 x1 x2 x3 x4 x5 : Value) : World := (((((W.setCell ⟨g, 0, none⟩ x0).setCell ⟨g, 1, none⟩ x1).setCell ⟨g, 2, none⟩ x2).setCell ⟨g, 3, none⟩ x3).setCell ⟨g, 4, none⟩ x4).setCell ⟨g, 5, none⟩ x5
theorem put6_heap {W : World} {g : Nat} {y0 y1 y2 y3 y4 y5 : Value} {t : TypeId} (h : W.heap[g]? = some (.cells #[y0, y1, y2, y3, y4, y5] t (0, 0))) (x0 x1 x2 x3 x4 x5 : Value) : (put6 W g x0 x1 x2 x3 x4 x5).heap[g]? = some (.cells #[x0, x1, x2, x3, x4, x5] t (0, 0)) :=
  set_row (set_row (set_row (set_row (set_row (set_row h 0 x0) 1 x1) 2 x2) 3 x3) 4 x4) 5 x5
theorem put6_far {W : World} {g k : Nat} (h : k ≠ g) (x0 x1 x2 x3 x4 x5 : Value) : (put6 W g x0 x1 x2 x3 x4 x5).heap[k]? = W.heap[k]? :=
  set_far (set_far (set_far (set_far (set_far (set_far rfl h _ _) h _ _) h _ _) h _ _) h _ _) h _ _
theorem put6_size (W : World) (g : Nat) (x0 x1 x2 x3 x4 x5 : Value) : (put6 W g x0 x1 x2 x3 x4 x5).heap.size = W.heap.size := by simp [put6, World.setCell]
theorem Bx.put {w : World} {l : List Obj} {W : World} (h : Bx w l W) (i : Nat) {y0 y1 y2 y3 y4 y5 : Value} {t : TypeId} (hi : l[i]? = some (.cells #[y0, y1, y2, y3, y4, y5] t (0, 0))) (x0 x1 x2 x3 x4 x5 : Value) : Bx w (l.set i (.cells #[x0, x1, x2, x3, x4, x5] t (0, 0))) (put6 W (w.heap.size + i) x0 x1 x2 x3 x4 x5) := by
  refine ⟨?_, by rw [put6_size]; simpa using h.size, fun k o hk => ?_⟩
  · have p : ∀ (W : World) (j : Nat) (v : Value), Below w.heap.size w W → Below w.heap.size w (W.setCell ⟨w.heap.size + i, j, none⟩ v) := fun W j v b => b.setCell (p := ⟨w.heap.size + i, j, none⟩) (by show w.heap.size ≤ w.heap.size + i; omega) v
    exact p _ _ _ (p _ _ _ (p _ _ _ (p _ _ _ (p _ _ _ (p _ _ _ h.below)))))
  · by_cases e : k = i
    · subst e
      rw [List.getElem?_set_self (List.getElem?_eq_some_iff.1 hi).1] at hk
      cases hk
      exact put6_heap (h.at_ k _ hi) _ _ _ _ _ _
    · rw [List.getElem?_set_ne (Ne.symm e)] at hk
      exact (put6_far (by omega) _ _ _ _ _ _).trans (h.at_ k o hk)
/-- A half-edge whose lines are of one's own: they lie at or behind base. -/
structure Own (base : Nat) (W : World) (h : HS) (a : Option Addr) (c : Nat) : Prop where
  lst : LstL W a h.ls.length c h.ls
  new : ∀ g off, a = some ⟨g, off, none⟩ → base ≤ g
theorem Own.of_blocks {base : Nat} {W W' : World} {h : HS} {a : Option Addr} {c : Nat} (o : Own base W h a c) (hb : ∀ g, base ≤ g → g < W.heap.size → W'.heap[g]? = W.heap[g]?) : Own base W' h a c :=
  ⟨o.lst.of_block fun g off e => hb g (o.new g off e) (o.lst.lt' e), o.new⟩
theorem Own.below {base : Nat} {W W' : World} {h : HS} {a : Option Addr} {c : Nat} (o : Own base W h a c) (hb : Below W.heap.size W W') : Own base W' h a c := ⟨o.lst.below hb, o.new⟩
theorem Own.mono {base base' : Nat} {W : World} {h : HS} {a : Option Addr} {c : Nat} (o : Own base W h a c) (hb : base' ≤ base) : Own base' W h a c := ⟨o.lst, fun g off e => Nat.le_trans hb (o.new g off e)⟩
/-- A half-edge that may be read. -/
abbrev RdO (W : World) (h : HS) (a : Option Addr) (c : Nat) : Prop := RdL W a h.ls.length c h.ls
theorem Own.rd {base : Nat} {W : World} {h : HS} {a : Option Addr} {c : Nat} (o : Own base W h a c) (hn : h.ls.length * 40 ≤ 140737488355328) : RdO W h a c := o.lst.rd hn
theorem RdO.few {W : World} {h : HS} {a : Option Addr} {c : Nat} (o : RdO W h a c) : h.ls.length * 40 ≤ 140737488355328 := RdL.max o
abbrev z6 : Array Value := #[.int .i64 0, .int .i64 0, .int .i64 0, .slice none 0 0, .bool false, .int .i64 0]
set_option maxHeartbeats 4000000 in
theorem own_any (h : HS) (a : Option Addr) (c : Nat) (w : World) (R : RdO w h a c) : Calls Try.prog 39 #[(h.on a c).val] w fun e w' => ∃ a' c', e = .returned (h.on a' c').val ∧ Own w.heap.size w' h a' c' ∧ Below w.heap.size w w' := by
  obtain ⟨peer, boot, life, ls, pend, miss⟩ := h
  dsimp only [HS.on, HR.val, RdO] at R ⊢
  have C0 := ((Bx.nil w).add rfl (.cells #[.int .i64 peer, .int .i64 boot, .int .i64 life, .slice a ls.length c, .bool pend, .int .i64 miss] 24)).add (by simp) (.cells z6 24)
  have R1 := R.below C0.below
  go_enter Try.func39, Try.ntmps39
  go_wp2_with ((with_reducible show wpList _ _ _ (Oper.mk _ (Op.call { callee := Callee.builtin Builtin.append, args := _, argTypes := #[22, 22] }) _ _ _ _ :: _) _ _); go_must (refine wpList_copy_lstL rfl _ _ rfl rfl rfl R1 ?_; intro a1 c1 w1 L1 o1 b1; have C1 := C0.later b1; have ⟨p0, p1, p2, p3, p4, p5⟩ := cel6 (C1.at0 _ rfl); have ⟨q0, q1, q2, q3, q4, q5⟩ := cel6 (C1.at_ 1 _ rfl); have ⟨f0, f1, f2, f3, f4, f5⟩ := fre6 (C1.at0 _ rfl); have ⟨g0, g1, g2, g3, g4, g5⟩ := fre6 (C1.at_ 1 _ rfl)))
  have C2 : Bx w _ (put6 (w1.setCell ⟨w.heap.size, 3, none⟩ (.slice a1 ls.length c1)) (w.heap.size + 1) (.int .i64 peer) (.int .i64 boot) (.int .i64 life) (.slice a1 ls.length c1) (.bool pend) (.int .i64 miss)) := (C1.set 0 3 _ _ rfl (.slice a1 ls.length c1)).put 1 rfl (.int .i64 peer) (.int .i64 boot) (.int .i64 life) (.slice a1 ls.length c1) (.bool pend) (.int .i64 miss)
  refine bodyPost_ret (results_row1 rfl _ _ (w.heap.size + 1) _ rfl (load_24 (d := ⟨peer, boot, life, a1, ls.length, c1, pend, miss⟩) (C2.at_ 1 _ rfl))) rfl ⟨a1, c1, rfl, ⟨L1.of_block fun g off e => ?_, fun g off e => ?_⟩, C2.below⟩
  · have := o1 g off e
    simp at this
    exact (put6_far (by omega) _ _ _ _ _ _).trans (set_far rfl (by omega) _ _)
  · have := o1 g off e
    simp at this
    omega
end Go.Proofs.Ytifkkkfejbgifaa
