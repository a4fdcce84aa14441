/-
  Blocks of one and of two cells, and what a call leaves of them.
-/
import Derived.Test.YtpdmpekkmblgmaaRange
import Derived.WalkKit
import Derived.ProofKit
import Derived.Handy
import Derived.WalkSmall
namespace Go.Proofs.Ytpdmpekkmblgmaa
open Go.ChangeShapes Go.WideShapes Go.ChangeAt Go.RowKit
set_option linter.unusedVariables false

/-- Block k holds two cells, v0 and v1, that may be written. -/
def Two (W : World) (k : Nat) (v0 v1 : Value) : Prop :=
  W.cell? ⟨k, 0, none⟩ = some v0 ∧ W.cell? ⟨k, 1, none⟩ = some v1 ∧ W.frozen? ⟨k, 0, none⟩ = false ∧ W.frozen? ⟨k, 1, none⟩ = false ∧ k < W.heap.size
theorem Two.new (W : World) (v0 v1 : Value) (t : TypeId) : Two (W.alloc (.cells #[v0, v1] t)) W.heap.size v0 v1 :=
  ⟨by simp, by simp, by simp, by simp, by simp⟩
theorem Two.alloc {W : World} {k : Nat} {v0 v1 : Value} (h : Two W k v0 v1) (o : Obj) : Two (W.alloc o) k v0 v1 :=
  ⟨(World.cell?_alloc_past _ _ _ h.2.2.2.2).trans h.1, (World.cell?_alloc_past _ _ _ h.2.2.2.2).trans h.2.1, (World.frozen?_alloc_past _ _ _ h.2.2.2.2).trans h.2.2.1, (World.frozen?_alloc_past _ _ _ h.2.2.2.2).trans h.2.2.2.1, by have := h.2.2.2.2; simp; omega⟩
theorem Two.below {W w1 : World} {k : Nat} {v0 v1 : Value} (h : Two W k v0 v1) (hb : Below W.heap.size W w1) : Two w1 k v0 v1 :=
  have hk := h.2.2.2.2
  ⟨(hb.cell (p := ⟨k, 0, none⟩) hk).trans h.1, (hb.cell (p := ⟨k, 1, none⟩) hk).trans h.2.1, (hb.frozen (p := ⟨k, 0, none⟩) hk).trans h.2.2.1, (hb.frozen (p := ⟨k, 1, none⟩) hk).trans h.2.2.2.1, Nat.lt_of_lt_of_le hk hb.size⟩
theorem Two.at {W : World} {k k' : Nat} {v0 v1 : Value} (h : Two W k v0 v1) (e : k = k') : Two W k' v0 v1 := e ▸ h
theorem Two.drewN {W : World} {k : Nat} {v0 v1 : Value} (h : Two W k v0 v1) (n : Nat) : Two (W.drewN n) k v0 v1 := h
theorem Below.drewn {B : Nat} {a w : World} (h : Below B a w) (n : Nat) : Below B a (w.drewN n) := ⟨h.os, h.tape, h.output, h.size, h.block⟩
theorem Two.store {W : World} {k : Nat} {v0 v1 : Value} (h : Two W k v0 v1) (a b : Value) : Two ((W.setCell ⟨k, 0, none⟩ a).setCell ⟨k, 1, none⟩ b) k a b := by
  obtain ⟨h0, h1, f0, f1, z⟩ := h
  refine ⟨?_, ?_, by simpa using f0, by simpa using f1, by simpa using z⟩
  · rw [World.cell?_setCell_other _ _ _ _ (by simp)]; exact World.cell?_setCell_same _ _ _ h0
  · exact World.cell?_setCell_same _ _ _ ((World.cell?_setCell_other _ _ _ _ (by simp)).trans h1)
theorem Two.far {W : World} {k : Nat} {v0 v1 : Value} (h : Two W k v0 v1) (a : Value) (j o : Nat) (n : j ≠ k) : Two (W.setCell ⟨j, o, none⟩ a) k v0 v1 := by
  obtain ⟨h0, h1, f0, f1, z⟩ := h
  refine ⟨?_, ?_, by simpa using f0, by simpa using f1, by simpa using z⟩
  · rw [World.cell?_setCell_other _ _ _ _ (fun e => n (congrArg Addr.block e))]; exact h0
  · rw [World.cell?_setCell_other _ _ _ _ (fun e => n (congrArg Addr.block e))]; exact h1
theorem Two.of_block {W W' : World} {c : Nat} {v0 v1 : Value} (h : Two W c v0 v1) (e : W'.heap[c]? = W.heap[c]?) (hs : W.heap.size ≤ W'.heap.size) : Two W' c v0 v1 :=
  ⟨(World.cell?_of_block (w := W) (a := ⟨c, 0, none⟩) e).trans h.1, (World.cell?_of_block (w := W) (a := ⟨c, 1, none⟩) e).trans h.2.1,
   (World.frozen?_of_block (w := W) (a := ⟨c, 0, none⟩) e).trans h.2.2.1, (World.frozen?_of_block (w := W) (a := ⟨c, 1, none⟩) e).trans h.2.2.2.1, Nat.lt_of_lt_of_le h.2.2.2.2 hs⟩
theorem Two.turn {W W' : World} {n c : Nat} {C C' : Nat → Prop} {v0 v1 : Value} (h : Two W c v0 v1) (t : Turn n C C' W W') (hn : n ≤ c) (hC : ¬ C c) : Two W' c v0 v1 :=
  h.of_block (t.keep c hn h.2.2.2.2 hC) t.size
/-- Block k holds one cell, v, that may be written. -/
def One (W : World) (k : Nat) (v : Value) : Prop := W.cell? ⟨k, 0, none⟩ = some v ∧ W.frozen? ⟨k, 0, none⟩ = false ∧ k < W.heap.size
theorem One.new (W : World) (v : Value) (t : TypeId) : One (W.alloc (.cells #[v] t)) W.heap.size v := ⟨by simp, by simp, by simp⟩
theorem One.alloc {W : World} {k : Nat} {v : Value} (h : One W k v) (o : Obj) : One (W.alloc o) k v :=
  ⟨(World.cell?_alloc_past _ _ _ h.2.2).trans h.1, (World.frozen?_alloc_past _ _ _ h.2.2).trans h.2.1, by have := h.2.2; simp; omega⟩
theorem One.at {W : World} {k k' : Nat} {v : Value} (h : One W k v) (e : k = k') : One W k' v := e ▸ h
theorem One.of_block {W W' : World} {c : Nat} {v : Value} (h : One W c v) (e : W'.heap[c]? = W.heap[c]?) (hs : W.heap.size ≤ W'.heap.size) : One W' c v :=
  ⟨(World.cell?_of_block (w := W) (a := ⟨c, 0, none⟩) e).trans h.1, (World.frozen?_of_block (w := W) (a := ⟨c, 0, none⟩) e).trans h.2.1, Nat.lt_of_lt_of_le h.2.2 hs⟩
theorem One.same {W W' : World} {n c : Nat} {C : Nat → Prop} {v : Value} (h : One W c v) (s : Same n C W W') (hc : c < n) : One W' c v :=
  h.of_block (s.block c h.2.2 (.inl hc)) s.size
theorem One.below {W W' : World} {c : Nat} {v : Value} (h : One W c v) (s : Below W.heap.size W W') : One W' c v :=
  h.of_block (s.block c h.2.2) s.size
theorem One.set {W : World} {c : Nat} {v : Value} (h : One W c v) (v' : Value) : One (W.setCell ⟨c, 0, none⟩ v') c v' :=
  ⟨World.cell?_setCell_same _ _ _ h.1, by simpa using h.2.1, by simpa using h.2.2⟩
theorem Below.same {n m : Nat} {w A B : World} {C : Nat → Prop} (h : Below n w A) (s : Same m C A B) (hn : n ≤ m) (hw : n ≤ w.heap.size) : Below n w B :=
  h.trans ((s.mono hn).below (Nat.le_trans hw h.size))
theorem Two.putObj {W : World} {c l : Nat} {v0 v1 : Value} (h : Two W c v0 v1) (hn : c ≠ l) (o : Obj) : Two (W.putObj l o) c v0 v1 :=
  h.of_block (World.putObj_heap_other hn) (by simp)
theorem One.putObj {W : World} {c l : Nat} {v : Value} (h : One W c v) (hn : c ≠ l) (o : Obj) : One (W.putObj l o) c v :=
  h.of_block (World.putObj_heap_other hn) (by simp)
theorem Turn.setOld {n : Nat} {C : Nat → Prop} {A : World} (hC : ∀ b, C b → n ≤ b ∧ b < A.heap.size) {k : Nat} (hk : k < n) (o : Nat) (v : Value) : Turn n C C A (A.setCell ⟨k, o, none⟩ v) :=
  ⟨by simp [World.setCell], fun b h1 _ _ => Below.heap_setCell _ _ _ _ (by show b ≠ k; omega), fun b hb => ⟨(hC b hb).1, by simpa [World.setCell] using (hC b hb).2, .inl hb⟩⟩
theorem below_putObj {n : Nat} {w A : World} (h : Below n w A) {l : Nat} (hl : n ≤ l) (o : Obj) : Below n w (A.putObj l o) :=
  h.trans ⟨rfl, rfl, rfl, by simp, fun k hk => World.putObj_heap_other (by omega)⟩

theorem One.turn {W W' : World} {n c : Nat} {C C' : Nat → Prop} {v : Value} (h : One W c v) (t : Turn n C C' W W') (hn : n ≤ c) (hC : ¬ C c) : One W' c v :=
  h.of_block (t.keep c hn h.2.2 hC) t.size

end Go.Proofs.Ytpdmpekkmblgmaa
