/-
  Package half: the register of a name; a register written.
-/
import Derived.Test.YtifkkkfejbgifaaC5
namespace Go.Proofs.Ytifkkkfejbgifaa
open Go.ChangeShapes Go.WideShapes Go.ChangeAt Go.RowKit
set_option linter.unusedVariables false
set_option linter.unusedSimpArgs false

theorem Tri.of_block {W W' : World} {c : Nat} {v0 v1 v2 : Value} (h : Tri W c v0 v1 v2) (e : W'.heap[c]? = W.heap[c]?) (hs : W.heap.size ≤ W'.heap.size) : Tri W' c v0 v1 v2 :=
  ⟨(World.cell?_of_block (w := W) (a := ⟨c, 0, none⟩) e).trans h.c0, (World.cell?_of_block (w := W) (a := ⟨c, 1, none⟩) e).trans h.c1, (World.cell?_of_block (w := W) (a := ⟨c, 2, none⟩) e).trans h.c2,
   (World.frozen?_of_block (w := W) (a := ⟨c, 0, none⟩) e).trans h.f0, (World.frozen?_of_block (w := W) (a := ⟨c, 1, none⟩) e).trans h.f1, (World.frozen?_of_block (w := W) (a := ⟨c, 2, none⟩) e).trans h.f2, Nat.lt_of_lt_of_le h.lt hs⟩
theorem Tri.turn {W W' : World} {n c : Nat} {C C' : Nat → Prop} {v0 v1 v2 : Value} (h : Tri W c v0 v1 v2) (t : Turn n C C' W W') (hn : n ≤ c) (hC : ¬ C c) : Tri W' c v0 v1 v2 := h.of_block (t.keep c hn h.lt hC) t.size
theorem Tri.same {W W' : World} {n c : Nat} {C : Nat → Prop} {v0 v1 v2 : Value} (h : Tri W c v0 v1 v2) (s : Same n C W W') (hc : c < n) : Tri W' c v0 v1 v2 := h.of_block (s.block c h.lt (.inl hc)) s.size
theorem Tri.putObj {W : World} {c l : Nat} {v0 v1 v2 : Value} (h : Tri W c v0 v1 v2) (hn : c ≠ l) (o : Obj) : Tri (W.putObj l o) c v0 v1 v2 := h.of_block (World.putObj_heap_other hn) (by simp)
/-- A register stored into block k. -/
abbrev put3 (W : World) (k : Nat) (x y z : Value) : World := ((W.setCell ⟨k, 0, none⟩ x).setCell ⟨k, 1, none⟩ y).setCell ⟨k, 2, none⟩ z
theorem Tri.store {W : World} {k : Nat} {v0 v1 v2 : Value} (h : Tri W k v0 v1 v2) (x y z : Value) : Tri (put3 W k x y z) k x y z := by
  refine ⟨?_, ?_, ?_, by simpa using h.f0, by simpa using h.f1, by simpa using h.f2, by simpa using h.lt⟩
  · rw [World.cell?_setCell_other _ _ _ _ (by simp), World.cell?_setCell_other _ _ _ _ (by simp)]; exact World.cell?_setCell_same _ _ _ h.c0
  · rw [World.cell?_setCell_other _ _ _ _ (by simp)]; exact World.cell?_setCell_same _ _ _ ((World.cell?_setCell_other _ _ _ _ (by simp)).trans h.c1)
  · exact World.cell?_setCell_same _ _ _ (((World.cell?_setCell_other _ _ _ _ (by simp)).trans (World.cell?_setCell_other _ _ _ _ (by simp))).trans h.c2)
theorem put3_far {W : World} {k c : Nat} (h : c ≠ k) (x y z : Value) : (put3 W k x y z).heap[c]? = W.heap[c]? :=
  ((Below.heap_setCell _ _ _ _ h).trans (Below.heap_setCell _ _ _ _ h)).trans (Below.heap_setCell _ _ _ _ h)
theorem put3_size (W : World) (k : Nat) (x y z : Value) : (put3 W k x y z).heap.size = W.heap.size := by simp [put3, World.setCell]
theorem Tri.far {W : World} {k c : Nat} {v0 v1 v2 : Value} (h : Tri W c v0 v1 v2) (hk : c ≠ k) (x y z : Value) : Tri (put3 W k x y z) c v0 v1 v2 := h.of_block (put3_far hk x y z) (by rw [put3_size]; exact Nat.le_refl _)
theorem Same.put3 {n : Nat} {C : Nat → Prop} {A B : World} (h : Same n C A B) {k : Nat} (hp : n ≤ k) (hc : ¬ C k) (x y z : Value) : Same n C A (put3 B k x y z) :=
  ((h.setCell (p := ⟨k, 0, none⟩) hp hc x).setCell (p := ⟨k, 1, none⟩) hp hc y).setCell (p := ⟨k, 2, none⟩) hp hc z
theorem Below.put3 {n : Nat} {A B : World} (h : Below n A B) {k : Nat} (hp : n ≤ k) (x y z : Value) : Below n A (put3 B k x y z) :=
  ((h.setCell (p := ⟨k, 0, none⟩) hp x).setCell (p := ⟨k, 1, none⟩) hp y).setCell (p := ⟨k, 2, none⟩) hp z


section
variable {ops : Array Oper} {rest : List Oper} {o : Oper} {A : Act} {W : World} {Q : Exit → Act → World → Prop}
theorem wpList_yield (hgd : o.guard = none) (v : Value) (hr : (execOp A.eval o).run Try.prog W = .ok (.value v) W) (h : wpList Try.prog ops Q rest (A.put o.dst v) W) : wpList Try.prog ops Q (o :: rest) A W :=
  wpList_plain hgd fun K hK => by
    unfold Oper.wp
    rw [hr]
    exact hK _ _ h
theorem wpList_load42x (hgd : o.guard = none) (x : Operand) (ho : o.op = .load 33 x) (g off : Nat) (v p f : Int) (hx : A.eval x = .pointer (some ⟨g, off, none⟩)) (hc : W.rangeAt g off [.int .i64 v, .int .i64 p, .int .i64 f])
    (h : wpList Try.prog ops Q rest (A.put o.dst (rg v p f)) W) : wpList Try.prog ops Q (o :: rest) A W := by
  refine wpList_plain hgd fun K hK => ?_
  unfold Oper.wp
  simp only [execOp, ho, hx, Instr.loadAt, Instr.sureAddr, Sem.run_bind, Sem.run_pure, Result.andThen_ok, run_loadVar_mid W g off 33 [.int .i64 v, .int .i64 p, .int .i64 f] _ hc Try.underlying33 rfl (by show _ = some 3; kernel_rfl)]
  exact hK _ _ h
end
theorem LS.reg_range {W : World} {g off : Nat} {d : LS} (h : W.rangeAt g off d.cells) : W.rangeAt g (off + 1) [.int .i64 d.v, .int .i64 d.p, .int .i64 d.f] := fun j u hj => by
  rw [show off + 1 + j = off + (j + 1) by omega]
  exact h (j + 1) u (by simpa [LS.cells] using hj)
theorem LS.name_cell {W : World} {g off : Nat} {d : LS} (h : W.rangeAt g off d.cells) : W.cell? ⟨g, off, none⟩ = some (.string d.name) := h 0 _ rfl
/-- The line of a name; the zero one. -/
def regN (name : ByteArray) (ls : List LS) : LS := if hitN name ls = true then ls.getD (posN name ls) LS.z else LS.z
def LS.r (x : LS) : Value := rg x.v x.p x.f
theorem load_42 {w : World} {g : Nat} {v p f : Int} (h : Tri w g (.int .i64 v) (.int .i64 p) (.int .i64 f)) : (loadVar 33 ⟨g, 0, none⟩).run Try.prog w = .ok (rg v p f) w := by
  obtain ⟨c0, c1, c2, _⟩ := h
  exact run_loadVar_mid w g 0 33 [.int .i64 v, .int .i64 p, .int .i64 f] _ (fun j u hj => by
    match j, hj with
    | 0, hj => cases hj; exact c0
    | 1, hj => cases hj; exact c1
    | 2, hj => cases hj; exact c2) Try.underlying33 rfl (by show _ = some 3; kernel_rfl)
/-- What is written. -/
def wrL (name : ByteArray) (v p f : Int) (ls : List LS) : List LS :=
  if zeroB v p f = true then (if hitN name ls = true then ls.eraseIdx (posN name ls) else ls)
  else if hitN name ls = true then ls.set (posN name ls) ⟨name, v, p, f⟩
  else if ls.length < 8 then ls.take (posN name ls) ++ ⟨name, v, p, f⟩ :: ls.drop (posN name ls) else ls
def HS.wr (h : HS) (name : ByteArray) (v p f : Int) : HS := ⟨h.peer, h.boot, h.life, wrL name v p f h.ls, h.pend, h.miss⟩
theorem zero_same (v p f : Int) : sameB v p f 0 0 0 = zeroB v p f := rfl

end Go.Proofs.Ytifkkkfejbgifaa
