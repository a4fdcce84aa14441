/-
  Package reg: what a list of registers is merged to; the iterator that hands it out register by register.
-/
import Derived.Test.YtijiihmkhlidlaaRIn
import Derived.Test.YtijiihmkhlidlaaBlocks
import Derived.Test.YtijiihmkhlidlaaHeld
import Derived.Shelf.Abstract
import Derived.Shelf.RegionOpen
import Derived.OwnWalkIn
import Derived.TacticsInMore
import Derived.LoopNIn
import Derived.LoopIn
import Derived.Sort.LoopGhostIn
import Derived.Scope
import Derived.WalkMore
import Derived.RangeFuncCalls
namespace Go.Proofs.Ytijiihmkhlidlaa
open Go.ChangeShapes Go.WideShapes Go.ChangeAt Go.RowKit Go.Maps Go.Shelf
set_option linter.unusedVariables false
set_option linter.unusedSimpArgs false
attribute [local go_sem] Oper.semAt_some

theorem Tri.of_block {W W' : World} {c : Nat} {v0 v1 v2 : Value} (h : Tri W c v0 v1 v2) (e : W'.heap[c]? = W.heap[c]?) (hs : W.heap.size ≤ W'.heap.size) : Tri W' c v0 v1 v2 :=
  ⟨(World.cell?_of_block (w := W) (a := ⟨c, 0, none⟩) e).trans h.c0, (World.cell?_of_block (w := W) (a := ⟨c, 1, none⟩) e).trans h.c1, (World.cell?_of_block (w := W) (a := ⟨c, 2, none⟩) e).trans h.c2,
   (World.frozen?_of_block (w := W) (a := ⟨c, 0, none⟩) e).trans h.f0, (World.frozen?_of_block (w := W) (a := ⟨c, 1, none⟩) e).trans h.f1, (World.frozen?_of_block (w := W) (a := ⟨c, 2, none⟩) e).trans h.f2, Nat.lt_of_lt_of_le h.lt hs⟩
theorem Tri.turn {W W' : World} {n c : Nat} {C C' : Nat → Prop} {v0 v1 v2 : Value} (h : Tri W c v0 v1 v2) (t : Turn n C C' W W') (hn : n ≤ c) (hC : ¬ C c) : Tri W' c v0 v1 v2 := h.of_block (t.keep c hn h.lt hC) t.size
theorem Tri.same {W W' : World} {n c : Nat} {C : Nat → Prop} {v0 v1 v2 : Value} (h : Tri W c v0 v1 v2) (s : Same n C W W') (hc : c < n) : Tri W' c v0 v1 v2 := h.of_block (s.block c h.lt (.inl hc)) s.size
theorem Tri.putObj {W : World} {c l : Nat} {v0 v1 v2 : Value} (h : Tri W c v0 v1 v2) (hn : c ≠ l) (o : Obj) : Tri (W.putObj l o) c v0 v1 v2 := h.of_block (World.putObj_heap_other hn) (by simp)
/-- A register stored into block k. -/
abbrev put3 (W : World) (k : Nat) (x y z : Value) : World := ((W.setCell ⟨k, 0, none⟩ x).setCell ⟨k, 1, none⟩ y).setCell ⟨k, 2, none⟩ z
theorem Tri.store {W : World} {k : Nat} {v0 v1 v2 : Value} (h : Tri W k v0 v1 v2) (x y z : Value) : Tri (put3 W k x y z) k x y z := by
  refine ⟨?_, ?_, ?_, by simpa using h.f0, by simpa using h.f1, by simpa using h.f2, by simpa using h.lt⟩
  · rw [World.cell?_setCell_other _ _ _ _ (by simp), World.cell?_setCell_other _ _ _ _ (by simp)]; exact World.cell?_setCell_same _ _ _ h.c0
  · rw [World.cell?_setCell_other _ _ _ _ (by simp)]; exact World.cell?_setCell_same _ _ _ ((World.cell?_setCell_other _ _ _ _ (by simp)).trans h.c1)
  · exact World.cell?_setCell_same _ _ _ (((World.cell?_setCell_other _ _ _ _ (by simp)).trans (World.cell?_setCell_other _ _ _ _ (by simp))).trans h.c2)
theorem put3_far {W : World} {k c : Nat} (h : c ≠ k) (x y z : Value) : (put3 W k x y z).heap[c]? = W.heap[c]? :=
  ((Below.heap_setCell _ _ _ _ h).trans (Below.heap_setCell _ _ _ _ h)).trans (Below.heap_setCell _ _ _ _ h)
theorem put3_size (W : World) (k : Nat) (x y z : Value) : (put3 W k x y z).heap.size = W.heap.size := by simp [put3, World.setCell]
theorem Tri.far {W : World} {k c : Nat} {v0 v1 v2 : Value} (h : Tri W c v0 v1 v2) (hk : c ≠ k) (x y z : Value) : Tri (put3 W k x y z) c v0 v1 v2 := h.of_block (put3_far hk x y z) (by rw [put3_size]; exact Nat.le_refl _)
theorem Same.put3 {n : Nat} {C : Nat → Prop} {A B : World} (h : Same n C A B) {k : Nat} (hp : n ≤ k) (hc : ¬ C k) (x y z : Value) : Same n C A (put3 B k x y z) :=
  ((h.setCell (p := ⟨k, 0, none⟩) hp hc x).setCell (p := ⟨k, 1, none⟩) hp hc y).setCell (p := ⟨k, 2, none⟩) hp hc z
theorem Below.put3 {n : Nat} {A B : World} (h : Below n A B) {k : Nat} (hp : n ≤ k) (x y z : Value) : Below n A (put3 B k x y z) :=
  ((h.setCell (p := ⟨k, 0, none⟩) hp x).setCell (p := ⟨k, 1, none⟩) hp y).setCell (p := ⟨k, 2, none⟩) hp z

def mrg (a b : RS) : RS := if newB b.v b.p a.v a.p = true then b else a
def RS.z : RS := ⟨0, 0, 0⟩
/-- What the first i + 1 of a list are merged to. -/
def mo (l : List RS) : Nat → RS
  | 0 => l.getD 0 RS.z
  | i + 1 => mrg (mo l i) (l.getD (i + 1) RS.z)
def mos (l : List RS) : List RS := (List.range l.length).map (mo l)
theorem mos_len (l : List RS) : (mos l).length = l.length := by simp [mos]
theorem mos_at {l : List RS} {i : Nat} (h : i < l.length) : (mos l)[i]? = some (mo l i) := by simp [mos, h]
theorem merge_rs (a b : RS) (w : World) : Calls Try.prog 12 #[a.r, b.r] w fun e w' => e = .returned (mrg a b).r ∧ Below w.heap.size w w' := by
  refine (merge_any a.v a.p a.f b.v b.p b.f w).mono ?_
  rintro e w' ⟨rfl, hb⟩
  refine ⟨?_, hb⟩
  unfold mrg
  cases newB b.v b.p a.v a.p <;> rfl
theorem rmerge_rs (a b : RS) (w : World) : Calls Try.prog 13 #[a.r, b.r] w fun e w' => e = .returned (mrg a b).r ∧ Below w.heap.size w w' := by
  refine (rmerge_any a.v a.p a.f b.v b.p b.f w).mono ?_
  rintro e w' ⟨rfl, hb⟩
  refine ⟨?_, hb⟩
  unfold mrg
  cases newB b.v b.p a.v a.p <;> rfl
theorem Rgs.at {W : World} {a : Option Addr} {n : Nat} {l : List RS} (h : Rgs W a n l) (i : Nat) (hi : i < n) : ∃ b off, a = some ⟨b, off, none⟩ ∧ b < W.heap.size ∧ W.rangeAt b (off + i * 3) (l.getD i RS.z).l := by
  rcases h.mem with h0 | ⟨b, off, rfl, hb, hr⟩
  · omega
  · refine ⟨b, off, rfl, hb, ?_⟩
    have hl : i < l.length := by rw [h.size]; exact hi
    have := hr i hl
    rw [show l.getD i RS.z = l[i]'hl by simp [List.getD, hl]]
    exact this
theorem range_later {w W : World} {g o : Nat} {cs : List Value} (h : w.rangeAt g o cs) (hg : g < w.heap.size) (k : Below w.heap.size w W) : W.rangeAt g o cs := fun j v hv => (World.cell?_of_block (a := ⟨g, o + j, none⟩) (k.block g hg)).trans (h j v hv)
theorem Rgs.below {w W : World} {a : Option Addr} {n : Nat} {l : List RS} (h : Rgs w a n l) (k : Below w.heap.size w W) : Rgs W a n l := by
  refine ⟨h.size, h.max, ?_⟩
  rcases h.mem with h0 | ⟨b, off, rfl, hb, hr⟩
  · exact .inl h0
  · exact .inr ⟨b, off, rfl, Nat.lt_of_lt_of_le hb k.size, fun j hj => range_later (hr j hj) hb k⟩
section
variable {F : Fence} {n : Nat} {ops : Array Oper} {rest : List Oper} {o : Oper} {a : Act} {W : World} {Q : Exit → Act → World → Prop}
theorem wpListIn_load23x (hgd : o.guard = none) (x : Operand) (ho : o.op = .load 23 x) (g off : Nat) (q : RS) (hx : a.eval x = .pointer (some ⟨g, off, none⟩)) (hc : W.rangeAt g off q.l)
    (h : wpListIn F n Try.prog ops Q rest (a.put o.dst q.r) W) : wpListIn F n Try.prog ops Q (o :: rest) a W := by
  refine wpListIn_plain hgd fun K hK => ?_
  unfold Oper.wpIn
  refine ⟨?_, ?_⟩
  · simp [Oper.about, ho]
  · rw [Oper.semAt_plain F _ _ (by rw [ho]; intro c hc'; cases hc')]
    simp only [execOp, ho, hx, Instr.loadAt, Instr.sureAddr, Sem.run_bind, Sem.run_pure, Result.andThen_ok, run_loadVar_mid W g off 23 q.l _ hc Try.underlying23 rfl (by kernel_rfl)]
    exact hK _ _ h
end
/-- What the iterator leans on. -/
structure KeepM (w0 : World) (fb : Nat) (a : Option Addr) (n cap : Nat) (A : World) : Prop where
  ptr : One A fb (.slice a n cap)
  below : Below w0.heap.size w0 A
theorem merged_any (a : Option Addr) (n cap : Nat) (w : World) : Calls Try.prog 28 #[.slice a n cap] w fun e w' => e = .returned (.func (.func 30) #[] #[.pointer (some ⟨w.heap.size, 0, none⟩)]) ∧ w' = w.alloc (.cells #[.slice a n cap] 36) := by
  have hmf : ∀ (fn : Fn) (first cap : Array Value) (w : World), (Instr.makeFunc fn first cap).run Try.prog w = .ok (.func fn first cap) w := fun _ _ _ _ => rfl
  go_enter Try.func28, Try.ntmps28
  go_wp2
  go_ret
  exact ⟨rfl, rfl⟩
abbrev encM (q : RS) : Array Value := #[q.r]
end Go.Proofs.Ytijiihmkhlidlaa
