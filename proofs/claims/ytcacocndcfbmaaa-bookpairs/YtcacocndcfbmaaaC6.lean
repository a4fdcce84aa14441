/-
  Package half: the register of a name; a register written.
-/
import Derived.Test.YtcacocndcfbmaaaC5
namespace Go.Proofs.Ytcacocndcfbmaaa
open Go.ChangeShapes Go.WideShapes Go.ChangeAt Go.RowKit
set_option linter.unusedVariables false
set_option linter.unusedSimpArgs false

theorem Tri.of_block {W W' : World} {c : Nat} {v0 v1 v2 : Value} (h : Tri W c v0 v1 v2) (e : W'.heap[c]? = W.heap[c]?) (hs : W.heap.size ≤ W'.heap.size) : Tri W' c v0 v1 v2 :=
  ⟨(World.cell?_of_block (w := W) (a := ⟨c, 0, none⟩) e).trans h.c0, (World.cell?_of_block (w := W) (a := ⟨c, 1, none⟩) e).trans h.c1, (World.cell?_of_block (w := W) (a := ⟨c, 2, none⟩) e).trans h.c2,
   (World.frozen?_of_block (w := W) (a := ⟨c, 0, none⟩) e).trans h.f0, (World.frozen?_of_block (w := W) (a := ⟨c, 1, none⟩) e).trans h.f1, (World.frozen?_of_block (w := W) (a := ⟨c, 2, none⟩) e).trans h.f2, Nat.lt_of_lt_of_le h.lt hs⟩
theorem Tri.turn {W W' : World} {n c : Nat} {C C' : Nat → Prop} {v0 v1 v2 : Value} (h : Tri W c v0 v1 v2) (t : Turn n C C' W W') (hn : n ≤ c) (hC : ¬ C c) : Tri W' c v0 v1 v2 := h.of_block (t.keep c hn h.lt hC) t.size
theorem Tri.same {W W' : World} {n c : Nat} {C : Nat → Prop} {v0 v1 v2 : Value} (h : Tri W c v0 v1 v2) (s : Same n C W W') (hc : c < n) : Tri W' c v0 v1 v2 := h.of_block (s.block c h.lt (.inl hc)) s.size
theorem Tri.putObj {W : World} {c l : Nat} {v0 v1 v2 : Value} (h : Tri W c v0 v1 v2) (hn : c ≠ l) (o : Obj) : Tri (W.putObj l o) c v0 v1 v2 := h.of_block (World.putObj_heap_other hn) (by simp)
/-- A register stored into block k. -/
abbrev put3 (W : World) (k : Nat) (x y z : Value) : World := ((W.setCell ⟨k, 0, none⟩ x).setCell ⟨k, 1, none⟩ y).setCell ⟨k, 2, none⟩ z
theorem Tri.store {W : World} {k : Nat} {v0 v1 v2 : Value} (h : Tri W k v0 v1 v2) (x y z : Value) : Tri (put3 W k x y z) k x y z := by
  refine ⟨?_, ?_, ?_, by simpa using h.f0, by simpa using h.f1, by simpa using h.f2, by simpa using h.lt⟩
  · rw [World.cell?_setCell_other _ _ _ _ (by simp), World.cell?_setCell_other _ _ _ _ (by simp)]; exact World.cell?_setCell_same _ _ _ h.c0
  · rw [World.cell?_setCell_other _ _ _ _ (by simp)]; exact World.cell?_setCell_same _ _ _ ((World.cell?_setCell_other _ _ _ _ (by simp)).trans h.c1)
  · exact World.cell?_setCell_same _ _ _ (((World.cell?_setCell_other _ _ _ _ (by simp)).trans (World.cell?_setCell_other _ _ _ _ (by simp))).trans h.c2)
theorem put3_far {W : World} {k c : Nat} (h : c ≠ k) (x y z : Value) : (put3 W k x y z).heap[c]? = W.heap[c]? :=
  ((Below.heap_setCell _ _ _ _ h).trans (Below.heap_setCell _ _ _ _ h)).trans (Below.heap_setCell _ _ _ _ h)
theorem put3_size (W : World) (k : Nat) (x y z : Value) : (put3 W k x y z).heap.size = W.heap.size := by simp [put3, World.setCell]
theorem Tri.far {W : World} {k c : Nat} {v0 v1 v2 : Value} (h : Tri W c v0 v1 v2) (hk : c ≠ k) (x y z : Value) : Tri (put3 W k x y z) c v0 v1 v2 := h.of_block (put3_far hk x y z) (by rw [put3_size]; exact Nat.le_refl _)
theorem Same.put3 {n : Nat} {C : Nat → Prop} {A B : World} (h : Same n C A B) {k : Nat} (hp : n ≤ k) (hc : ¬ C k) (x y z : Value) : Same n C A (put3 B k x y z) :=
  ((h.setCell (p := ⟨k, 0, none⟩) hp hc x).setCell (p := ⟨k, 1, none⟩) hp hc y).setCell (p := ⟨k, 2, none⟩) hp hc z
theorem Below.put3 {n : Nat} {A B : World} (h : Below n A B) {k : Nat} (hp : n ≤ k) (x y z : Value) : Below n A (put3 B k x y z) :=
  ((h.setCell (p := ⟨k, 0, none⟩) hp x).setCell (p := ⟨k, 1, none⟩) hp y).setCell (p := ⟨k, 2, none⟩) hp z


section
variable {ops : Array Oper} {rest : List Oper} {o : Oper} {A : Act} {W : World} {Q : Exit → Act → World → Prop}
theorem wpList_yield (hgd : o.guard = none) (v : Value) (hr : (execOp A.eval o).run Try.prog W = .ok (.value v) W) (h : wpList Try.prog ops Q rest (A.put o.dst v) W) : wpList Try.prog ops Q (o :: rest) A W :=
  wpList_plain hgd fun K hK => by
    unfold Oper.wp
    rw [hr]
    exact hK _ _ h
theorem wpList_load42x (hgd : o.guard = none) (x : Operand) (ho : o.op = .load 50 x) (g off : Nat) (v p f : Int) (hx : A.eval x = .pointer (some ⟨g, off, none⟩)) (hc : W.rangeAt g off [.int .i64 v, .int .i64 p, .int .i64 f])
    (h : wpList Try.prog ops Q rest (A.put o.dst (rg v p f)) W) : wpList Try.prog ops Q (o :: rest) A W := by
  refine wpList_plain hgd fun K hK => ?_
  unfold Oper.wp
  simp only [execOp, ho, hx, Instr.loadAt, Instr.sureAddr, Sem.run_bind, Sem.run_pure, Result.andThen_ok, run_loadVar_mid W g off 50 [.int .i64 v, .int .i64 p, .int .i64 f] _ hc Try.underlying50 rfl (by show _ = some 3; kernel_rfl)]
  exact hK _ _ h
end
theorem LS.reg_range {W : World} {g off : Nat} {d : LS} (h : W.rangeAt g off d.cells) : W.rangeAt g (off + 1) [.int .i64 d.v, .int .i64 d.p, .int .i64 d.f] := fun j u hj => by
  rw [show off + 1 + j = off + (j + 1) by omega]
  exact h (j + 1) u (by simpa [LS.cells] using hj)
theorem LS.name_cell {W : World} {g off : Nat} {d : LS} (h : W.rangeAt g off d.cells) : W.cell? ⟨g, off, none⟩ = some (.string d.name) := h 0 _ rfl
/-- The line of a name; the zero one. -/
def regN (name : ByteArray) (ls : List LS) : LS := if hitN name ls = true then ls.getD (posN name ls) LS.z else LS.z
def LS.r (x : LS) : Value := rg x.v x.p x.f
theorem load_42 {w : World} {g : Nat} {v p f : Int} (h : Tri w g (.int .i64 v) (.int .i64 p) (.int .i64 f)) : (loadVar 50 ⟨g, 0, none⟩).run Try.prog w = .ok (rg v p f) w := by
  obtain ⟨c0, c1, c2, _⟩ := h
  exact run_loadVar_mid w g 0 50 [.int .i64 v, .int .i64 p, .int .i64 f] _ (fun j u hj => by
    match j, hj with
    | 0, hj => cases hj; exact c0
    | 1, hj => cases hj; exact c1
    | 2, hj => cases hj; exact c2) Try.underlying50 rfl (by show _ = some 3; kernel_rfl)
/-- What is written. -/
def wrL (name : ByteArray) (v p f : Int) (ls : List LS) : List LS :=
  if zeroB v p f = true then (if hitN name ls = true then ls.eraseIdx (posN name ls) else ls)
  else if hitN name ls = true then ls.set (posN name ls) ⟨name, v, p, f⟩
  else if ls.length < 8 then ls.take (posN name ls) ++ ⟨name, v, p, f⟩ :: ls.drop (posN name ls) else ls
def HS.wr (h : HS) (name : ByteArray) (v p f : Int) : HS := ⟨h.peer, h.boot, h.life, wrL name v p f h.ls, h.pend, h.miss⟩
theorem zero_same (v p f : Int) : sameB v p f 0 0 0 = zeroB v p f := rfl

set_option maxRecDepth 100000 in
set_option maxHeartbeats 4000000 in
theorem reg_any (h : HS) (a : Option Addr) (c : Nat) (name : ByteArray) (w : World) (R : RdO w h a c) : Calls Try.prog 39 #[(h.on a c).val, .string name] w fun e w' => e = .returned (regN name h.ls).r ∧ Below w.heap.size w w' := by
  obtain ⟨peer, boot, life, ls, pend, miss⟩ := h
  dsimp only [HS.on, HR.val, RdO] at R ⊢
  have C0 := ((Bx.nil w).add rfl (.cells #[.int .i64 peer, .int .i64 boot, .int .i64 life, .slice a ls.length c, .bool pend, .int .i64 miss] 43)).add (by simp) (.cells #[.int .i64 0, .int .i64 0, .int .i64 0] 50)
  have C1 := C0.add (by simp) (.cells #[.slice a ls.length c] 41)
  have T0 := ((Tri.new (w.alloc (.cells #[.int .i64 peer, .int .i64 boot, .int .i64 life, .slice a ls.length c, .bool pend, .int .i64 miss] 43)) (.int .i64 0) (.int .i64 0) (.int .i64 0) 50).at (k' := w.heap.size + 1) (by simp)).alloc (.cells #[.slice a ls.length c] 41)
  have KN := fun W => named_any a ls.length c W
  have KP := placeN_any (w.heap.size + 2) a ls.length c ls name _ (R.below C1.below) ((One.new _ _ _).at (by simp))
  have hp : posN name ls ≤ ls.length := pos_le _ _
  cases hh : hitN name ls with
  | false =>
    have HR : Hid (regN name ls = LS.z) := by show _ = _; unfold regN; rw [hh]; rfl
    rw [hh, toN_false] at KP
    clear hh
    go_enter Try.func39, Try.ntmps39
    go_wp2_with (first
      | (go_at_call 45; refine (KN _).mono ?_; rintro e w3 ⟨rfl, hw3⟩; rw [hw3]; clear hw3 w3 KN)
      | (go_at_call 44; refine KP.mono ?_; rintro e w4 ⟨rfl, b4⟩; clear KP; have C4 := C1.later b4; have T4 := T0.below b4; obtain ⟨t0, t1, t2, f0, f1, f2, tz⟩ := id T4))
    have C5 : Below w.heap.size w (put3 w4 (w.heap.size + 1) (.int .i64 0) (.int .i64 0) (.int .i64 0)) := Below.put3 C4.below (by omega) _ _ _
    rw [HR.out]
    exact bodyPost_ret (results_row1 rfl _ _ (w.heap.size + 1) _ rfl (load_42 (T4.store (.int .i64 0) (.int .i64 0) (.int .i64 0)))) rfl ⟨rfl, C5⟩
  | true =>
    have hlt : posN name ls < ls.length := hit_lt hh
    have HR : Hid (regN name ls = ls.getD (posN name ls) LS.z) := by show _ = _; unfold regN; rw [hh]; rfl
    rw [hh, toN_true] at KP
    clear hh
    generalize hk : posN name ls = k at *
    clear hk
    have hkI : ¬ (k : Int) = (k : Int) + 1 := by omega
    have hkn : (k : Int) < (ls.length : Int) := by omega
    obtain ⟨g, off, rfl, hg, hd, hra⟩ := R.at k hlt
    obtain ⟨⟨nm, v, p, f⟩, hx⟩ : ∃ x, ls.getD k LS.z = x := ⟨_, rfl⟩
    rw [hx] at hra HR
    clear hx hd
    go_enter Try.func39, Try.ntmps39
    go_wp2_with (first
      | (go_at_call 45; refine (KN _).mono ?_; rintro e w3 ⟨rfl, hw3⟩; rw [hw3]; clear hw3 w3 KN)
      | (go_at_call 44; refine KP.mono ?_; rintro e w4 ⟨rfl, b4⟩; clear KP; have C4 := C1.later b4; have T4 := T0.below b4; obtain ⟨t0, t1, t2, f0, f1, f2, tz⟩ := id T4; have ⟨p0, p1, p2, p3, p4, p5⟩ := cel6 (C4.at0 _ rfl); have hr4 := LS.reg_range (range_later hra hg C4.below))
      | ((with_reducible show wpList _ _ _ (Oper.mk _ (Op.load 50 _) _ _ _ _ :: _) _ _); refine wpList_load42x rfl _ rfl g (off + k * 4 + 1) v p f rfl hr4 ?_))
    have C5 : Below w.heap.size w (put3 w4 (w.heap.size + 1) (.int .i64 v) (.int .i64 p) (.int .i64 f)) := Below.put3 C4.below (by omega) _ _ _
    rw [HR.out]
    exact bodyPost_ret (results_row1 rfl _ _ (w.heap.size + 1) _ rfl (load_42 (T4.store (.int .i64 v) (.int .i64 p) (.int .i64 f)))) rfl ⟨rfl, C5⟩
end Go.Proofs.Ytcacocndcfbmaaa
