/-
  Package chans: the same; has.
-/
import Derived.Test.YtoeebofappbneaaGreatT0
import Derived.Test.YtoeebofappbneaaGreatX0
import Derived.Test.YtoeebofappbneaaGreatP1
import Derived.Test.YtoeebofappbneaaGreatE1
import Derived.Test.YtoeebofappbneaaGreatD4
import Derived.Test.YtoeebofappbneaaGreatQ4
import Derived.Test.YtoeebofappbneaaGreatHeld
namespace Go.Proofs.YtoeebofappbneaaGreat
open Go.ChangeShapes Go.WideShapes Go.ChangeAt Go.RowKit Go.Maps Go.Shelf
set_option linter.unusedVariables false
set_option linter.unusedSimpArgs false

abbrev zX : Array Value := #[.bool false, .int .i64 0, .int .i64 0, .int .i64 0]
abbrev zT : Array Value := #[.string ⟨#[]⟩, .int .i64 0, .int .i64 0, .bool false, .int .i64 0, .int .i64 0, .bool false, .int .i64 0, .bool false, .int .i64 0, .int .i64 0, .int .i64 0, .bool false, .int .i64 0, .int .i64 0, .int .i64 0]
theorem rtT : RT 49 zT := ⟨fun W => by kernel_rfl, ⟨_, Tryz.underlying49, rfl⟩, by show _ = some 16; kernel_rfl⟩
theorem rtX : RT 38 zX := ⟨fun W => by kernel_rfl, ⟨_, Tryz.underlying38, rfl⟩, by show _ = some 4; kernel_rfl⟩
abbrev ste (nm : ByteArray) (ep mr : Int) (al : Bool) (kd sc : Int) (hv : Bool) (iv : Int) (h1 : Bool) (v1 o1 g1 : Int) (h2 : Bool) (v2 o2 g2 : Int) : Value := .agg #[.string nm, .int .i64 ep, .int .i64 mr, .bool al, .int .i64 kd, .int .i64 sc, .bool hv, .int .i64 iv, .bool h1, .int .i64 v1, .int .i64 o1, .int .i64 g1, .bool h2, .int .i64 v2, .int .i64 o2, .int .i64 g2]
abbrev stc (nm : ByteArray) (ep mr : Int) (al : Bool) (kd sc : Int) (hv : Bool) (iv : Int) (h1 : Bool) (v1 o1 g1 : Int) (h2 : Bool) (v2 o2 g2 : Int) : Array Value := #[.string nm, .int .i64 ep, .int .i64 mr, .bool al, .int .i64 kd, .int .i64 sc, .bool hv, .int .i64 iv, .bool h1, .int .i64 v1, .int .i64 o1, .int .i64 g1, .bool h2, .int .i64 v2, .int .i64 o2, .int .i64 g2]
abbrev exv (h : Bool) (v o g : Int) : Value := .agg #[.bool h, .int .i64 v, .int .i64 o, .int .i64 g]
theorem rng_ch {W : World} {b o : Nat} {nm : ByteArray} {ep mr : Int} {al : Bool} {kd sc : Int} {hv : Bool} {iv : Int} {h1 : Bool} {v1 o1 g1 : Int} {h2 : Bool} {v2 o2 g2 : Int} (h : W.rangeAt b o (ST.cells ⟨⟨nm, ep, mr, al, kd, sc⟩, hv, iv, ⟨h1, v1, o1, g1⟩, ⟨h2, v2, o2, g2⟩⟩)) : W.rangeAt b o (CH.cells ⟨nm, ep, mr, al, kd, sc⟩) := fun j v hq => h j v (by
  have hj : j < 6 := (List.getElem?_eq_some_iff.1 hq).1
  rw [show ST.cells ⟨⟨nm, ep, mr, al, kd, sc⟩, hv, iv, ⟨h1, v1, o1, g1⟩, ⟨h2, v2, o2, g2⟩⟩ = CH.cells ⟨nm, ep, mr, al, kd, sc⟩ ++ [.bool hv, .int .i64 iv, .bool h1, .int .i64 v1, .int .i64 o1, .int .i64 g1, .bool h2, .int .i64 v2, .int .i64 o2, .int .i64 g2] from rfl, List.getElem?_append_left (by show j < 6; exact hj)]
  exact hq)
section
variable {ops : Array Oper} {rest : List Oper} {o : Oper} {A : Act} {w W : World} {l : List Blk} {Q : Exit → Act → World → Prop} {K : Act → World → Prop} {N : Nat} {C : Nat → Prop}
/-- A state out of a list. -/
theorem wpList_load35w (hgd : Region.wanted o (yielded ops A.tmps) = true) (x : Operand) (ho : o.op = .load 49 x) (g off : Nat) (nm : ByteArray) (ep mr : Int) (al : Bool) (kd sc : Int) (hv : Bool) (iv : Int) (h1 : Bool) (v1 o1 g1 : Int) (h2 : Bool) (v2 o2 g2 : Int) (hx : A.eval x = .pointer (some ⟨g, off, none⟩)) (hc : W.rangeAt g off (ST.cells ⟨⟨nm, ep, mr, al, kd, sc⟩, hv, iv, ⟨h1, v1, o1, g1⟩, ⟨h2, v2, o2, g2⟩⟩))
    (H : wpList Tryz.prog ops Q rest (A.put o.dst (ste nm ep mr al kd sc hv iv h1 v1 o1 g1 h2 v2 o2 g2)) W) : wpList Tryz.prog ops Q (o :: rest) A W := by
  unfold wpList
  rw [if_pos hgd]
  left
  unfold Oper.wp
  rw [exec_load35 ho g off ⟨⟨nm, ep, mr, al, kd, sc⟩, hv, iv, ⟨h1, v1, o1, g1⟩, ⟨h2, v2, o2, g2⟩⟩ hx hc]
  exact H
theorem wpList_mk1T (M : MemG N C w W l) (hgd : o.guard = none) (x : Operand) (ho : o.op = .buildSlice 22 1 #[(0, x)]) (nm : ByteArray) (ep mr : Int) (al : Bool) (kd sc : Int) (hv : Bool) (iv : Int) (h1 : Bool) (v1 o1 g1 : Int) (h2 : Bool) (v2 o2 g2 : Int) (hx : A.eval x = ste nm ep mr al kd sc hv iv h1 v1 o1 g1 h2 v2 o2 g2)
    (H : ∀ q W', MemG N C w W' ((q, stc nm ep mr al kd sc hv iv h1 v1 o1 g1 h2 v2 o2 g2, 49) :: l) → wpList Tryz.prog ops Q rest (A.put o.dst (.slice (some ⟨q, 0, none⟩) 1 1)) W') : wpList Tryz.prog ops Q (o :: rest) A W := by
  refine wpList_plain hgd fun K hK => ?_
  have MA := M.add (stc nm ep mr al kd sc hv iv h1 v1 o1 g1 h2 v2 o2 g2) 49
  unfold Oper.wp execOp
  simp only [ho]
  simp only [List.map_toArray, List.map_cons, List.map_nil, Array.toList, hx]
  go_simp
  exact hK _ _ (H _ _ MA)
end
theorem rd_oneT {W : World} {k : Nat} {nm : ByteArray} {ep mr : Int} {al : Bool} {kd sc : Int} {hv : Bool} {iv : Int} {h1 : Bool} {v1 o1 g1 : Int} {h2 : Bool} {v2 o2 g2 : Int} (h : W.heap[k]? = some (.cells (stc nm ep mr al kd sc hv iv h1 v1 o1 g1 h2 v2 o2 g2) 49 (0, 0))) : RdT W (some ⟨k, 0, none⟩) 1 1 [⟨⟨nm, ep, mr, al, kd, sc⟩, hv, iv, ⟨h1, v1, o1, g1⟩, ⟨h2, v2, o2, g2⟩⟩] := by
  refine ⟨rfl, Nat.le_refl _, by decide, .inr (.inr ⟨k, 0, rfl, row_lt h, ?_⟩)⟩
  have := range_rowT (d := ⟨⟨nm, ep, mr, al, kd, sc⟩, hv, iv, ⟨h1, v1, o1, g1⟩, ⟨h2, v2, o2, g2⟩⟩) h
  simpa [csT] using this
/-- The list's own block is held, too: a list of rows of any type. -/
theorem MemG.ownG {e K : Nat} {w wr : World} {l : List Blk} (M : MemG w.heap.size (fun _ => False) w wr l) {v : Value} {n : Nat} {xs : List Value} (O : wr.ownsRow w.heap.size e K v n xs) (hne : ∀ g, v.ownBlock = some g → ∀ p, p ∈ l → p.1 ≠ g) : MemG w.heap.size (fun b => v.ownBlock = some b) wr wr l :=
  ⟨Same.refl _ _ _, M.size, fun b hb => (O.lt b hb).2, fun p hp => ⟨(M.at_ p hp).1, (M.at_ p hp).2.1, fun h => hne _ h p hp rfl⟩, M.nd⟩
theorem MemG.ownsG {e K N : Nat} {wr W : World} {l : List Blk} {v : Value} {base n : Nat} {xs : List Value} (M : MemG N (fun b => v.ownBlock = some b) wr W l) (O : wr.ownsRow base e K v n xs) : W.ownsRow base e K v n xs := owns_of_block O (fun g hg => M.same.block g (O.lt g hg).2 (.inr hg))
theorem run_append_st {W : World} (ty : TypeId) {base : Nat} {v : Value} {k : Nat} {xs : List Value} (hown : W.ownsRow base 49 16 v k xs) {ad : Addr} {y : ST}
    (hc : ∀ j u, y.cells[j]? = some u → W.cell? (ad.add j) = some u) (b2 : (k + 1) * 136 ≤ 140737488355328) (b3 : base ≤ W.heap.size) :
    ∃ g cap w', (Builtin.append_ #[22, 22] ty #[v, .slice (some ad) 1 1]).run Tryz.prog W = .ok (.slice (some ⟨g, 0, none⟩) (k + 1) cap) w' ∧ w'.ownsRow base 49 16 (.slice (some ⟨g, 0, none⟩) (k + 1) cap) (k + 1) (xs ++ y.cells) ∧ W.grownBy w' v.ownBlock ∧ (v.ownBlock = some g ∨ g = W.heap.size) := by
  obtain ⟨i0, hi, hz0, hz1, hz2⟩ := info_parts info35
  have h63 : k + 1 ≤ maxLen := by unfold maxLen; omega
  obtain ⟨v', w', hrun, r1, r2, r3⟩ := run_append_own (P := Tryz.prog) W base 22 ty 49 i0 _ 16 136 Tryz.underlying22 hi hz0 hz1 hz2 rfl (by decide) v k xs hown ad 1 1 y.cells rfl hc (cells_oneT y) h63 b2 b3
  have r4 := append_where (P := Tryz.prog) W base 22 ty 49 i0 _ 16 136 Tryz.underlying22 hi hz0 hz1 hz2 rfl (by decide) v k xs hown ad 1 1 y.cells rfl hc (cells_oneT y) (by decide) h63 b2 v' w' hrun
  rcases r1.2 with ⟨_, h0⟩ | ⟨g, cap, cur, rfl, q⟩
  · omega
  · refine ⟨g, cap, w', hrun, r1, r2, ?_⟩
    rcases r4 with h | h
    · exact .inl h.symm
    · exact .inr (by simpa [Value.ownBlock] using h)
section
variable {ops : Array Oper} {rest : List Oper} {o : Oper} {A : Act} {w W : World} {l : List Blk} {Q : Exit → Act → World → Prop} {N : Nat}
theorem wpList_appC {v : Value} {k : Nat} {xs : List Value} {n : ByteArray} {e m : Int} {a : Bool} {kk s : Int} {q : Nat} (M : MemG N (fun b => v.ownBlock = some b) w W ((q, chc n e m a kk s, 47) :: l)) (O : w.ownsRow N 47 6 v k xs) (hg : o.guard = none) (p x : Operand) (hop : o.op = Op.call { callee := Callee.builtin Builtin.append, args := #[p, x], argTypes := #[44, 44] })
    (hs : A.eval p = v) (hx : A.eval x = .slice (some ⟨q, 0, none⟩) 1 1) (hb : (k + 1) * 56 ≤ 140737488355328)
    (H : ∀ g cap W', MemG N (fun _ => False) w W' l → W'.ownsRow N 47 6 (.slice (some ⟨g, 0, none⟩) (k + 1) cap) (k + 1) (xs ++ CH.cells ⟨n, e, m, a, kk, s⟩) → (∀ g', (Value.slice (some ⟨g, 0, none⟩) (k + 1) cap).ownBlock = some g' → ∀ p, p ∈ l → p.1 ≠ g') →
      wpList Tryz.prog ops Q rest (A.put o.dst (.slice (some ⟨g, 0, none⟩) (k + 1) cap)) W') : wpList Tryz.prog ops Q (o :: rest) A W := by
  refine wpList_plain hg fun K hK => ?_
  obtain ⟨g, cap, w', hrun, r1, r2, r4⟩ := run_append_ch (y := ⟨n, e, m, a, kk, s⟩) o.type (M.owns O) (ad := ⟨q, 0, none⟩) (fun j u hu => by rw [add_plain, Nat.zero_add]; exact row_cell (M.get (.head _)) j u (by simpa [CH.cells] using hu)) hb M.size
  have M1 := (M.tail.weak (C' := fun _ => False) (fun b h => h.elim)).grown r2 (fun b hb => ⟨(O.lt b hb).1, fun h => h, fun p hp e => M.ne b hb p (.tail _ hp) e⟩)
  unfold Oper.wp
  simp [execOp, hop, resolve, invoke, builtin, hs, hx, hrun, Result.andThen]
  refine hK _ _ (H g cap w' M1 r1 (fun g' hg' p hp e => ?_))
  have e1 : g = g' := by simpa [Value.ownBlock] using hg'
  rcases r4 with h | h
  · exact M.ne g h p (.tail _ hp) (by rw [e, e1])
  · have := M.lt (k := p.1) (c := p.2.1) (t := p.2.2) (.tail _ hp)
    omega
theorem wpList_appT {v : Value} {k : Nat} {xs : List Value} {nm : ByteArray} {ep mr : Int} {al : Bool} {kd sc : Int} {hv : Bool} {iv : Int} {h1 : Bool} {v1 o1 g1 : Int} {h2 : Bool} {v2 o2 g2 : Int} {q : Nat} (M : MemG N (fun b => v.ownBlock = some b) w W ((q, stc nm ep mr al kd sc hv iv h1 v1 o1 g1 h2 v2 o2 g2, 49) :: l)) (O : w.ownsRow N 49 16 v k xs) (hg : o.guard = none) (p x : Operand) (hop : o.op = Op.call { callee := Callee.builtin Builtin.append, args := #[p, x], argTypes := #[22, 22] })
    (hs : A.eval p = v) (hx : A.eval x = .slice (some ⟨q, 0, none⟩) 1 1) (hb : (k + 1) * 136 ≤ 140737488355328)
    (H : ∀ g cap W', MemG N (fun _ => False) w W' l → W'.ownsRow N 49 16 (.slice (some ⟨g, 0, none⟩) (k + 1) cap) (k + 1) (xs ++ ST.cells ⟨⟨nm, ep, mr, al, kd, sc⟩, hv, iv, ⟨h1, v1, o1, g1⟩, ⟨h2, v2, o2, g2⟩⟩) → (∀ g', (Value.slice (some ⟨g, 0, none⟩) (k + 1) cap).ownBlock = some g' → ∀ p, p ∈ l → p.1 ≠ g') →
      wpList Tryz.prog ops Q rest (A.put o.dst (.slice (some ⟨g, 0, none⟩) (k + 1) cap)) W') : wpList Tryz.prog ops Q (o :: rest) A W := by
  refine wpList_plain hg fun K hK => ?_
  obtain ⟨g, cap, w', hrun, r1, r2, r4⟩ := run_append_st (y := ⟨⟨nm, ep, mr, al, kd, sc⟩, hv, iv, ⟨h1, v1, o1, g1⟩, ⟨h2, v2, o2, g2⟩⟩) o.type (M.ownsG O) (ad := ⟨q, 0, none⟩) (fun j u hu => by rw [add_plain, Nat.zero_add]; exact row_cell (M.get (.head _)) j u (by simpa [ST.cells] using hu)) hb M.size
  have M1 := (M.tail.weak (C' := fun _ => False) (fun b h => h.elim)).grown r2 (fun b hb => ⟨(O.lt b hb).1, fun h => h, fun p hp e => M.ne b hb p (.tail _ hp) e⟩)
  unfold Oper.wp
  simp [execOp, hop, resolve, invoke, builtin, hs, hx, hrun, Result.andThen]
  refine hK _ _ (H g cap w' M1 r1 (fun g' hg' p hp e => ?_))
  have e1 : g = g' := by simpa [Value.ownBlock] using hg'
  rcases r4 with h | h
  · exact M.ne g h p (.tail _ hp) (by rw [e, e1])
  · have := M.lt (k := p.1) (c := p.2.1) (t := p.2.2) (.tail _ hp)
    omega
end
/-- A new list of states that is a function's answer. -/
def AnsT (w : World) (l : List ST) (e : Ending) (w' : World) : Prop := ∃ a' cap', e = .returned (.slice a' l.length cap') ∧ LstT w' a' l.length cap' l ∧ (∀ g off, a' = some ⟨g, off, none⟩ → w.heap.size ≤ g) ∧ Below w.heap.size w w'
end Go.Proofs.YtoeebofappbneaaGreat

namespace Go.Proofs.YtoeebofappbneaaGreat
open Go.ChangeShapes Go.WideShapes Go.ChangeAt Go.RowKit Go.Maps Go.Shelf
set_option linter.unusedVariables false
set_option linter.unusedSimpArgs false

def eqS (x y : ST) : Bool := eqC x.c y.c && ((x.h == y.h) && ((x.i == y.i) && (E.sameX x.mn y.mn && (E.sameX x.mx y.mx && true))))
theorem eqS_iff (x y : ST) : eqS x y = true ↔ x = y := by
  obtain ⟨c, h, i, a, b⟩ := x
  obtain ⟨c', h', i', a', b'⟩ := y
  simp only [eqS, Bool.and_eq_true, eqC_iff, E.sameX_eq, beq_iff_eq, and_true, ST.mk.injEq]
theorem eqS_self (x : ST) : eqS x x = true := (eqS_iff x x).2 rfl
theorem agg30 (W : World) : (isAgg 47).run Tryz.prog W = .ok true W := by kernel_rfl
theorem siz30 (W : World) : (sizeOf 47).run Tryz.prog W = .ok 6 W := by kernel_rfl
theorem part30 (xs : Array Value) (off : Nat) (W : World) : (part 47 xs off).run Tryz.prog W = .ok (.agg (xs.extract off (off + 6))) W := by
  unfold part
  rw [Sem.run_bind, agg30]
  simp only [Result.andThen_ok, if_pos, Sem.run_bind, siz30, Sem.run_pure]
theorem agg33 (W : World) : (isAgg 38).run Tryz.prog W = .ok true W := by kernel_rfl
theorem siz33 (W : World) : (sizeOf 38).run Tryz.prog W = .ok 4 W := by kernel_rfl
theorem part33 (xs : Array Value) (off : Nat) (W : World) : (part 38 xs off).run Tryz.prog W = .ok (.agg (xs.extract off (off + 4))) W := by
  unfold part
  rw [Sem.run_bind, agg33]
  simp only [Result.andThen_ok, if_pos, Sem.run_bind, siz33, Sem.run_pure]
theorem eq35 (w : World) (d : Nat) (x y : ST) : (Op.equalIn (d + 3) 49 x.val y.val).run Tryz.prog w = .ok (eqS x y) w := by
  have hS : Tryz.prog.underlying 49 = some (.struct (Tryz.prog.fieldsOf 49)) := by kernel_rfl
  have hp : Tryz.prog.stoodInHeld 49 = false := by kernel_rfl
  unfold ST.val
  rw [run_equalIn_agg w (d + 2) 49 _ _ hS hp]
  simp only [Program.fieldsOf, Tryz.underlying49]
  refine eqFields_cons (a := x.c.val) (b := y.c.val) (r := eqC x.c y.c) (by decide) (part30 _ _ _) (part30 _ _ _) (eq23 w d x.c y.c) ?_
  refine eqFields_cons (a := .bool x.h) (b := .bool y.h) (r := (x.h == y.h)) (by decide) (by go_simp) (by go_simp) (by go_simp) ?_
  refine eqFields_cons (a := .int .i64 x.i) (b := .int .i64 y.i) (r := (x.i == y.i)) (by decide) (by go_simp) (by go_simp) (by go_simp) ?_
  refine eqFields_cons (a := x.mn.val) (b := y.mn.val) (r := E.sameX x.mn y.mn) (by decide) (part33 _ _ _) (part33 _ _ _) (E.eq23 w d x.mn y.mn) ?_
  refine eqFields_cons (a := x.mx.val) (b := y.mx.val) (r := E.sameX x.mx y.mx) (by decide) (part33 _ _ _) (part33 _ _ _) (E.eq23 w d x.mx y.mx) ?_
  exact eqFields_nil
theorem eql35 (w : World) (x y : ST) : (binOp .eql 49 x.val y.val).run Tryz.prog w = .ok (.bool (eqS x y)) w := by
  rw [show (binOp .eql 49 x.val y.val).run Tryz.prog w = _ from run_eql_struct ..]
  rw [show (10000 : Nat) = 9997 + 3 from rfl]
  have := eq35 w 9997 x y
  unfold ST.val at this
  rw [this]
  simp
theorem exec_eql35 {o : Oper} {ρ : Operand → Value} {p q : Operand} (ho : o.op = .binOp .eql 49 p q 49) (x y : ST) (hx : ρ p = x.val) (hy : ρ q = y.val) (X : World) : (execOp ρ o).run Tryz.prog X = .ok (.value (.bool (eqS x y))) X := by
  have hm : Tryz.prog.eqGuardType Tryz.prog.depth 49 = false := by kernel_rfl
  have hg := run_eqGuard_agg (P := Tryz.prog) X .eql 49 p q #[.string x.c.nm, .int .i64 x.c.ep, .int .i64 x.c.mr, .bool x.c.al, .int .i64 x.c.kd, .int .i64 x.c.sc, .bool x.h, .int .i64 x.i, .bool x.mn.h, .int .i64 x.mn.v, .int .i64 x.mn.o, .int .i64 x.mn.g, .bool x.mx.h, .int .i64 x.mx.v, .int .i64 x.mx.o, .int .i64 x.mx.g] #[.string y.c.nm, .int .i64 y.c.ep, .int .i64 y.c.mr, .bool y.c.al, .int .i64 y.c.kd, .int .i64 y.c.sc, .bool y.h, .int .i64 y.i, .bool y.mn.h, .int .i64 y.mn.v, .int .i64 y.mn.o, .int .i64 y.mn.g, .bool y.mx.h, .int .i64 y.mx.v, .int .i64 y.mx.o, .int .i64 y.mx.g] hm
  have he := eql35 X x y
  unfold ST.val at hg he
  unfold execOp
  simp only [ho, hx, hy, ST.val, Sem.run_bind, hg, he, Result.andThen_ok, Sem.run_pure]
theorem neq35 (w : World) (x y : ST) : (binOp .neq 49 x.val y.val).run Tryz.prog w = .ok (.bool (!eqS x y)) w := by
  rw [show (binOp .neq 49 x.val y.val).run Tryz.prog w = _ from run_neq_struct ..]
  rw [show (10000 : Nat) = 9997 + 3 from rfl]
  have := eq35 w 9997 x y
  unfold ST.val at this
  rw [this]
  simp
theorem exec_neq35 {o : Oper} {ρ : Operand → Value} {p q : Operand} (ho : o.op = .binOp .neq 49 p q 49) (x y : ST) (hx : ρ p = x.val) (hy : ρ q = y.val) (X : World) : (execOp ρ o).run Tryz.prog X = .ok (.value (.bool (!eqS x y))) X := by
  have hm : Tryz.prog.eqGuardType Tryz.prog.depth 49 = false := by kernel_rfl
  have hg := run_eqGuard_agg (P := Tryz.prog) X .neq 49 p q #[.string x.c.nm, .int .i64 x.c.ep, .int .i64 x.c.mr, .bool x.c.al, .int .i64 x.c.kd, .int .i64 x.c.sc, .bool x.h, .int .i64 x.i, .bool x.mn.h, .int .i64 x.mn.v, .int .i64 x.mn.o, .int .i64 x.mn.g, .bool x.mx.h, .int .i64 x.mx.v, .int .i64 x.mx.o, .int .i64 x.mx.g] #[.string y.c.nm, .int .i64 y.c.ep, .int .i64 y.c.mr, .bool y.c.al, .int .i64 y.c.kd, .int .i64 y.c.sc, .bool y.h, .int .i64 y.i, .bool y.mn.h, .int .i64 y.mn.v, .int .i64 y.mn.o, .int .i64 y.mn.g, .bool y.mx.h, .int .i64 y.mx.v, .int .i64 y.mx.o, .int .i64 y.mx.g] hm
  have he := neq35 X x y
  unfold ST.val at hg he
  unfold execOp
  simp only [ho, hx, hy, ST.val, Sem.run_bind, hg, he, Result.andThen_ok, Sem.run_pure]
section
variable {ops : Array Oper} {rest : List Oper} {o : Oper} {A : Act} {W : World} {Q : Exit → Act → World → Prop}
theorem wpList_value (hgd : Region.wanted o (yielded ops A.tmps) = true) (v : Value) (hr : (execOp A.eval o).run Tryz.prog W = .ok (.value v) W) (H : wpList Tryz.prog ops Q rest (A.put o.dst v) W) : wpList Tryz.prog ops Q (o :: rest) A W := by
  unfold wpList
  rw [if_pos hgd]
  left
  unfold Oper.wp
  rw [hr]
  exact H
end
end Go.Proofs.YtoeebofappbneaaGreat

namespace Go.Proofs.YtoeebofappbneaaGreat
open Go.ChangeShapes Go.WideShapes Go.ChangeAt Go.RowKit Go.Maps Go.Shelf
set_option linter.unusedVariables false
set_option linter.unusedSimpArgs false

theorem rflow_any (n : Int) (w : World) : Calls Tryz.prog 22 #[.int .i64 n] w fun e w' => e = .returned (.bool (E.flowB n)) ∧ w' = w := by
  by_cases c : -2147483647 ≤ n
  · by_cases d : n ≤ 2147483647
    all_goals
      go_enter Tryz.func22, Tryz.ntmps22
      go_wp2
      go_ret
      exact ⟨ret_bool (by simp [E.flowB]; omega), rfl⟩
  · go_enter Tryz.func22, Tryz.ntmps22
    go_wp2
    go_ret
    exact ⟨ret_bool (by simp [E.flowB]; omega), rfl⟩
theorem nfits_any (n : Int) (w : World) : Calls Tryz.prog 82 #[.int .i64 n] w fun e w' => e = .returned (.bool (E.flowB n)) ∧ w' = w := by
  by_cases c : -2147483647 ≤ n
  · by_cases d : n ≤ 2147483647
    all_goals
      go_enter Tryz.func82, Tryz.ntmps82
      go_wp2
      go_ret
      exact ⟨ret_bool (by simp [E.flowB]; omega), rfl⟩
  · go_enter Tryz.func82, Tryz.ntmps82
    go_wp2
    go_ret
    exact ⟨ret_bool (by simp [E.flowB]; omega), rfl⟩
def flowsB (k : Int) : Bool := (k == 1) || ((k == 2) || (k == 3))
theorem flows_any (n : Int) (w : World) : Calls Tryz.prog 25 #[.int .i64 n] w fun e w' => e = .returned (.bool (flowsB n)) ∧ w' = w := by
  cases h1 : (n == 1) with
  | true =>
    go_enter Tryz.func25, Tryz.ntmps25
    go_wp2
    go_ret
    exact ⟨ret_bool (by unfold flowsB; rw [h1]; rfl), rfl⟩
  | false =>
    cases h2 : (n == 2) with
    | true =>
      go_enter Tryz.func25, Tryz.ntmps25
      go_wp2
      go_ret
      exact ⟨ret_bool (by unfold flowsB; rw [h1, h2]; rfl), rfl⟩
    | false =>
      cases h3 : (n == 3) with
      | true =>
        go_enter Tryz.func25, Tryz.ntmps25
        go_wp2
        go_ret
        exact ⟨ret_bool (by unfold flowsB; rw [h1, h2, h3]; rfl), rfl⟩
      | false =>
        go_enter Tryz.func25, Tryz.ntmps25
        go_wp2
        go_ret
        exact ⟨ret_bool (by unfold flowsB; rw [h1, h2, h3]; rfl), rfl⟩
theorem results_ctT {fn : Func} {p : Tmp} {t : TypeId} (h : fn.results = #[.cell p t]) (tmps : Array Value) (w : World) (g : Nat) (v : Value)
    (hp : tmps.getD p undef = .pointer (some ⟨g, 0, none⟩)) (h1 : (loadVar t ⟨g, 0, none⟩).run Tryz.prog w = .ok v w) :
    (results fn tmps).run Tryz.prog w = .ok v w := results_row1 h tmps w g v hp h1
set_option maxRecDepth 100000 in
set_option maxHeartbeats 4000000 in
theorem begun_any (nm : ByteArray) (ep mr : Int) (al : Bool) (kd sc : Int) (w : World) : Calls Tryz.prog 60 #[chv nm ep mr al kd sc] w fun e w' => e = .returned (ste nm ep mr al kd sc false 0 false 0 0 0 false 0 0 0) ∧ Below w.heap.size w w' := by
  have M := Mem.nil w
  go_enter Tryz.func60, Tryz.ntmps60
  go_wp2_with (first
      | ((with_reducible show wpList _ _ _ (Oper.mk (some 1) (Op.box 47 _) _ _ _ _ :: _) _ _); refine wpList_box M rfl _ rfl _ rfl ?_; clear M; intro k1 W M)
      | ((with_reducible show wpList _ _ _ (Oper.mk (some 2) (Op.alloc 49) _ _ _ _ :: _) _ _); refine wpList_alloc M rfl rfl rtT ?_; clear M; intro k2 W M)
      | ((with_reducible show wpList _ _ _ (Oper.mk _ (Op.load 47 _) _ _ _ _ :: _) _ _); refine wpList_load M (by rfl) _ rfl rt23 rfl (by first | exact .head _ | exact .tail _ (.head _)) (by rfl) ?_)
      | ((with_reducible show wpList _ _ _ (Oper.mk _ (Op.store 49 _ _) _ _ _ _ :: _) _ _); (first | (refine wpList_put M rfl _ _ rfl rtT 0 _ rfl rfl rfl rfl rfl (by simp [Value.oneCell']) ?_) | (refine wpList_put M rfl _ _ rfl rtT 1 _ rfl rfl rfl rfl rfl (by simp [Value.oneCell']) ?_)); clear M; intro W M; simp only [List.set_cons_zero, List.set_cons_succ] at M))
  exact bodyPost_ret (results_ctT rfl _ _ k2 _ rfl (load_row (M.get (.head _)) rtT rfl)) rfl ⟨rfl, M.below⟩
end Go.Proofs.YtoeebofappbneaaGreat

namespace Go.Proofs.YtoeebofappbneaaGreat
open Go.ChangeShapes Go.WideShapes Go.ChangeAt Go.RowKit Go.Maps Go.Shelf
set_option linter.unusedVariables false
set_option linter.unusedSimpArgs false

theorem okS_dead (s : ST) (ha : s.c.al = false) : eqS s (begs s.c) = okS s := by
  obtain ⟨c, h, i, a, b⟩ := s
  unfold okS eqS begs
  dsimp only at ha ⊢
  rw [if_neg (by rw [ha]; decide), eqC_self]
  cases h <;> simp
set_option maxRecDepth 100000 in
set_option maxHeartbeats 4000000 in
theorem fits_one (nm : ByteArray) (ep mr : Int) (al : Bool) (kd sc : Int) (hv : Bool) (iv : Int) (h1 : Bool) (v1 o1 g1 : Int) (h2 : Bool) (v2 o2 g2 : Int) (w : World) : Calls Tryz.prog 47 #[ste nm ep mr al kd sc hv iv h1 v1 o1 g1 h2 v2 o2 g2] w fun e w' => e = .returned (.bool (okS ⟨⟨nm, ep, mr, al, kd, sc⟩, hv, iv, ⟨h1, v1, o1, g1⟩, ⟨h2, v2, o2, g2⟩⟩)) ∧ Below w.heap.size w w' := by
  have M := Mem.nil w
  cases al with
  | false =>
    obtain ⟨e0, he0⟩ : ∃ e0, okS ⟨⟨nm, ep, mr, false, kd, sc⟩, hv, iv, ⟨h1, v1, o1, g1⟩, ⟨h2, v2, o2, g2⟩⟩ = e0 := ⟨_, rfl⟩
    have HE0 : Hid (eqS ⟨⟨nm, ep, mr, false, kd, sc⟩, hv, iv, ⟨h1, v1, o1, g1⟩, ⟨h2, v2, o2, g2⟩⟩ (begs ⟨nm, ep, mr, false, kd, sc⟩) = e0) := (okS_dead _ rfl).trans he0
    rw [he0]
    clear he0
    go_enter Tryz.func47, Tryz.ntmps47
    go_wp2_with (first
      | ((with_reducible show wpList _ _ _ (Oper.mk (some 1) (Op.box 49 _) _ _ _ _ :: _) _ _); refine wpList_box M rfl _ rfl _ rfl ?_; clear M; intro k1 W M)
      | ((with_reducible show wpList _ _ _ (Oper.mk _ (Op.load 4 _) _ _ _ _ :: _) _ _); refine wpList_cell4 M (by rfl) _ rfl _ rfl (by first | exact .head _) rfl ?_)
      | fail)
    refine wp_region_any (by kernel_rfl) ?_
    change wpAny _ _ _ _ _ _ _ (World.drew _)
    refine wpAny_narrow (fun W' => Mem w W' [(k1, stc nm ep mr false kd sc hv iv h1 v1 o1 g1 h2 v2 o2 g2, 49)]) _ _ _ _ ?_
    replace M := M.drew
    revert M
    generalize World.drew _ = WD
    intro M
    refine anyH_take 0 9 (ste nm ep mr false kd sc hv iv h1 v1 o1 g1 h2 v2 o2 g2) rfl rfl (by kernel_rfl) (by kernel_rfl) (by kernel_rfl) (fun _ _ _ h => h) (Or.inl ⟨by rfl, fun X hSw => exec_loadr rfl rtT rfl (hSw.get (.head _)) rfl⟩) (M) ?_
    try simp only [Act.put, List.setIfInBounds_toArray, List.set_cons_zero, List.set_cons_succ]
    refine anyH_take 1 10 (.pointer (some ⟨k1, 0, none⟩)) rfl rfl (by kernel_rfl) (by kernel_rfl) (by kernel_rfl) (fun _ _ _ h => h) (Or.inl ⟨by rfl, by intro w hSw; go_simp⟩) (M) ?_
    try simp only [Act.put, List.setIfInBounds_toArray, List.set_cons_zero, List.set_cons_succ]
    refine anyH_take 2 11 (chv nm ep mr false kd sc) rfl rfl (by kernel_rfl) (by kernel_rfl) (by kernel_rfl) (fun _ _ _ h => h) (Or.inl ⟨by rfl, fun X hSw => exec_loadp rfl rt23 _ rfl (hSw.get (.head _)) (by rfl) (by rfl)⟩) (M) ?_
    try simp only [Act.put, List.setIfInBounds_toArray, List.set_cons_zero, List.set_cons_succ]
    refine wpAnyH_ready (rs := [3]) (by kernel_rfl) (by simp) ?_
    refine AllReadyH.cons rfl (fun K hK => ?_) AllReadyH.nil
    go_simp
    go_wp2_with (go_at_call 60; refine (begun_any nm ep mr false kd sc _).mono ?_; rintro e W1 ⟨rfl, b1⟩; replace M := M.later b1; clear b1)
    refine hK.out _ _ (M) (fun hS => ?_)
    clear hK
    refine anyH_take 4 13 (.bool e0) rfl rfl (by kernel_rfl) (by kernel_rfl) (by kernel_rfl) (fun _ _ _ h => h) (Or.inl ⟨by rfl, fun X hSw => (exec_eql35 rfl ⟨⟨nm, ep, mr, false, kd, sc⟩, hv, iv, ⟨h1, v1, o1, g1⟩, ⟨h2, v2, o2, g2⟩⟩ (begs ⟨nm, ep, mr, false, kd, sc⟩) rfl rfl X).trans (by rw [HE0.out])⟩) (M) ?_
    try simp only [Act.put, List.setIfInBounds_toArray, List.set_cons_zero, List.set_cons_succ]
    refine anyH_take 5 2 (.bool e0) rfl rfl (by kernel_rfl) (by kernel_rfl) (by kernel_rfl) (fun _ _ _ h => h) (Or.inl ⟨by rfl, by intro w hSw; go_simp⟩) (M) ?_
    try simp only [Act.put, List.setIfInBounds_toArray, List.set_cons_zero, List.set_cons_succ]
    refine wpAnyH_done (by kernel_rfl) ?_ _
    go_wp2
    go_ret
    exact ⟨rfl, M.below⟩
  | true =>
    obtain ⟨e1, he1⟩ : ∃ e1, E.sameX ⟨h1, v1, o1, g1⟩ E.EX.z = e1 := ⟨_, rfl⟩
    obtain ⟨e2, he2⟩ : ∃ e2, E.sameX ⟨h2, v2, o2, g2⟩ E.EX.z = e2 := ⟨_, rfl⟩
    obtain ⟨f1, hf1⟩ : ∃ f1, E.fitB ⟨h1, v1, o1, g1⟩ = f1 := ⟨_, rfl⟩
    obtain ⟨f2, hf2⟩ : ∃ f2, E.fitB ⟨h2, v2, o2, g2⟩ = f2 := ⟨_, rfl⟩
    obtain ⟨f0, hf0⟩ : ∃ f0, E.flowB iv = f0 := ⟨_, rfl⟩
    have HE1 : Hid (E.sameX ⟨h1, v1, o1, g1⟩ E.EX.z = e1) := he1
    have HE2 : Hid (E.sameX ⟨h2, v2, o2, g2⟩ E.EX.z = e2) := he2
    have K0 : ∀ W, Calls Tryz.prog 82 #[.int .i64 iv] W fun e w' => e = .returned (.bool f0) ∧ w' = W := fun W => by rw [← hf0]; exact nfits_any iv W
    have K1 : ∀ W, Calls Tryz.prog 83 #[exv h1 v1 o1 g1] W fun e w' => e = .returned (.bool f1) ∧ Below W.heap.size W w' := fun W => by rw [← hf1]; exact E.fit_any h1 v1 o1 g1 W
    have K2 : ∀ W, Calls Tryz.prog 83 #[exv h2 v2 o2 g2] W fun e w' => e = .returned (.bool f2) ∧ Below W.heap.size W w' := fun W => by rw [← hf2]; exact E.fit_any h2 v2 o2 g2 W
    have HO : Hid (okS ⟨⟨nm, ep, mr, true, kd, sc⟩, hv, iv, ⟨h1, v1, o1, g1⟩, ⟨h2, v2, o2, g2⟩⟩ = ((hv || (iv == 0)) && (f0 && (if kd = 4 then f1 && f2 else e1 && e2)))) := by
      show _ = _
      rw [ok_live rfl, ← hf0, ← hf1, ← hf2, ← he1, ← he2]
    obtain ⟨OK, hok⟩ : ∃ OK, okS ⟨⟨nm, ep, mr, true, kd, sc⟩, hv, iv, ⟨h1, v1, o1, g1⟩, ⟨h2, v2, o2, g2⟩⟩ = OK := ⟨_, rfl⟩
    rw [hok]
    have HR : Hid (OK = ((hv || (iv == 0)) && (f0 && (if kd = 4 then f1 && f2 else e1 && e2)))) := hok.symm.trans HO.out
    clear he1 he2 hf1 hf2 hf0 hok HO
    by_cases hb : (hv || (iv == 0)) = false
    case pos =>
      have hhv : hv = false := by cases hv <;> simp_all
      subst hhv
      have hiv : (iv != 0) = true := by simpa using hb
      have HB : Hid ((false || (iv == 0)) = false) := hb
      clear hb
      go_enter Tryz.func47, Tryz.ntmps47
      go_wp2_with (first
      | ((with_reducible show wpList _ _ _ (Oper.mk (some 1) (Op.box 49 _) _ _ _ _ :: _) _ _); refine wpList_box M rfl _ rfl _ rfl ?_; clear M; intro k1 W M)
      | ((with_reducible show wpList _ _ _ (Oper.mk _ (Op.load 4 _) _ _ _ _ :: _) _ _); refine wpList_cell4 M (by rfl) _ rfl _ rfl (by first | exact .head _ | exact .tail _ (.head _)) rfl ?_)
      | ((with_reducible show wpList _ _ _ (Oper.mk _ (Op.load 2 _) _ _ _ _ :: _) _ _); refine wpList_cell2 M (by rfl) _ rfl _ rfl (by first | exact .head _ | exact .tail _ (.head _)) rfl ?_)
      | ((with_reducible show wpList _ _ _ (Oper.mk _ (Op.load 3 _) _ _ _ _ :: _) _ _); refine wpList_cell3 M (by rfl) _ rfl _ rfl (by first | exact .head _ | exact .tail _ (.head _)) rfl ?_))
      go_ret
      exact ⟨ret_bool (by rw [HR.out, HB.out]; rfl), M.below⟩
    case neg =>
    have hb' : (hv || (iv == 0)) = true := (Bool.eq_false_or_eq_true _).resolve_right hb
    have HB : Hid ((hv || (iv == 0)) = true) := hb'
    have hiv : hv = false → (iv != 0) = false := fun e => by subst e; simpa using hb'
    clear hb hb'
    cases f0 with
    | false =>
      have HF : Hid (OK = false) := by show _ = _; rw [HR.out]; simp
      clear HR
      cases hv with
      | false =>
        have hiv2 := hiv rfl
        clear hiv
        go_enter Tryz.func47, Tryz.ntmps47
        go_wp2_with (first
      | ((with_reducible show wpList _ _ _ (Oper.mk (some 1) (Op.box 49 _) _ _ _ _ :: _) _ _); refine wpList_box M rfl _ rfl _ rfl ?_; clear M; intro k1 W M)
      | ((with_reducible show wpList _ _ _ (Oper.mk _ (Op.load 4 _) _ _ _ _ :: _) _ _); refine wpList_cell4 M (by rfl) _ rfl _ rfl (by first | exact .head _ | exact .tail _ (.head _)) rfl ?_)
      | ((with_reducible show wpList _ _ _ (Oper.mk _ (Op.load 2 _) _ _ _ _ :: _) _ _); refine wpList_cell2 M (by rfl) _ rfl _ rfl (by first | exact .head _ | exact .tail _ (.head _)) rfl ?_)
      | ((with_reducible show wpList _ _ _ (Oper.mk _ (Op.load 3 _) _ _ _ _ :: _) _ _); refine wpList_cell3 M (by rfl) _ rfl _ rfl (by first | exact .head _ | exact .tail _ (.head _)) rfl ?_)
      | (go_at_call 82; refine (K0 _).mono ?_; rintro e W2 ⟨rfl, rfl⟩))
        go_ret
        exact ⟨ret_bool HF.out.symm, M.below⟩
      | true =>
        clear hiv
        go_enter Tryz.func47, Tryz.ntmps47
        go_wp2_with (first
      | ((with_reducible show wpList _ _ _ (Oper.mk (some 1) (Op.box 49 _) _ _ _ _ :: _) _ _); refine wpList_box M rfl _ rfl _ rfl ?_; clear M; intro k1 W M)
      | ((with_reducible show wpList _ _ _ (Oper.mk _ (Op.load 4 _) _ _ _ _ :: _) _ _); refine wpList_cell4 M (by rfl) _ rfl _ rfl (by first | exact .head _ | exact .tail _ (.head _)) rfl ?_)
      | ((with_reducible show wpList _ _ _ (Oper.mk _ (Op.load 2 _) _ _ _ _ :: _) _ _); refine wpList_cell2 M (by rfl) _ rfl _ rfl (by first | exact .head _ | exact .tail _ (.head _)) rfl ?_)
      | ((with_reducible show wpList _ _ _ (Oper.mk _ (Op.load 3 _) _ _ _ _ :: _) _ _); refine wpList_cell3 M (by rfl) _ rfl _ rfl (by first | exact .head _ | exact .tail _ (.head _)) rfl ?_)
      | (go_at_call 82; refine (K0 _).mono ?_; rintro e W2 ⟨rfl, rfl⟩))
        go_ret
        exact ⟨ret_bool HF.out.symm, M.below⟩
    | true =>
    have HQ : Hid (OK = (if kd = 4 then f1 && f2 else e1 && e2)) := by show _ = _; rw [HR.out, HB.out]; rfl
    clear HR
    by_cases hk : kd = 4
    case pos =>
      subst hk
      have HQ2 : Hid (OK = (f1 && f2)) := HQ.out.trans (if_pos rfl)
      clear HQ
      cases f1 <;> cases hv
      all_goals
        first
        | (have hiv2 := hiv rfl; clear hiv)
        | clear hiv
        go_enter Tryz.func47, Tryz.ntmps47
        go_wp2_with (first
      | ((with_reducible show wpList _ _ _ (Oper.mk (some 1) (Op.box 49 _) _ _ _ _ :: _) _ _); refine wpList_box M rfl _ rfl _ rfl ?_; clear M; intro k1 W M)
      | ((with_reducible show wpList _ _ _ (Oper.mk _ (Op.load 4 _) _ _ _ _ :: _) _ _); refine wpList_cell4 M (by rfl) _ rfl _ rfl (by first | exact .head _ | exact .tail _ (.head _)) rfl ?_)
      | ((with_reducible show wpList _ _ _ (Oper.mk _ (Op.load 2 _) _ _ _ _ :: _) _ _); refine wpList_cell2 M (by rfl) _ rfl _ rfl (by first | exact .head _ | exact .tail _ (.head _)) rfl ?_)
      | ((with_reducible show wpList _ _ _ (Oper.mk _ (Op.load 3 _) _ _ _ _ :: _) _ _); refine wpList_cell3 M (by rfl) _ rfl _ rfl (by first | exact .head _ | exact .tail _ (.head _)) rfl ?_)
      | (go_at_call 82; refine (K0 _).mono ?_; rintro e W2 ⟨rfl, rfl⟩)
      | ((with_reducible show wpList _ _ _ (Oper.mk _ (Op.load 38 (Operand.tmp 32)) _ _ _ _ :: _) _ _); refine wpList_loadp M (by rfl) _ rfl rtX _ rfl (by first | exact .head _) (by rfl) (by rfl) ?_)
      | ((with_reducible show wpList _ _ _ (Oper.mk _ (Op.load 38 (Operand.tmp 36)) _ _ _ _ :: _) _ _); refine wpList_loadp M (by rfl) _ rfl rtX _ rfl (by first | exact .head _) (by rfl) (by rfl) ?_)
      | (go_at_call 83; refine (K1 _).mono ?_; clear K1; rintro e W2 ⟨rfl, b1⟩; replace M := M.later b1; clear b1)
      | (go_at_call 83; refine (K2 _).mono ?_; clear K2; rintro e W2 ⟨rfl, b1⟩; replace M := M.later b1; clear b1))
        go_ret
        exact ⟨ret_bool (by rw [HQ2.out]; first | rfl | simp), M.below⟩
    case neg =>
      have HQ2 : Hid (OK = (e1 && e2)) := HQ.out.trans (if_neg hk)
      have hk2 : (kd == 4) = false := by simpa using hk
      clear HQ hk
      cases e1 <;> cases hv
      all_goals
        first
        | (have hiv2 := hiv rfl; clear hiv)
        | clear hiv
        go_enter Tryz.func47, Tryz.ntmps47
        go_wp2_with (first
      | ((with_reducible show wpList _ _ _ (Oper.mk (some 1) (Op.box 49 _) _ _ _ _ :: _) _ _); refine wpList_box M rfl _ rfl _ rfl ?_; clear M; intro k1 W M)
      | ((with_reducible show wpList _ _ _ (Oper.mk _ (Op.load 4 _) _ _ _ _ :: _) _ _); refine wpList_cell4 M (by rfl) _ rfl _ rfl (by first | exact .head _ | exact .tail _ (.head _)) rfl ?_)
      | ((with_reducible show wpList _ _ _ (Oper.mk _ (Op.load 2 _) _ _ _ _ :: _) _ _); refine wpList_cell2 M (by rfl) _ rfl _ rfl (by first | exact .head _ | exact .tail _ (.head _)) rfl ?_)
      | ((with_reducible show wpList _ _ _ (Oper.mk _ (Op.load 3 _) _ _ _ _ :: _) _ _); refine wpList_cell3 M (by rfl) _ rfl _ rfl (by first | exact .head _ | exact .tail _ (.head _)) rfl ?_)
      | (go_at_call 82; refine (K0 _).mono ?_; rintro e W2 ⟨rfl, rfl⟩)
      | ((with_reducible show wpList _ _ _ (Oper.mk (some 3) (Op.alloc 38) _ _ _ _ :: _) _ _); refine wpList_alloc M rfl rfl rtX ?_; clear M; intro k3 W M)
      | ((with_reducible show wpList _ _ _ (Oper.mk _ (Op.store 38 _ _) _ _ _ _ :: _) _ _); (first | (refine wpList_put M rfl _ _ rfl rtX 0 _ rfl rfl rfl rfl rfl (by simp [Value.oneCell']) ?_) | (refine wpList_put M rfl _ _ rfl rtX 1 _ rfl rfl rfl rfl rfl (by simp [Value.oneCell']) ?_)); clear M; intro W M; simp only [List.set_cons_zero, List.set_cons_succ] at M)
      | ((with_reducible show wpList _ _ _ (Oper.mk _ (Op.load 38 (Operand.tmp 41)) _ _ _ _ :: _) _ _); refine wpList_loadp M (by rfl) _ rfl rtX _ rfl (by first | exact .head _ | exact .tail _ (.head _)) (by rfl) (by rfl) ?_)
      | ((with_reducible show wpList _ _ _ (Oper.mk _ (Op.load 38 (Operand.tmp 46)) _ _ _ _ :: _) _ _); refine wpList_loadp M (by rfl) _ rfl rtX _ rfl (by first | exact .head _ | exact .tail _ (.head _)) (by rfl) (by rfl) ?_)
      | ((with_reducible show wpList _ _ _ (Oper.mk _ (Op.load 38 (Operand.tmp 3)) _ _ _ _ :: _) _ _); refine wpList_load M (by rfl) _ rfl rtX rfl (by first | exact .head _ | exact .tail _ (.head _)) (by rfl) ?_)
      | ((with_reducible show wpList _ _ _ (Oper.mk _ (Op.binOp BinOp.eql 38 _ _ 38) _ _ _ _ :: _) _ _); refine wpList_value (by first | rfl | go_simp) _ ((E.exec_eql23 rfl ⟨h1, v1, o1, g1⟩ E.EX.z rfl rfl _).trans (congrArg (fun b => Result.ok (Next.value (Value.bool b)) _) HE1.out)) ?_)
      | ((with_reducible show wpList _ _ _ (Oper.mk _ (Op.binOp BinOp.eql 38 _ _ 38) _ _ _ _ :: _) _ _); refine wpList_value (by first | rfl | go_simp) _ ((E.exec_eql23 rfl ⟨h2, v2, o2, g2⟩ E.EX.z rfl rfl _).trans (congrArg (fun b => Result.ok (Next.value (Value.bool b)) _) HE2.out)) ?_))
        go_ret
        exact ⟨ret_bool (by rw [HQ2.out]; first | rfl | simp), M.below⟩
end Go.Proofs.YtoeebofappbneaaGreat

namespace Go.Proofs.YtoeebofappbneaaGreat
open Go.ChangeShapes Go.WideShapes Go.ChangeAt Go.RowKit Go.Maps Go.Shelf
set_option linter.unusedVariables false
set_option linter.unusedSimpArgs false

set_option maxHeartbeats 4000000 in
theorem copy_any (a : Option Addr) (cap : Nat) (l : List ST) (w : World) (hr : RdT w a l.length cap l) : Calls Tryz.prog 28 #[.slice a l.length cap] w (AnsT w l) := by
  go_enter Tryz.func28, Tryz.ntmps28
  go_wp2_with ((with_reducible show wpList _ _ _ (Oper.mk _ (Op.call { callee := Callee.builtin Builtin.append, args := _, argTypes := #[22, 22] }) _ _ _ _ :: _) _ _); go_must (refine wpList_copy_lstT rfl _ _ rfl rfl rfl hr ?_; intro a1 c1 w1 L1 o1 b1))
  go_ret
  exact ⟨a1, c1, rfl, L1, o1, b1⟩
set_option maxHeartbeats 4000000 in
theorem rcopy_any (a : Option Addr) (cap : Nat) (l : List ST) (w : World) (hr : RdT w a l.length cap l) : Calls Tryz.prog 7 #[.slice a l.length cap] w (AnsT w l) := by
  go_enter Tryz.func7, Tryz.ntmps7
  go_wp2_with ((with_reducible show wpList _ _ _ (Oper.mk _ (Op.call { callee := Callee.builtin Builtin.append, args := _, argTypes := #[22, 22] }) _ _ _ _ :: _) _ _); go_must (refine wpList_copy_lstT rfl _ _ rfl rfl rfl hr ?_; intro a1 c1 w1 L1 o1 b1))
  go_ret
  exact ⟨a1, c1, rfl, L1, o1, b1⟩
theorem recs_step {l : List ST} {i : Nat} {x : ST} (h : l[i]? = some x) : recs (l.take (i + 1)) = recs (l.take i) ++ [x.c] := by
  unfold recs
  rw [List.take_add_one, h, List.map_append]
  rfl
theorem recs_take (l : List ST) (i : Nat) (h : i ≤ l.length) : (recs (l.take i)).length = i := by
  rw [recs_len, List.length_take]
  omega
set_option maxRecDepth 100000 in
set_option maxHeartbeats 4000000 in
theorem records_any (a : Option Addr) (n cap : Nat) (l : List ST) (w : World) (hr : RdT w a n cap l) : Calls Tryz.prog 27 #[.slice a n cap] w (Ans w (recs l)) := by
  have HN : Hid (n * 136 ≤ 140737488355328) := hr.max
  have HL : Hid (l.length = n) := hr.size
  obtain ⟨L, hL⟩ : ∃ L, recs l = L := ⟨_, rfl⟩
  rw [hL]
  have HLL : Hid (recs l = L) := hL
  clear hL
  go_enter Tryz.func27, Tryz.ntmps27
  go_wp2
  go_loopg [3, 5, 8] n (fun gk v3 v5 v8 wr => ∃ (i : Nat) (v : Value), v = v3 ∧ v8 = .int .i64 (i : Int) ∧ i + gk = n ∧ Mem w wr [] ∧ wr.ownsRow w.heap.size 47 6 v i (csC (recs (l.take i))))
  case atStart => exact ⟨0, _, rfl, by first | rfl | go_num, by omega, Mem.nil w, World.ownsRow_nil _ _ _ _⟩
  case round =>
    obtain ⟨i, v, rfl, rfl, hgk, M0, O⟩ := hrel
    obtain ⟨av, cv, rfl⟩ : ∃ av cv, v = .slice av i cv := by
      rcases O.2 with ⟨e, h0⟩ | ⟨g, cp, cur, e, _⟩
      · exact ⟨_, _, by rw [e, h0]⟩
      · exact ⟨_, _, e⟩
    by_cases hi : i < n
    case pos =>
      have HI : Hid (i < n) := hi
      have HIK : Hid ((i + 1) * 56 ≤ 140737488355328) := by show _ ≤ _; have := HN.out; omega
      have hiI : (i : Int) < (n : Int) := by omega
      have hwr : IntKind.i64.wrap ((i : Int) + 1) = (i : Int) + 1 := by rw [IntKind.wrap_i64]; have := HN.out; omega
      obtain ⟨b, off, rfl, hb1, hd, hra⟩ := hr.at i hi
      obtain ⟨⟨⟨nm, ep, mr, al, kd, sc⟩, hv, iv, ⟨h1, v1, o1, g1⟩, ⟨h2, v2, o2, g2⟩⟩, hri⟩ : ∃ r, l.getD i ST.z = r := ⟨_, rfl⟩
      rw [hri] at hra hd
      have HX : Hid (recs (l.take (i + 1)) = recs (l.take i) ++ [⟨nm, ep, mr, al, kd, sc⟩]) := recs_step hd
      have KR : ∀ X, Below w.heap.size w X → X.rangeAt b (off + i * 16) (ST.cells ⟨⟨nm, ep, mr, al, kd, sc⟩, hv, iv, ⟨h1, v1, o1, g1⟩, ⟨h2, v2, o2, g2⟩⟩) := fun X h => range_later hra hb1 h
      obtain ⟨ds, hds⟩ : ∃ ds, recs (l.take i) = ds := ⟨_, rfl⟩
      rw [hds] at O HX
      clear hri hd hi hra hds
      have M := M0.own O (fun g hg p hp => by cases hp)
      go_wp2_with (first
      | ((with_reducible show wpList _ _ _ (Oper.mk _ (Op.load 49 (Operand.tmp 10)) _ _ _ _ :: _) _ _); refine wpList_load35w (by rfl) _ rfl b (off + i * 16) nm ep mr al kd sc hv iv h1 v1 o1 g1 h2 v2 o2 g2 rfl (KR _ (M0.back M).below) ?_)
      | ((with_reducible show wpList _ _ _ (Oper.mk (some 5) (Op.alloc 49) _ _ _ _ :: _) _ _); refine wpList_alloc M rfl rfl rtT ?_; clear M; intro k5 W M)
      | ((with_reducible show wpList _ _ _ (Oper.mk _ (Op.store 49 _ _) _ _ _ _ :: _) _ _); (first | (refine wpList_put M rfl _ _ rfl rtT 0 _ rfl rfl rfl rfl rfl (by simp [Value.oneCell']) ?_)); clear M; intro W M; simp only [List.set_cons_zero, List.set_cons_succ] at M)
      | ((with_reducible show wpList _ _ _ (Oper.mk _ (Op.load 47 (Operand.tmp 13)) _ _ _ _ :: _) _ _); refine wpList_loadp M (by rfl) _ rfl rt23 _ rfl (by first | exact .head _) (by rfl) (by rfl) ?_)
      | ((with_reducible show wpList _ _ _ (Oper.mk _ (Op.buildSlice 44 1 _) _ _ _ _ :: _) _ _); refine wpList_mk1 M rfl _ rfl nm ep mr al kd sc rfl ?_; clear M; intro q W M)
      | ((with_reducible show wpList _ _ _ (Oper.mk _ (Op.call { callee := Callee.builtin Builtin.append, args := _, argTypes := #[44, 44] }) _ _ _ _ :: _) _ _); refine wpList_appC M O rfl _ _ rfl rfl rfl HIK.out ?_; clear M; intro g cp W M1 O1 N1))
      go_roundg (gk - 1)
      case measure => have := HI.out; omega
      case rel =>
        exact ⟨i + 1, _, rfl, by first | rfl | go_num, by have := HI.out; omega, M0.back (M1.tail), by rw [HX.out, csC_snoc]; exact O1⟩
    case neg =>
      have hiI : ¬ (i : Int) < (n : Int) := by omega
      have hin : i = n := by omega
      have HF : Hid (recs (l.take n) = recs l) := by show _ = _; rw [List.take_of_length_le (by have := HL.out; omega)]
      rw [hin, HF.out] at O
      have B := M0.below
      have hll : L.length = n := by rw [← HLL.out, recs_len]; exact HL.out
      rw [HLL.out] at O
      subst hll
      have hiN : i = L.length := hin
      clear hin hi hgk HF HL HN hr
      subst hiN
      go_wp2
      go_ret
      obtain ⟨a2, c2, e2, L2, h2⟩ := own_lstC O rfl
      cases e2
      exact ⟨_, _, rfl, L2, h2, B⟩
set_option maxRecDepth 100000 in
set_option maxHeartbeats 4000000 in
theorem rrecords_any (a : Option Addr) (n cap : Nat) (l : List ST) (w : World) (hr : RdT w a n cap l) : Calls Tryz.prog 21 #[.slice a n cap] w (Ans w (recs l)) := by
  have HN : Hid (n * 136 ≤ 140737488355328) := hr.max
  have HL : Hid (l.length = n) := hr.size
  obtain ⟨L, hL⟩ : ∃ L, recs l = L := ⟨_, rfl⟩
  rw [hL]
  have HLL : Hid (recs l = L) := hL
  clear hL
  go_enter Tryz.func21, Tryz.ntmps21
  go_wp2
  go_loopg [3, 4] n (fun gk v3 v4 wr => ∃ (i : Nat) (v : Value), v = v3 ∧ v4 = .int .i64 (i : Int) ∧ i + gk = n ∧ Mem w wr [] ∧ wr.ownsRow w.heap.size 47 6 v i (csC (recs (l.take i))))
  case atStart => exact ⟨0, _, rfl, by first | rfl | go_num, by omega, Mem.nil w, World.ownsRow_nil _ _ _ _⟩
  case round =>
    obtain ⟨i, v, rfl, rfl, hgk, M0, O⟩ := hrel
    obtain ⟨av, cv, rfl⟩ : ∃ av cv, v = .slice av i cv := by
      rcases O.2 with ⟨e, h0⟩ | ⟨g, cp, cur, e, _⟩
      · exact ⟨_, _, by rw [e, h0]⟩
      · exact ⟨_, _, e⟩
    by_cases hi : i < n
    case pos =>
      have HI : Hid (i < n) := hi
      have HIK : Hid ((i + 1) * 56 ≤ 140737488355328) := by show _ ≤ _; have := HN.out; omega
      have hiI : (i : Int) < (n : Int) := by omega
      have hwr : IntKind.i64.wrap ((i : Int) + 1) = (i : Int) + 1 := by rw [IntKind.wrap_i64]; have := HN.out; omega
      obtain ⟨b, off, rfl, hb1, hd, hra⟩ := hr.at i hi
      obtain ⟨⟨⟨nm, ep, mr, al, kd, sc⟩, hv, iv, ⟨h1, v1, o1, g1⟩, ⟨h2, v2, o2, g2⟩⟩, hri⟩ : ∃ r, l.getD i ST.z = r := ⟨_, rfl⟩
      rw [hri] at hra hd
      have HX : Hid (recs (l.take (i + 1)) = recs (l.take i) ++ [⟨nm, ep, mr, al, kd, sc⟩]) := recs_step hd
      have KR : ∀ X, Below w.heap.size w X → X.rangeAt b (off + i * 16) (ST.cells ⟨⟨nm, ep, mr, al, kd, sc⟩, hv, iv, ⟨h1, v1, o1, g1⟩, ⟨h2, v2, o2, g2⟩⟩) := fun X h => range_later hra hb1 h
      obtain ⟨ds, hds⟩ : ∃ ds, recs (l.take i) = ds := ⟨_, rfl⟩
      rw [hds] at O HX
      clear hri hd hi hra hds
      have M := M0.own O (fun g hg p hp => by cases hp)
      go_wp2_with (first
      | ((with_reducible show wpList _ _ _ (Oper.mk _ (Op.load 47 (Operand.tmp 15)) _ _ _ _ :: _) _ _); refine wpList_load23w (by rfl) _ rfl b (off + i * 16) nm ep mr al kd sc rfl (rng_ch (KR _ (M0.back M).below)) ?_)
      | ((with_reducible show wpList _ _ _ (Oper.mk _ (Op.buildSlice 44 1 _) _ _ _ _ :: _) _ _); refine wpList_mk1 M rfl _ rfl nm ep mr al kd sc rfl ?_; clear M; intro q W M)
      | ((with_reducible show wpList _ _ _ (Oper.mk _ (Op.call { callee := Callee.builtin Builtin.append, args := _, argTypes := #[44, 44] }) _ _ _ _ :: _) _ _); refine wpList_appC M O rfl _ _ rfl rfl rfl HIK.out ?_; clear M; intro g cp W M1 O1 N1))
      go_roundg (gk - 1)
      case measure => have := HI.out; omega
      case rel =>
        exact ⟨i + 1, _, rfl, by first | rfl | go_num, by have := HI.out; omega, M0.back (M1), by rw [HX.out, csC_snoc]; exact O1⟩
    case neg =>
      have hiI : ¬ (i : Int) < (n : Int) := by omega
      have hin : i = n := by omega
      have HF : Hid (recs (l.take n) = recs l) := by show _ = _; rw [List.take_of_length_le (by have := HL.out; omega)]
      rw [hin, HF.out] at O
      have B := M0.below
      have hll : L.length = n := by rw [← HLL.out, recs_len]; exact HL.out
      rw [HLL.out] at O
      subst hll
      have hiN : i = L.length := hin
      clear hin hi hgk HF HL HN hr
      subst hiN
      go_wp2
      go_ret
      obtain ⟨a2, c2, e2, L2, h2⟩ := own_lstC O rfl
      cases e2
      exact ⟨_, _, rfl, L2, h2, B⟩
end Go.Proofs.YtoeebofappbneaaGreat

namespace Go.Proofs.YtoeebofappbneaaGreat
open Go.ChangeShapes Go.WideShapes Go.ChangeAt Go.RowKit Go.Maps Go.Shelf
set_option linter.unusedVariables false
set_option linter.unusedSimpArgs false

section
variable {ops : Array Oper} {rest : List Oper} {o : Oper} {A : Act} {W : World} {Q : Exit → Act → World → Prop}
theorem wpList_cell9w (hgd : Region.wanted o (yielded ops A.tmps) = true) (x : Operand) (ho : o.op = .load 9 x) {a : Addr} (s : ByteArray) (hx : A.eval x = .pointer (some a)) (hc : W.cell? a = some (.string s))
    (H : wpList Tryz.prog ops Q rest (A.put o.dst (.string s)) W) : wpList Tryz.prog ops Q (o :: rest) A W := by
  unfold wpList
  rw [if_pos hgd]
  left
  unfold Oper.wp execOp
  simp only [ho, hx]
  go_simp
  exact H
end
theorem isP_yes (nm : ByteArray) (ep mr : Int) (al : Bool) (kd sc : Int) (hv : Bool) (iv : Int) (h1 : Bool) (v1 o1 g1 : Int) (h2 : Bool) (v2 o2 g2 : Int) (name : ByteArray) (h : (nm.toList == name.toList) = true) : isP name ⟨⟨nm, ep, mr, al, kd, sc⟩, hv, iv, ⟨h1, v1, o1, g1⟩, ⟨h2, v2, o2, g2⟩⟩ = al := by unfold isP eqN; rw [h]; rfl
theorem isP_nope (nm : ByteArray) (ep mr : Int) (al : Bool) (kd sc : Int) (hv : Bool) (iv : Int) (h1 : Bool) (v1 o1 g1 : Int) (h2 : Bool) (v2 o2 g2 : Int) (name : ByteArray) (h : (nm.toList == name.toList) = false) : isP name ⟨⟨nm, ep, mr, al, kd, sc⟩, hv, iv, ⟨h1, v1, o1, g1⟩, ⟨h2, v2, o2, g2⟩⟩ = false := by unfold isP eqN; rw [h]; rfl
set_option maxRecDepth 100000 in
set_option maxHeartbeats 4000000 in
theorem isP_any (nm : ByteArray) (ep mr : Int) (al : Bool) (kd sc : Int) (hv : Bool) (iv : Int) (h1 : Bool) (v1 o1 g1 : Int) (h2 : Bool) (v2 o2 g2 : Int) (name : ByteArray) (k : Nat) (w : World) (H : w.heap[k]? = some (.cells #[.string name] 9 (0, 0))) : Calls Tryz.prog 67 #[ste nm ep mr al kd sc hv iv h1 v1 o1 g1 h2 v2 o2 g2, .pointer (some ⟨k, 0, none⟩)] w fun e w' => e = .returned (.bool (isP name ⟨⟨nm, ep, mr, al, kd, sc⟩, hv, iv, ⟨h1, v1, o1, g1⟩, ⟨h2, v2, o2, g2⟩⟩)) ∧ Below w.heap.size w w' := by
  have M := Mem.nil w
  have KN : ∀ W, Below w.heap.size w W → W.cell? ⟨k, 0, none⟩ = some (.string name) := fun W b => row_cell ((b.block k (row_lt H)).trans H) 0 _ rfl
  clear H
  obtain ⟨R, hR⟩ : ∃ R, isP name ⟨⟨nm, ep, mr, al, kd, sc⟩, hv, iv, ⟨h1, v1, o1, g1⟩, ⟨h2, v2, o2, g2⟩⟩ = R := ⟨_, rfl⟩
  rw [hR]
  cases hb : (nm.toList == name.toList) with
  | true =>
    have HF : Hid (R = al) := hR.symm.trans (isP_yes nm ep mr al kd sc hv iv h1 v1 o1 g1 h2 v2 o2 g2 name hb)
    clear hR
    go_enter Tryz.func67, Tryz.ntmps67
    go_wp2_with (first
      | ((with_reducible show wpList _ _ _ (Oper.mk (some 2) (Op.box 49 _) _ _ _ _ :: _) _ _); refine wpList_box M rfl _ rfl _ rfl ?_; clear M; intro k2 W M)
      | ((with_reducible show wpList _ _ _ (Oper.mk _ (Op.load 9 (Operand.tmp 1)) _ _ _ _ :: _) _ _); refine wpList_cell9w (by rfl) _ rfl name rfl (KN _ M.below) ?_)
      | ((with_reducible show wpList _ _ _ (Oper.mk _ (Op.load 9 _) _ _ _ _ :: _) _ _); refine wpList_cell9 M (by rfl) _ rfl _ rfl (by first | exact .head _) rfl ?_)
      | ((with_reducible show wpList _ _ _ (Oper.mk _ (Op.load 4 _) _ _ _ _ :: _) _ _); refine wpList_cell4 M (by rfl) _ rfl _ rfl (by first | exact .head _) rfl ?_))
    go_ret
    exact ⟨ret_bool HF.out.symm, M.below⟩
  | false =>
    have HF : Hid (R = false) := hR.symm.trans (isP_nope nm ep mr al kd sc hv iv h1 v1 o1 g1 h2 v2 o2 g2 name hb)
    clear hR
    go_enter Tryz.func67, Tryz.ntmps67
    go_wp2_with (first
      | ((with_reducible show wpList _ _ _ (Oper.mk (some 2) (Op.box 49 _) _ _ _ _ :: _) _ _); refine wpList_box M rfl _ rfl _ rfl ?_; clear M; intro k2 W M)
      | ((with_reducible show wpList _ _ _ (Oper.mk _ (Op.load 9 (Operand.tmp 1)) _ _ _ _ :: _) _ _); refine wpList_cell9w (by rfl) _ rfl name rfl (KN _ M.below) ?_)
      | ((with_reducible show wpList _ _ _ (Oper.mk _ (Op.load 9 _) _ _ _ _ :: _) _ _); refine wpList_cell9 M (by rfl) _ rfl _ rfl (by first | exact .head _) rfl ?_)
      | ((with_reducible show wpList _ _ _ (Oper.mk _ (Op.load 4 _) _ _ _ _ :: _) _ _); refine wpList_cell4 M (by rfl) _ rfl _ rfl (by first | exact .head _) rfl ?_))
    go_ret
    exact ⟨ret_bool HF.out.symm, M.below⟩
theorem plI_some {name : ByteArray} {l : List ST} {i : Nat} (h : plc name l = some i) : plI name l = (i : Int) := by unfold plI; rw [h]
theorem plI_none {name : ByteArray} {l : List ST} (h : plc name l = none) : plI name l = -1 := by unfold plI; rw [h]
set_option maxRecDepth 100000 in
set_option maxHeartbeats 4000000 in
theorem index_any (a : Option Addr) (n cap : Nat) (l : List ST) (name : ByteArray) (k : Nat) (w : World) (hr : RdT w a n cap l) (HK : Hid (w.heap[k]? = some (.cells #[.string name] 9 (0, 0)))) : Calls Tryz.prog 66 #[.slice a n cap, .func (.func 67) #[] #[.pointer (some ⟨k, 0, none⟩)]] w fun e w' => e = .returned (.int .i64 (plI name l)) ∧ Below w.heap.size w w' := by
  have HN : Hid (n ≤ 140737488355328) := hr.small
  have HL : Hid (l.length = n) := hr.size
  obtain ⟨P, hP⟩ : ∃ P, plI name l = P := ⟨_, rfl⟩
  rw [hP]
  have HP : Hid (plI name l = P) := hP
  clear hP
  go_enter Tryz.func66, Tryz.ntmps66
  go_wp2
  go_loopg [5, 8] n (fun gk v5 v8 wr => ∃ i : Nat, v8 = .int .i64 (i : Int) ∧ i + gk = n ∧ Below w.heap.size w wr ∧ Hid (∀ j, j < i → isP name (l.getD j ST.z) = false))
  case atStart => exact ⟨0, by first | rfl | go_num, by omega, Below.refl _ _, fun j hj => by omega⟩
  case round =>
    obtain ⟨i, rfl, hgk, B, HA⟩ := hrel
    by_cases hi : i < n
    case pos =>
      have HI : Hid (i < n) := hi
      have hiI : (i : Int) < (n : Int) := by omega
      have hwr : IntKind.i64.wrap ((i : Int) + 1) = (i : Int) + 1 := by rw [IntKind.wrap_i64]; have := HN.out; omega
      obtain ⟨b, off, rfl, hb1, hd, hra⟩ := hr.at i hi
      obtain ⟨⟨⟨nm, ep, mr, al, kd, sc⟩, hv, iv, ⟨h1, v1, o1, g1⟩, ⟨h2, v2, o2, g2⟩⟩, hri⟩ : ∃ r, l.getD i ST.z = r := ⟨_, rfl⟩
      rw [hri] at hra
      have HX : Hid (l.getD i ST.z = ⟨⟨nm, ep, mr, al, kd, sc⟩, hv, iv, ⟨h1, v1, o1, g1⟩, ⟨h2, v2, o2, g2⟩⟩) := hri
      have KR : ∀ X, Below w.heap.size w X → X.rangeAt b (off + i * 16) (ST.cells ⟨⟨nm, ep, mr, al, kd, sc⟩, hv, iv, ⟨h1, v1, o1, g1⟩, ⟨h2, v2, o2, g2⟩⟩) := fun X h => range_later hra hb1 h
      have HYES : Hid (isP name ⟨⟨nm, ep, mr, al, kd, sc⟩, hv, iv, ⟨h1, v1, o1, g1⟩, ⟨h2, v2, o2, g2⟩⟩ = true → P = (i : Int)) := fun h => HP.out.symm.trans (plI_some (plc_some (by rw [HL.out]; exact HI.out) HA.out (by rw [HX.out]; exact h)))
      have HNO : Hid (isP name ⟨⟨nm, ep, mr, al, kd, sc⟩, hv, iv, ⟨h1, v1, o1, g1⟩, ⟨h2, v2, o2, g2⟩⟩ = false → ∀ j, j < i + 1 → isP name (l.getD j ST.z) = false) := fun h j hj => by
        by_cases e : j = i
        · rw [e, HX.out]; exact h
        · exact HA.out j (by omega)
      clear hri hd hi hra
      have KP : ∀ W, Below w.heap.size w W → Calls Tryz.prog 67 #[ste nm ep mr al kd sc hv iv h1 v1 o1 g1 h2 v2 o2 g2, .pointer (some ⟨k, 0, none⟩)] W fun e w' => e = .returned (.bool (isP name ⟨⟨nm, ep, mr, al, kd, sc⟩, hv, iv, ⟨h1, v1, o1, g1⟩, ⟨h2, v2, o2, g2⟩⟩)) ∧ Below W.heap.size W w' := fun W b => isP_any nm ep mr al kd sc hv iv h1 v1 o1 g1 h2 v2 o2 g2 name k W ((b.block k (row_lt HK.out)).trans HK.out)
      obtain ⟨OK, hok⟩ : ∃ OK, isP name ⟨⟨nm, ep, mr, al, kd, sc⟩, hv, iv, ⟨h1, v1, o1, g1⟩, ⟨h2, v2, o2, g2⟩⟩ = OK := ⟨_, rfl⟩
      have HE0 : Hid (isP name ⟨⟨nm, ep, mr, al, kd, sc⟩, hv, iv, ⟨h1, v1, o1, g1⟩, ⟨h2, v2, o2, g2⟩⟩ = OK) := hok
      rw [hok] at KP
      clear hok
      cases OK with
      | true =>
        have HE : Hid (isP name ⟨⟨nm, ep, mr, al, kd, sc⟩, hv, iv, ⟨h1, v1, o1, g1⟩, ⟨h2, v2, o2, g2⟩⟩ = true) := HE0.out
        go_wp2_with (first
      | ((with_reducible show wpList _ _ _ (Oper.mk _ (Op.load 49 (Operand.tmp 14)) _ _ _ _ :: _) _ _); refine wpList_load35w (by rfl) _ rfl b (off + i * 16) nm ep mr al kd sc hv iv h1 v1 o1 g1 h2 v2 o2 g2 rfl (KR _ B) ?_)
      | (go_at_call 67; refine (KP _ B).mono ?_; clear KP; rintro e W2 ⟨rfl, b1⟩))
        go_ret
        exact ⟨ret_i64 (HYES.out HE.out).symm, B.trans (b1.mono B.size)⟩
      | false =>
        have HE : Hid (isP name ⟨⟨nm, ep, mr, al, kd, sc⟩, hv, iv, ⟨h1, v1, o1, g1⟩, ⟨h2, v2, o2, g2⟩⟩ = false) := HE0.out
        go_wp2_with (first
      | ((with_reducible show wpList _ _ _ (Oper.mk _ (Op.load 49 (Operand.tmp 14)) _ _ _ _ :: _) _ _); refine wpList_load35w (by rfl) _ rfl b (off + i * 16) nm ep mr al kd sc hv iv h1 v1 o1 g1 h2 v2 o2 g2 rfl (KR _ B) ?_)
      | (go_at_call 67; refine (KP _ B).mono ?_; clear KP; rintro e W2 ⟨rfl, b1⟩))
        go_roundg (gk - 1)
        case measure => have := HI.out; omega
        case rel => exact ⟨i + 1, by first | rfl | go_num, by have := HI.out; omega, B.trans (b1.mono B.size), HNO.out HE.out⟩
    case neg =>
      have hiI : ¬ (i : Int) < (n : Int) := by omega
      have HV : Hid (P = -1) := HP.out.symm.trans (plI_none (plc_none fun j hj => HA.out j (by rw [HL.out] at hj; omega)))
      go_wp2
      go_ret
      exact ⟨ret_i64 HV.out.symm, B⟩
set_option maxRecDepth 100000 in
set_option maxHeartbeats 4000000 in
theorem rplace_any (a : Option Addr) (n cap : Nat) (l : List ST) (name : ByteArray) (w : World) (hr : RdT w a n cap l) : Calls Tryz.prog 38 #[.slice a n cap, .string name] w fun e w' => e = .returned (.int .i64 (plI name l)) ∧ Below w.heap.size w w' := by
  have HN : Hid (n ≤ 140737488355328) := hr.small
  have HL : Hid (l.length = n) := hr.size
  obtain ⟨P, hP⟩ : ∃ P, plI name l = P := ⟨_, rfl⟩
  rw [hP]
  have HP : Hid (plI name l = P) := hP
  clear hP
  go_enter Tryz.func38, Tryz.ntmps38
  go_wp2
  go_loopg [5] n (fun gk v5 wr => ∃ i : Nat, v5 = .int .i64 (i : Int) ∧ i + gk = n ∧ Below w.heap.size w wr ∧ Hid (∀ j, j < i → isP name (l.getD j ST.z) = false))
  case atStart => exact ⟨0, by first | rfl | go_num, by omega, Below.refl _ _, fun j hj => by omega⟩
  case round =>
    obtain ⟨i, rfl, hgk, B, HA⟩ := hrel
    by_cases hi : i < n
    case pos =>
      have HI : Hid (i < n) := hi
      have hiI : (i : Int) < (n : Int) := by omega
      have hwr : IntKind.i64.wrap ((i : Int) + 1) = (i : Int) + 1 := by rw [IntKind.wrap_i64]; have := HN.out; omega
      obtain ⟨b, off, rfl, hb1, hd, hra⟩ := hr.at i hi
      obtain ⟨⟨⟨nm, ep, mr, al, kd, sc⟩, hv, iv, ⟨h1, v1, o1, g1⟩, ⟨h2, v2, o2, g2⟩⟩, hri⟩ : ∃ r, l.getD i ST.z = r := ⟨_, rfl⟩
      rw [hri] at hra
      have HX : Hid (l.getD i ST.z = ⟨⟨nm, ep, mr, al, kd, sc⟩, hv, iv, ⟨h1, v1, o1, g1⟩, ⟨h2, v2, o2, g2⟩⟩) := hri
      have KR : ∀ X, Below w.heap.size w X → X.rangeAt b (off + i * 16) (ST.cells ⟨⟨nm, ep, mr, al, kd, sc⟩, hv, iv, ⟨h1, v1, o1, g1⟩, ⟨h2, v2, o2, g2⟩⟩) := fun X h => range_later hra hb1 h
      have HYES : Hid (isP name ⟨⟨nm, ep, mr, al, kd, sc⟩, hv, iv, ⟨h1, v1, o1, g1⟩, ⟨h2, v2, o2, g2⟩⟩ = true → P = (i : Int)) := fun h => HP.out.symm.trans (plI_some (plc_some (by rw [HL.out]; exact HI.out) HA.out (by rw [HX.out]; exact h)))
      have HNO : Hid (isP name ⟨⟨nm, ep, mr, al, kd, sc⟩, hv, iv, ⟨h1, v1, o1, g1⟩, ⟨h2, v2, o2, g2⟩⟩ = false → ∀ j, j < i + 1 → isP name (l.getD j ST.z) = false) := fun h j hj => by
        by_cases e : j = i
        · rw [e, HX.out]; exact h
        · exact HA.out j (by omega)
      clear hri hd hi hra
      have x0 : wr.cell? ⟨b, off + i * 16, none⟩ = some (.string nm) := KR _ B 0 _ rfl
      have x3 : wr.cell? ⟨b, off + i * 16 + 3, none⟩ = some (.bool al) := KR _ B 3 _ rfl
      cases hb : (nm.toList == name.toList) with
      | false =>
        have HE : Hid (isP name ⟨⟨nm, ep, mr, al, kd, sc⟩, hv, iv, ⟨h1, v1, o1, g1⟩, ⟨h2, v2, o2, g2⟩⟩ = false) := isP_nope nm ep mr al kd sc hv iv h1 v1 o1 g1 h2 v2 o2 g2 name hb
        go_wp2
        go_roundg (gk - 1)
        case measure => have := HI.out; omega
        case rel => exact ⟨i + 1, by first | rfl | go_num, by have := HI.out; omega, B, HNO.out HE.out⟩
      | true =>
      cases al with
      | false =>
        have HE : Hid (isP name ⟨⟨nm, ep, mr, false, kd, sc⟩, hv, iv, ⟨h1, v1, o1, g1⟩, ⟨h2, v2, o2, g2⟩⟩ = false) := isP_yes nm ep mr false kd sc hv iv h1 v1 o1 g1 h2 v2 o2 g2 name hb
        go_wp2
        go_roundg (gk - 1)
        case measure => have := HI.out; omega
        case rel => exact ⟨i + 1, by first | rfl | go_num, by have := HI.out; omega, B, HNO.out HE.out⟩
      | true =>
        have HE : Hid (isP name ⟨⟨nm, ep, mr, true, kd, sc⟩, hv, iv, ⟨h1, v1, o1, g1⟩, ⟨h2, v2, o2, g2⟩⟩ = true) := isP_yes nm ep mr true kd sc hv iv h1 v1 o1 g1 h2 v2 o2 g2 name hb
        go_wp2
        go_ret
        exact ⟨ret_i64 (HYES.out HE.out).symm, B⟩
    case neg =>
      have hiI : ¬ (i : Int) < (n : Int) := by omega
      have HV : Hid (P = -1) := HP.out.symm.trans (plI_none (plc_none fun j hj => HA.out j (by rw [HL.out] at hj; omega)))
      go_wp2
      go_ret
      exact ⟨ret_i64 HV.out.symm, B⟩
set_option maxRecDepth 100000 in
set_option maxHeartbeats 4000000 in
theorem place_any (a : Option Addr) (n cap : Nat) (l : List ST) (name : ByteArray) (w : World) (hr : RdT w a n cap l) : Calls Tryz.prog 35 #[.slice a n cap, .string name] w fun e w' => e = .returned (.int .i64 (plI name l)) ∧ Below w.heap.size w w' := by
  have B0 : Below w.heap.size w (w.alloc (.cells #[.string name] 9)) := (Below.refl _ _).alloc (Nat.le_refl _) _
  have K := index_any a n cap l name w.heap.size (w.alloc (.cells #[.string name] 9)) (hr.below B0) (World.alloc_heap_new w _)
  obtain ⟨P, hP⟩ : ∃ P, plI name l = P := ⟨_, rfl⟩
  rw [hP] at K ⊢
  clear hP hr
  go_enter Tryz.func35, Tryz.ntmps35
  go_wp2_with (go_at_call 66; refine K.mono ?_; clear K; rintro e W2 ⟨rfl, b1⟩)
  go_ret
  exact ⟨rfl, B0.trans (b1.mono B0.size)⟩
def fdV (name : ByteArray) (l : List ST) : Value := .tuple #[(fdT name l).val, .bool (plc name l).isSome]
set_option maxRecDepth 100000 in
set_option maxHeartbeats 4000000 in
theorem find_anyT (a : Option Addr) (n cap : Nat) (l : List ST) (name : ByteArray) (w : World) (hr : RdT w a n cap l) : Calls Tryz.prog 23 #[.slice a n cap, .string name] w fun e w' => e = .returned (fdV name l) ∧ Below w.heap.size w w' := by
  have M := Mem.nil w
  have KP : ∀ W, Below w.heap.size w W → Calls Tryz.prog 35 #[.slice a n cap, .string name] W fun e w' => e = .returned (.int .i64 (plI name l)) ∧ Below W.heap.size W w' := fun W b => place_any a n cap l name W (hr.below b)
  cases hp : plc name l with
  | none =>
    have HV : Hid (fdV name l = .tuple #[.agg zT, .bool false]) := by show _ = _; unfold fdV fdT; rw [hp]; rfl
    rw [plI_none hp] at KP
    rw [HV.out]
    clear hp hr
    go_enter Tryz.func23, Tryz.ntmps23
    go_wp2_with (first
      | ((with_reducible show wpList _ _ _ (Oper.mk (some 4) (Op.alloc 49) _ _ _ _ :: _) _ _); refine wpList_alloc M rfl rfl rtT ?_; clear M; intro k4 W M)
      | (go_at_call 35; refine (KP _ M.below).mono ?_; clear KP; rintro e W2 ⟨rfl, b1⟩; replace M := M.later b1; clear b1)
      | ((with_reducible show wpList _ _ _ (Oper.mk _ (Op.store 49 _ _) _ _ _ _ :: _) _ _); (first | (refine wpList_put M rfl _ _ rfl rtT 0 _ rfl rfl rfl rfl rfl (by simp [Value.oneCell']) ?_)); clear M; intro W M; simp only [List.set_cons_zero, List.set_cons_succ] at M))
    exact bodyPost_ret (results_ct rfl _ _ k4 _ rfl (load_row (M.get (.head _)) rtT rfl)) rfl ⟨rfl, M.below⟩
  | some i =>
    have hi := (plc_at hp).1
    rw [hr.size] at hi
    obtain ⟨b, off, rfl, hb1, hd, hra⟩ := hr.at i hi
    obtain ⟨⟨⟨nm, ep, mr, al, kd, sc⟩, hv, iv, ⟨h1, v1, o1, g1⟩, ⟨h2, v2, o2, g2⟩⟩, hri⟩ : ∃ r, l.getD i ST.z = r := ⟨_, rfl⟩
    rw [hri] at hra
    have KR : ∀ X, Below w.heap.size w X → X.rangeAt b (off + i * 16) (ST.cells ⟨⟨nm, ep, mr, al, kd, sc⟩, hv, iv, ⟨h1, v1, o1, g1⟩, ⟨h2, v2, o2, g2⟩⟩) := fun X h => range_later hra hb1 h
    have HV : Hid (fdV name l = .tuple #[ste nm ep mr al kd sc hv iv h1 v1 o1 g1 h2 v2 o2 g2, .bool true]) := by show _ = _; unfold fdV fdT; rw [hp]; dsimp only; rw [hri]; rfl
    rw [plI_some hp] at KP
    rw [HV.out]
    have hiI : (i : Int) < (n : Int) := by omega
    have hi0 : ¬ (i : Int) < 0 := by omega
    clear hp hr hri hra hd hi
    go_enter Tryz.func23, Tryz.ntmps23
    go_wp2_with (first
      | ((with_reducible show wpList _ _ _ (Oper.mk (some 4) (Op.alloc 49) _ _ _ _ :: _) _ _); refine wpList_alloc M rfl rfl rtT ?_; clear M; intro k4 W M)
      | (go_at_call 35; refine (KP _ M.below).mono ?_; clear KP; rintro e W2 ⟨rfl, b1⟩; replace M := M.later b1; clear b1)
      | ((with_reducible show wpList _ _ _ (Oper.mk _ (Op.load 49 (Operand.tmp 15)) _ _ _ _ :: _) _ _); refine wpList_load35w (by rfl) _ rfl b (off + i * 16) nm ep mr al kd sc hv iv h1 v1 o1 g1 h2 v2 o2 g2 rfl (KR _ M.below) ?_)
      | ((with_reducible show wpList _ _ _ (Oper.mk _ (Op.store 49 _ _) _ _ _ _ :: _) _ _); (first | (refine wpList_put M rfl _ _ rfl rtT 0 _ rfl rfl rfl rfl rfl (by simp [Value.oneCell']) ?_)); clear M; intro W M; simp only [List.set_cons_zero, List.set_cons_succ] at M))
    exact bodyPost_ret (results_ct rfl _ _ k4 _ rfl (load_row (M.get (.head _)) rtT rfl)) rfl ⟨rfl, M.below⟩
def ownB (l : List ST) (c : CH) : Bool := (plc c.nm l).isSome && (c.al && (((fdT c.nm l).c.ep == c.ep) && ((fdT c.nm l).c.mr == c.mr)))
end Go.Proofs.YtoeebofappbneaaGreat

namespace Go.Proofs.YtoeebofappbneaaGreat
open Go.ChangeShapes Go.WideShapes Go.ChangeAt Go.RowKit Go.Maps Go.Shelf
set_option linter.unusedVariables false
set_option linter.unusedSimpArgs false

def sameT : List ST → List ST → Bool
  | [], [] => true
  | a :: x, b :: y => eqS a b && sameT x y
  | _, _ => false
theorem sameT_iff : ∀ (l m : List ST), sameT l m = true ↔ l = m
  | [], [] => by simp [sameT]
  | [], b :: y => by simp [sameT]
  | a :: x, [] => by simp [sameT]
  | a :: x, b :: y => by simp [sameT, eqS_iff, sameT_iff x y]
theorem sameT_len {l m : List ST} (h : l.length ≠ m.length) : sameT l m = false := by
  cases k : sameT l m with
  | false => rfl
  | true => rw [(sameT_iff l m).1 k] at h; exact absurd rfl h
theorem sameT_at {l m : List ST} {i : Nat} (hi : i < l.length) (h : eqS (l.getD i ST.z) (m.getD i ST.z) = false) : sameT l m = false := by
  cases k : sameT l m with
  | false => rfl
  | true => rw [(sameT_iff l m).1 k, eqS_self] at h; cases h
theorem sameT_all {l m : List ST} (hl : l.length = m.length) (h : ∀ j, j < l.length → eqS (l.getD j ST.z) (m.getD j ST.z) = true) : sameT l m = true := by
  rw [sameT_iff]
  refine List.ext_getElem hl fun i h1 h2 => ?_
  have := (eqS_iff _ _).1 (h i h1)
  rw [List.getD_eq_getElem?_getD, List.getD_eq_getElem?_getD, List.getElem?_eq_getElem h1, List.getElem?_eq_getElem h2] at this
  exact this
theorem sameT_self (l : List ST) : sameT l l = true := (sameT_iff l l).2 rfl
set_option maxRecDepth 100000 in
set_option maxHeartbeats 4000000 in
theorem rsame_any (a a' : Option Addr) (n n' cap cap' : Nat) (l m : List ST) (w : World) (hr : RdT w a n cap l) (hr' : RdT w a' n' cap' m) : Calls Tryz.prog 10 #[.slice a n cap, .slice a' n' cap'] w fun e w' => e = .returned (.bool (sameT l m)) ∧ Below w.heap.size w w' := by
  have HN : Hid (n ≤ 140737488355328) := hr.small
  have HL : Hid (l.length = n) := hr.size
  have HL' : Hid (m.length = n') := hr'.size
  by_cases hn : n = n'
  case neg =>
    have HS : Hid (sameT l m = false) := sameT_len (by rw [HL.out, HL'.out]; exact hn)
    have hb : ((n : Int) != (n' : Int)) = true := by simp; omega
    clear hn
    go_enter Tryz.func10, Tryz.ntmps10
    go_wp2
    go_ret
    exact ⟨ret_bool HS.out.symm, Below.refl _ _⟩
  case pos =>
  subst hn
  have hb : ((n : Int) != (n : Int)) = false := by simp
  go_enter Tryz.func10, Tryz.ntmps10
  go_wp2
  go_loopg [5] n (fun gk v5 wr => ∃ i : Nat, v5 = .int .i64 (i : Int) ∧ i + gk = n ∧ Below w.heap.size w wr ∧ Hid (∀ j, j < i → eqS (l.getD j ST.z) (m.getD j ST.z) = true))
  case atStart => exact ⟨0, by first | rfl | go_num, by omega, Below.refl _ _, fun j hj => by omega⟩
  case round =>
    obtain ⟨i, rfl, hgk, B, HA⟩ := hrel
    by_cases hi : i < n
    case pos =>
      have HI : Hid (i < n) := hi
      have hiI : (i : Int) < (n : Int) := by omega
      have hwr : IntKind.i64.wrap ((i : Int) + 1) = (i : Int) + 1 := by rw [IntKind.wrap_i64]; have := HN.out; omega
      obtain ⟨b, off, rfl, hb1, hd, hra⟩ := (hr.below B).at i hi
      obtain ⟨b', off', rfl, hb2, hd', hra2⟩ := (hr'.below B).at i hi
      obtain ⟨⟨⟨nm, ep, mr, al, kd, sc⟩, hv, iv, ⟨h1, v1, o1, g1⟩, ⟨h2, v2, o2, g2⟩⟩, hri⟩ : ∃ r, l.getD i ST.z = r := ⟨_, rfl⟩
      obtain ⟨⟨⟨nm', ep', mr', al', kd', sc'⟩, hv', iv', ⟨h1', v1', o1', g1'⟩, ⟨h2', v2', o2', g2'⟩⟩, hri'⟩ : ∃ r, m.getD i ST.z = r := ⟨_, rfl⟩
      rw [hri] at hra
      rw [hri'] at hra2
      have HX : Hid (eqS (l.getD i ST.z) (m.getD i ST.z) = eqS ⟨⟨nm, ep, mr, al, kd, sc⟩, hv, iv, ⟨h1, v1, o1, g1⟩, ⟨h2, v2, o2, g2⟩⟩ ⟨⟨nm', ep', mr', al', kd', sc'⟩, hv', iv', ⟨h1', v1', o1', g1'⟩, ⟨h2', v2', o2', g2'⟩⟩) := by show _ = _; rw [hri, hri']
      clear hri hri' hd hd' hi
      cases he : eqS ⟨⟨nm, ep, mr, al, kd, sc⟩, hv, iv, ⟨h1, v1, o1, g1⟩, ⟨h2, v2, o2, g2⟩⟩ ⟨⟨nm', ep', mr', al', kd', sc'⟩, hv', iv', ⟨h1', v1', o1', g1'⟩, ⟨h2', v2', o2', g2'⟩⟩ with
      | false =>
        have HE : Hid (eqS ⟨⟨nm, ep, mr, al, kd, sc⟩, hv, iv, ⟨h1, v1, o1, g1⟩, ⟨h2, v2, o2, g2⟩⟩ ⟨⟨nm', ep', mr', al', kd', sc'⟩, hv', iv', ⟨h1', v1', o1', g1'⟩, ⟨h2', v2', o2', g2'⟩⟩ = false) := he
        have HS : Hid (sameT l m = false) := sameT_at (i := i) (by rw [HL.out]; exact HI.out) (by rw [HX.out]; exact he)
        clear he
        go_wp2_with (fail)
        refine wp_region_any (by kernel_rfl) ?_
        change wpAny _ _ _ _ _ _ _ (World.drew _)
        refine wpAny_narrow (fun W' => W'.rangeAt b (off + i * 16) (ST.cells ⟨⟨nm, ep, mr, al, kd, sc⟩, hv, iv, ⟨h1, v1, o1, g1⟩, ⟨h2, v2, o2, g2⟩⟩) ∧ W'.rangeAt b' (off' + i * 16) (ST.cells ⟨⟨nm', ep', mr', al', kd', sc'⟩, hv', iv', ⟨h1', v1', o1', g1'⟩, ⟨h2', v2', o2', g2'⟩⟩)) _ _ _ _ ?_
        refine anyH_take 0 17 (.slice (some ⟨b, off, none⟩) n cap) rfl rfl (by kernel_rfl) (by kernel_rfl) (by kernel_rfl) (fun _ _ _ h => h) (Or.inl ⟨by rfl, by intro w hSw; go_simp⟩) (⟨hra, hra2⟩) ?_
        try simp only [Act.put, List.setIfInBounds_toArray, List.set_cons_zero, List.set_cons_succ]
        refine anyH_take 1 18 (.int .i64 (i : Int)) rfl rfl (by kernel_rfl) (by kernel_rfl) (by kernel_rfl) (fun _ _ _ h => h) (Or.inl ⟨by rfl, by intro w hSw; go_simp⟩) (⟨hra, hra2⟩) ?_
        try simp only [Act.put, List.setIfInBounds_toArray, List.set_cons_zero, List.set_cons_succ]
        refine anyH_take 2 19 (.pointer (some ⟨b, off + i * 16, none⟩)) rfl rfl (by kernel_rfl) (by kernel_rfl) (by kernel_rfl) (fun _ _ _ h => h) (Or.inl ⟨by rfl, by intro w hSw; go_simp⟩) (⟨hra, hra2⟩) ?_
        try simp only [Act.put, List.setIfInBounds_toArray, List.set_cons_zero, List.set_cons_succ]
        refine anyH_take 3 20 (ste nm ep mr al kd sc hv iv h1 v1 o1 g1 h2 v2 o2 g2) rfl rfl (by kernel_rfl) (by kernel_rfl) (by kernel_rfl) (fun _ _ _ h => h) (Or.inl ⟨by rfl, fun X hSw => exec_load35 rfl b (off + i * 16) ⟨⟨nm, ep, mr, al, kd, sc⟩, hv, iv, ⟨h1, v1, o1, g1⟩, ⟨h2, v2, o2, g2⟩⟩ rfl hSw.1⟩) (⟨hra, hra2⟩) ?_
        try simp only [Act.put, List.setIfInBounds_toArray, List.set_cons_zero, List.set_cons_succ]
        refine anyH_take 4 21 (.slice (some ⟨b', off', none⟩) n cap') rfl rfl (by kernel_rfl) (by kernel_rfl) (by kernel_rfl) (fun _ _ _ h => h) (Or.inl ⟨by rfl, by intro w hSw; go_simp⟩) (⟨hra, hra2⟩) ?_
        try simp only [Act.put, List.setIfInBounds_toArray, List.set_cons_zero, List.set_cons_succ]
        refine anyH_take 5 22 (.int .i64 (i : Int)) rfl rfl (by kernel_rfl) (by kernel_rfl) (by kernel_rfl) (fun _ _ _ h => h) (Or.inl ⟨by rfl, by intro w hSw; go_simp⟩) (⟨hra, hra2⟩) ?_
        try simp only [Act.put, List.setIfInBounds_toArray, List.set_cons_zero, List.set_cons_succ]
        refine anyH_take 6 23 (.pointer (some ⟨b', off' + i * 16, none⟩)) rfl rfl (by kernel_rfl) (by kernel_rfl) (by kernel_rfl) (fun _ _ _ h => h) (Or.inl ⟨by rfl, by intro w hSw; go_simp⟩) (⟨hra, hra2⟩) ?_
        try simp only [Act.put, List.setIfInBounds_toArray, List.set_cons_zero, List.set_cons_succ]
        refine anyH_take 7 24 (ste nm' ep' mr' al' kd' sc' hv' iv' h1' v1' o1' g1' h2' v2' o2' g2') rfl rfl (by kernel_rfl) (by kernel_rfl) (by kernel_rfl) (fun _ _ _ h => h) (Or.inl ⟨by rfl, fun X hSw => exec_load35 rfl b' (off' + i * 16) ⟨⟨nm', ep', mr', al', kd', sc'⟩, hv', iv', ⟨h1', v1', o1', g1'⟩, ⟨h2', v2', o2', g2'⟩⟩ rfl hSw.2⟩) (⟨hra, hra2⟩) ?_
        try simp only [Act.put, List.setIfInBounds_toArray, List.set_cons_zero, List.set_cons_succ]
        refine anyH_take 8 25 (.bool true) rfl rfl (by kernel_rfl) (by kernel_rfl) (by kernel_rfl) (fun _ _ _ h => h) (Or.inl ⟨by rfl, fun X hSw => (exec_neq35 rfl ⟨⟨nm, ep, mr, al, kd, sc⟩, hv, iv, ⟨h1, v1, o1, g1⟩, ⟨h2, v2, o2, g2⟩⟩ ⟨⟨nm', ep', mr', al', kd', sc'⟩, hv', iv', ⟨h1', v1', o1', g1'⟩, ⟨h2', v2', o2', g2'⟩⟩ rfl rfl X).trans (by rw [HE.out]; rfl)⟩) (⟨hra, hra2⟩) ?_
        try simp only [Act.put, List.setIfInBounds_toArray, List.set_cons_zero, List.set_cons_succ]
        refine wpAnyH_done (by kernel_rfl) ?_ _
        go_wp2
        go_ret
        exact ⟨ret_bool HS.out.symm, B.drew⟩
      | true =>
        have HE : Hid (eqS ⟨⟨nm, ep, mr, al, kd, sc⟩, hv, iv, ⟨h1, v1, o1, g1⟩, ⟨h2, v2, o2, g2⟩⟩ ⟨⟨nm', ep', mr', al', kd', sc'⟩, hv', iv', ⟨h1', v1', o1', g1'⟩, ⟨h2', v2', o2', g2'⟩⟩ = true) := he
        clear he
        go_wp2_with (fail)
        refine wp_region_any (by kernel_rfl) ?_
        change wpAny _ _ _ _ _ _ _ (World.drew _)
        refine wpAny_narrow (fun W' => W'.rangeAt b (off + i * 16) (ST.cells ⟨⟨nm, ep, mr, al, kd, sc⟩, hv, iv, ⟨h1, v1, o1, g1⟩, ⟨h2, v2, o2, g2⟩⟩) ∧ W'.rangeAt b' (off' + i * 16) (ST.cells ⟨⟨nm', ep', mr', al', kd', sc'⟩, hv', iv', ⟨h1', v1', o1', g1'⟩, ⟨h2', v2', o2', g2'⟩⟩)) _ _ _ _ ?_
        refine anyH_take 0 17 (.slice (some ⟨b, off, none⟩) n cap) rfl rfl (by kernel_rfl) (by kernel_rfl) (by kernel_rfl) (fun _ _ _ h => h) (Or.inl ⟨by rfl, by intro w hSw; go_simp⟩) (⟨hra, hra2⟩) ?_
        try simp only [Act.put, List.setIfInBounds_toArray, List.set_cons_zero, List.set_cons_succ]
        refine anyH_take 1 18 (.int .i64 (i : Int)) rfl rfl (by kernel_rfl) (by kernel_rfl) (by kernel_rfl) (fun _ _ _ h => h) (Or.inl ⟨by rfl, by intro w hSw; go_simp⟩) (⟨hra, hra2⟩) ?_
        try simp only [Act.put, List.setIfInBounds_toArray, List.set_cons_zero, List.set_cons_succ]
        refine anyH_take 2 19 (.pointer (some ⟨b, off + i * 16, none⟩)) rfl rfl (by kernel_rfl) (by kernel_rfl) (by kernel_rfl) (fun _ _ _ h => h) (Or.inl ⟨by rfl, by intro w hSw; go_simp⟩) (⟨hra, hra2⟩) ?_
        try simp only [Act.put, List.setIfInBounds_toArray, List.set_cons_zero, List.set_cons_succ]
        refine anyH_take 3 20 (ste nm ep mr al kd sc hv iv h1 v1 o1 g1 h2 v2 o2 g2) rfl rfl (by kernel_rfl) (by kernel_rfl) (by kernel_rfl) (fun _ _ _ h => h) (Or.inl ⟨by rfl, fun X hSw => exec_load35 rfl b (off + i * 16) ⟨⟨nm, ep, mr, al, kd, sc⟩, hv, iv, ⟨h1, v1, o1, g1⟩, ⟨h2, v2, o2, g2⟩⟩ rfl hSw.1⟩) (⟨hra, hra2⟩) ?_
        try simp only [Act.put, List.setIfInBounds_toArray, List.set_cons_zero, List.set_cons_succ]
        refine anyH_take 4 21 (.slice (some ⟨b', off', none⟩) n cap') rfl rfl (by kernel_rfl) (by kernel_rfl) (by kernel_rfl) (fun _ _ _ h => h) (Or.inl ⟨by rfl, by intro w hSw; go_simp⟩) (⟨hra, hra2⟩) ?_
        try simp only [Act.put, List.setIfInBounds_toArray, List.set_cons_zero, List.set_cons_succ]
        refine anyH_take 5 22 (.int .i64 (i : Int)) rfl rfl (by kernel_rfl) (by kernel_rfl) (by kernel_rfl) (fun _ _ _ h => h) (Or.inl ⟨by rfl, by intro w hSw; go_simp⟩) (⟨hra, hra2⟩) ?_
        try simp only [Act.put, List.setIfInBounds_toArray, List.set_cons_zero, List.set_cons_succ]
        refine anyH_take 6 23 (.pointer (some ⟨b', off' + i * 16, none⟩)) rfl rfl (by kernel_rfl) (by kernel_rfl) (by kernel_rfl) (fun _ _ _ h => h) (Or.inl ⟨by rfl, by intro w hSw; go_simp⟩) (⟨hra, hra2⟩) ?_
        try simp only [Act.put, List.setIfInBounds_toArray, List.set_cons_zero, List.set_cons_succ]
        refine anyH_take 7 24 (ste nm' ep' mr' al' kd' sc' hv' iv' h1' v1' o1' g1' h2' v2' o2' g2') rfl rfl (by kernel_rfl) (by kernel_rfl) (by kernel_rfl) (fun _ _ _ h => h) (Or.inl ⟨by rfl, fun X hSw => exec_load35 rfl b' (off' + i * 16) ⟨⟨nm', ep', mr', al', kd', sc'⟩, hv', iv', ⟨h1', v1', o1', g1'⟩, ⟨h2', v2', o2', g2'⟩⟩ rfl hSw.2⟩) (⟨hra, hra2⟩) ?_
        try simp only [Act.put, List.setIfInBounds_toArray, List.set_cons_zero, List.set_cons_succ]
        refine anyH_take 8 25 (.bool false) rfl rfl (by kernel_rfl) (by kernel_rfl) (by kernel_rfl) (fun _ _ _ h => h) (Or.inl ⟨by rfl, fun X hSw => (exec_neq35 rfl ⟨⟨nm, ep, mr, al, kd, sc⟩, hv, iv, ⟨h1, v1, o1, g1⟩, ⟨h2, v2, o2, g2⟩⟩ ⟨⟨nm', ep', mr', al', kd', sc'⟩, hv', iv', ⟨h1', v1', o1', g1'⟩, ⟨h2', v2', o2', g2'⟩⟩ rfl rfl X).trans (by rw [HE.out]; rfl)⟩) (⟨hra, hra2⟩) ?_
        try simp only [Act.put, List.setIfInBounds_toArray, List.set_cons_zero, List.set_cons_succ]
        refine wpAnyH_done (by kernel_rfl) ?_ _
        go_wp2
        go_roundg (gk - 1)
        case measure => have := HI.out; omega
        case rel =>
          refine ⟨i + 1, by first | rfl | go_num, by have := HI.out; omega, B.drew, fun j hj => ?_⟩
          by_cases e : j = i
          · rw [e, HX.out]; exact HE.out
          · exact HA.out j (by omega)
    case neg =>
      have hiI : ¬ (i : Int) < (n : Int) := by omega
      have HS : Hid (sameT l m = true) := sameT_all (by rw [HL.out, HL'.out]) (fun j hj => HA.out j (by rw [HL.out] at hj; omega))
      go_wp2
      go_ret
      exact ⟨ret_bool HS.out.symm, B⟩
def hasT (l : List ST) (s : ST) : Bool := l.any (fun x => eqS x s)
theorem hasT_iff {l : List ST} {s : ST} : hasT l s = true ↔ s ∈ l := by
  unfold hasT
  rw [List.any_eq_true]
  exact ⟨fun ⟨x, hx, e⟩ => by rw [← (eqS_iff _ _).1 e]; exact hx, fun h => ⟨s, h, eqS_self s⟩⟩
theorem hasT_at {l : List ST} {s : ST} {i : Nat} (hi : i < l.length) (h : eqS (l.getD i ST.z) s = true) : hasT l s = true := by
  rw [hasT_iff, ← (eqS_iff _ _).1 h, List.getD_eq_getElem?_getD, List.getElem?_eq_getElem hi]
  exact List.getElem_mem hi
theorem hasT_no {l : List ST} {s : ST} (h : ∀ j, j < l.length → eqS (l.getD j ST.z) s = false) : hasT l s = false := by
  cases k : hasT l s with
  | false => rfl
  | true =>
    obtain ⟨j, hj, rfl⟩ := List.getElem_of_mem (hasT_iff.1 k)
    have := h j hj
    rw [List.getD_eq_getElem?_getD, List.getElem?_eq_getElem hj] at this
    simp [eqS_self] at this
end Go.Proofs.YtoeebofappbneaaGreat
