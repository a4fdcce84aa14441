/-
  What lies where: a frame (nothing has changed but ..), rows of cells, loads from the middle of a row.
-/
import Derived.Test.YtpdmpekkmblgmaaProg
import Derived.Test.YtpdmpekkmblgmaaHeld
import Derived.OpenShut
import Derived.Below
import Derived.Deep.RegionWith
import Derived.Deep.DeepCutAuto
import Derived.Laws.StructEq
import Derived.Laws.Tables
import Derived.Test.YtpdmpekkmblgmaaBlocks
import Derived.OwnWalk
import Derived.Lib.AppendStr
import Derived.Laws.AppendOwnNone
import Derived.Deep.LoopGhost
import Derived.WalkSpells
import Derived.BigQuiet
import Derived.Deep.QuietTactic
import Derived.WalkLawsBesides
import Derived.Deep.MidRow
import Derived.Deep.Slices
import Derived.Laws.CopyRow
import Derived.Laws.CopyOwn
import Derived.RangeFuncRecord
import Derived.Deep.WholeRow
import Derived.ArgAppend
import Derived.Deep.DeepAppendWide
import Derived.Deep.DeepMust
import Derived.Lib.AppendZerosOnto
import Derived.Lib.Overlaps
namespace Go.Proofs.Ytpdmpekkmblgmaa
open Go.ChangeShapes Go.WideShapes Go.ChangeAt Go.RowKit
set_option linter.unusedVariables false
set_option linter.unusedSimpArgs false

theorem ret_bool {a b : Bool} (h : a = b) : Ending.returned (.bool a) = .returned (.bool b) := by rw [h]
theorem ret_i64 {a b : Int} (h : a = b) : Ending.returned (.int .i64 a) = .returned (.int .i64 b) := by rw [h]
theorem add_plain (g o j : Nat) : (⟨g, o, none⟩ : Addr).add j = ⟨g, o + j, none⟩ := by unfold Addr.add; split <;> simp_all
/-- Nothing has changed but what C holds of. -/
structure Only (C : Nat → Prop) (w w' : World) : Prop where
  os : w'.os = w.os
  tape : w'.tape = w.tape
  output : w'.output = w.output
  size : w.heap.size ≤ w'.heap.size
  block : ∀ b, b < w.heap.size → ¬ C b → w'.heap[b]? = w.heap[b]?
theorem Only.refl (C : Nat → Prop) (w : World) : Only C w w := ⟨rfl, rfl, rfl, Nat.le_refl _, fun _ _ _ => rfl⟩
theorem Only.trans {C : Nat → Prop} {a b c : World} (h : Only C a b) (k : Only C b c) : Only C a c :=
  ⟨k.os.trans h.os, k.tape.trans h.tape, k.output.trans h.output, Nat.le_trans h.size k.size, fun q hq hn => (k.block q (Nat.lt_of_lt_of_le hq h.size) hn).trans (h.block q hq hn)⟩
theorem Only.mono {C D : Nat → Prop} {a b : World} (h : Only C a b) (hd : ∀ q, q < a.heap.size → C q → D q) : Only D a b := ⟨h.os, h.tape, h.output, h.size, fun q hq hn => h.block q hq (fun hc => hn (hd q hq hc))⟩
theorem Only.drew {C : Nat → Prop} {a b : World} (h : Only C a b) : Only C a b.drew := ⟨h.os, h.tape, h.output, h.size, h.block⟩
theorem Only.drewN {C : Nat → Prop} {a b : World} (h : Only C a b) (n : Nat) : Only C a (b.drewN n) := ⟨h.os, h.tape, h.output, h.size, h.block⟩
theorem Only.alloc {C : Nat → Prop} {a b : World} (h : Only C a b) (o : Obj) : Only C a (b.alloc o) :=
  ⟨h.os, h.tape, h.output, by have := h.size; simp; omega, fun q hq hn => (Below.heap_alloc _ _ _ (Nat.lt_of_lt_of_le hq h.size)).trans (h.block q hq hn)⟩
theorem Only.setCell {C : Nat → Prop} {a b : World} (h : Only C a b) {g : Nat} (hg : g < a.heap.size → C g) (i : Nat) (v : Value) : Only C a (b.setCell ⟨g, i, none⟩ v) :=
  ⟨h.os, h.tape, h.output, by simpa [World.setCell] using h.size, fun q hq hn => (Below.heap_setCell _ _ _ _ (fun e => hn (by have e' : q = g := e; rw [e'] at hq ⊢; exact hg hq))).trans (h.block q hq hn)⟩
theorem Only.setRow {C : Nat → Prop} {a b : World} (h : Only C a b) {g : Nat} (hg : g < a.heap.size → C g) (c : Array Value) : Only C a (b.setRow g c) :=
  ⟨h.os, h.tape, h.output, by rw [size_setRow]; exact h.size, fun q hq hn => (setRow_other _ _ _ _ (fun e => hn (by rw [e] at hq ⊢; exact hg hq))).trans (h.block q hq hn)⟩
theorem Only.below {C : Nat → Prop} {a b : World} (h : Only C a b) {n : Nat} (hs : n ≤ a.heap.size) (hC : ∀ q, C q → n ≤ q) : Below n a b :=
  ⟨h.os, h.tape, h.output, h.size, fun q hq => h.block q (by omega) (fun hc => by have := hC q hc; omega)⟩
theorem Only.of_below {C : Nat → Prop} {a b : World} (h : Below a.heap.size a b) : Only C a b := ⟨h.os, h.tape, h.output, h.size, fun q hq _ => h.block q hq⟩
def at1 (d : Nat) : Nat → Prop := fun b => b = d
def at2 (d l : Nat) : Nat → Prop := fun b => b = d ∨ b = l
theorem Only.set {d : Nat} {a b : World} (h : Only (at1 d) a b) (i : Nat) (v : Value) : Only (at1 d) a (b.setCell ⟨d, i, none⟩ v) := h.setCell (fun _ => rfl) i v
theorem Only.two {d : Nat} {a b : World} (h : Only (at1 d) a b) (l : Nat) : Only (at2 d l) a b := h.mono fun q _ hq => Or.inl hq
def none_ : Nat → Prop := fun _ => False
theorem Only.calm {a b : World} (h : Only none_ a b) : Below a.heap.size a b := h.below (Nat.le_refl _) (fun q hq => hq.elim)

theorem row_cell {w : World} {g : Nat} {cs : Array Value} {t : TypeId} (h : w.heap[g]? = some (.cells cs t (0, 0))) (i : Nat) (v : Value) (hv : cs[i]? = some v) : w.cell? ⟨g, i, none⟩ = some v := by
  simp [World.cell?, h, hv]
theorem row_free {w : World} {g : Nat} {cs : Array Value} {t : TypeId} (h : w.heap[g]? = some (.cells cs t (0, 0))) (i : Nat) : w.frozen? ⟨g, i, none⟩ = false := by simp [World.frozen?, h]
theorem row_lt {w : World} {g : Nat} {o : Obj} (h : w.heap[g]? = some o) : g < w.heap.size := (Array.getElem?_eq_some_iff.1 h).1
theorem set_row {w : World} {g : Nat} {cs : Array Value} {t : TypeId} (h : w.heap[g]? = some (.cells cs t (0, 0))) (i : Nat) (v : Value) : (w.setCell ⟨g, i, none⟩ v).heap[g]? = some (.cells (cs.setIfInBounds i v) t (0, 0)) := by
  rw [setCell_eq_setRow w g i cs t (0, 0) v h]
  exact setRow_heap w g cs _ t _ h
theorem set_far {w : World} {g k : Nat} {o : Option Obj} (h : w.heap[g]? = o) (hk : g ≠ k) (i : Nat) (v : Value) : (w.setCell ⟨k, i, none⟩ v).heap[g]? = o := (Below.heap_setCell _ _ _ _ hk).trans h


theorem put_row {α : Type} (l : List α) (off m : Nat) (c r : List α) (h : off + m ≤ l.length) : ((l.take (off + m) ++ c ++ r).drop off).take (m + c.length) = (l.drop off).take m ++ c := by
  have hl : (l.take (off + m)).length = off + m := by rw [List.length_take]; omega
  rw [List.append_assoc, List.drop_append_of_le_length (by omega), List.drop_take, show off + m - off = m by omega, ← List.append_assoc]
  exact List.take_left' (by rw [List.length_append, List.length_take, List.length_drop]; omega)
def atL (a : Option Addr) : Nat → Prop := fun q => ∃ off, a = some ⟨q, off, none⟩
theorem over_row {α : Type} (l : List α) (off N p : Nat) (m : List α) (h : off + N ≤ l.length) (hp : p + m.length ≤ N) :
    ((l.take (off + p) ++ m ++ l.drop (off + p + m.length)).drop off).take N = ((l.drop off).take N).take p ++ m ++ ((l.drop off).take N).drop (p + m.length) := by
  have hl : (l.take (off + p)).length = off + p := by rw [List.length_take]; omega
  have ha : ((l.drop off).take p).length = p := by rw [List.length_take, List.length_drop]; omega
  rw [List.append_assoc, List.drop_append_of_le_length (by omega), List.drop_take, show off + p - off = p by omega, ← List.append_assoc, List.take_append, List.take_of_length_le (by rw [List.length_append, ha]; omega), List.length_append, ha, List.take_take, Nat.min_eq_left (by omega), List.drop_take, List.drop_drop]
  congr 3
  omega
theorem range_later {w W : World} {g o : Nat} {cs : List Value} (h : w.rangeAt g o cs) (hg : g < w.heap.size) (k : Below w.heap.size w W) : W.rangeAt g o cs := fun j v hv => (World.cell?_of_block (a := ⟨g, o + j, none⟩) (k.block g hg)).trans (h j v hv)
/-- In a region that only reads: a load from the middle of a row. -/
theorem wpQuiet_load_mid {P : Program} {ops : Array Oper} {C : World → Prop} {Q : Act → Prop} {rest : List Oper} {op : Oper} {a : Act} (hgd : op.guard = none) (ty : TypeId) (x : Operand) (ho : op.op = .load ty x) (b o : Nat) (hx : a.eval x = .pointer (some ⟨b, o, none⟩)) (cs : List Value) (d : TypeDesc) (hS : ∀ w, C w → w.rangeAt b o cs)
    (hu : P.underlying ty = some d) (hd : d.isRow = true) (hi : (P.info? ty).map (·.size) = some cs.length) (h : wpQuiet P ops C Q rest (a.put op.dst (.agg cs.toArray))) : wpQuiet P ops C Q (op :: rest) a := by
  unfold wpQuiet
  rw [if_pos (by simp [Region.wanted, hgd])]
  refine ⟨_, fun w hC => ?_, h⟩
  unfold Oper.quietAt execOp
  simp only [ho, hx, Instr.loadAt, Instr.sureAddr, Sem.run_bind, Sem.run_pure, Result.andThen_ok, run_loadVar_mid w b o ty cs d (hS w hC) hu hd hi]
  exact ⟨rfl, rfl⟩
theorem range_drew {w : World} {b o : Nat} {cs : List Value} (h : w.rangeAt b o cs) : ∀ W, (∃ n, W = w.drewN n) → W.rangeAt b o cs := by
  rintro W ⟨n, rfl⟩
  exact h
theorem wpQuiet_run {P : Program} {ops : Array Oper} {C : World → Prop} {Q : Act → Prop} {rest : List Oper} {op : Oper} {a : Act} (hgd : op.guard = none) (v : Value) (hr : ∀ w, (execOp a.eval op).run P w = .ok (.value v) w) (h : wpQuiet P ops C Q rest (a.put op.dst v)) : wpQuiet P ops C Q (op :: rest) a := by
  unfold wpQuiet
  rw [if_pos (by simp [Region.wanted, hgd])]
  refine ⟨v, fun w hC => ?_, h⟩
  unfold Oper.quietAt
  rw [hr]
  exact ⟨rfl, rfl⟩

theorem run_copy_K {P : Program} (w : World) (dT sT ty elem K : Nat) (g o dLen dCap : Nat) (a : Addr) (sLen sCap : Nat) (cur : Array Value) (t : TypeId) (cs : List Value)
    (hu : P.underlying dT = some (.slice elem)) (hs : (P.info? elem).map (·.size) = some K)
    (hg : w.heap[g]? = some (.cells cur t (0, 0))) (hn : cs.length = Nat.min sLen dLen * K)
    (hsrc : ∀ j v, cs[j]? = some v → w.cell? (a.add j) = some v) (hfit : o + cs.length ≤ cur.size) (h1 : ∀ v ∈ cs, v.oneCell' = true) :
    (Builtin.copy_ #[dT, sT] ty #[.slice (some ⟨g, o, none⟩) dLen dCap, .slice (some a) sLen sCap]).run P w =
      .ok (goInt (Nat.min sLen dLen)) (w.setRow g (cur.toList.take o ++ cs ++ cur.toList.drop (o + cs.length)).toArray) := by
  have hl := run_loadCells_list (P := P) w a cs hsrc
  have hst := run_storeCells_at P g o t cs 0 cur w hg (by simpa using hfit) h1
  cases hq : P.info? elem with
  | none => simp [hq] at hs
  | some i =>
    have hi : i.size = K := by simpa [hq] using hs
    simp [Builtin.copy_, run_underlying hu, Builtin.lenOf, Builtin.firstCells, sizeOf, typeInfo, hq, hi, ← hn, hl, hst]
theorem heap_new {w : World} {o : Obj} {k : Nat} (h : k = w.heap.size) : (w.alloc o).heap[k]? = some o := by subst h; exact World.alloc_heap_new w o
theorem heap_old {w : World} {o : Obj} {k : Nat} {x : Option Obj} (hk : k < w.heap.size) (h : w.heap[k]? = x) : (w.alloc o).heap[k]? = x := (Below.heap_alloc _ _ _ hk).trans h
theorem results_row1 {fn : Func} {p : Tmp} {ty : TypeId} (h : fn.results = #[.cell p ty]) (tmps : Array Value) (w : World) (g : Nat) (v : Value)
    (hp : tmps.getD p undef = .pointer (some ⟨g, 0, none⟩)) (hl : (loadVar ty ⟨g, 0, none⟩).run Try.prog w = .ok v w) :
    (results fn tmps).run Try.prog w = .ok v w := by
  have hp' : tmps[p]?.getD undef = .pointer (some ⟨g, 0, none⟩) := by simpa using hp
  simp [results, h, hp', asAddr, hl]
end Go.Proofs.Ytpdmpekkmblgmaa
