/-
  Package bag: what lies where.
-/
import Derived.Test.YtoppecppmjpgiaaProg
import Derived.WalkKit
import Derived.ProofKit
import Derived.Handy
import Derived.Below
import Derived.OwnWalk
import Derived.Lib.AppendStr
import Derived.Laws.AppendOwnNone
import Derived.Deep.LoopGhost
import Derived.WalkSpells
import Derived.BigQuiet
import Derived.Deep.QuietTactic
import Derived.WalkLawsBesides
import Derived.Deep.MidRow
import Derived.Laws.CopyRow
import Derived.Laws.CopyOwn
import Derived.RangeFuncRecord
import Derived.Deep.WholeRow
import Derived.ArgAppend
import Derived.Maps.OwnSet
import Derived.DeepKeys4
namespace Go.Proofs.Ytoppecppmjpgiaa
open Go.ChangeShapes Go.WideShapes Go.ChangeAt Go.RowKit Go.Maps
set_option linter.unusedVariables false
set_option linter.unusedSimpArgs false

theorem add_plain (g o j : Nat) : (⟨g, o, none⟩ : Addr).add j = ⟨g, o + j, none⟩ := by unfold Addr.add; split <;> simp_all
/-- Nothing has changed but what C holds of. -/
structure Only (C : Nat → Prop) (w w' : World) : Prop where
  os : w'.os = w.os
  tape : w'.tape = w.tape
  output : w'.output = w.output
  size : w.heap.size ≤ w'.heap.size
  block : ∀ b, b < w.heap.size → ¬ C b → w'.heap[b]? = w.heap[b]?
theorem Only.refl (C : Nat → Prop) (w : World) : Only C w w := ⟨rfl, rfl, rfl, Nat.le_refl _, fun _ _ _ => rfl⟩
theorem Only.trans {C : Nat → Prop} {a b c : World} (h : Only C a b) (k : Only C b c) : Only C a c :=
  ⟨k.os.trans h.os, k.tape.trans h.tape, k.output.trans h.output, Nat.le_trans h.size k.size, fun q hq hn => (k.block q (Nat.lt_of_lt_of_le hq h.size) hn).trans (h.block q hq hn)⟩
theorem Only.mono {C D : Nat → Prop} {a b : World} (h : Only C a b) (hd : ∀ q, q < a.heap.size → C q → D q) : Only D a b := ⟨h.os, h.tape, h.output, h.size, fun q hq hn => h.block q hq (fun hc => hn (hd q hq hc))⟩
theorem Only.drew {C : Nat → Prop} {a b : World} (h : Only C a b) : Only C a b.drew := ⟨h.os, h.tape, h.output, h.size, h.block⟩
theorem Only.drewN {C : Nat → Prop} {a b : World} (h : Only C a b) (n : Nat) : Only C a (b.drewN n) := ⟨h.os, h.tape, h.output, h.size, h.block⟩
theorem Only.alloc {C : Nat → Prop} {a b : World} (h : Only C a b) (o : Obj) : Only C a (b.alloc o) :=
  ⟨h.os, h.tape, h.output, by have := h.size; simp; omega, fun q hq hn => (Below.heap_alloc _ _ _ (Nat.lt_of_lt_of_le hq h.size)).trans (h.block q hq hn)⟩
theorem Only.setCell {C : Nat → Prop} {a b : World} (h : Only C a b) {g : Nat} (hg : g < a.heap.size → C g) (i : Nat) (v : Value) : Only C a (b.setCell ⟨g, i, none⟩ v) :=
  ⟨h.os, h.tape, h.output, by simpa [World.setCell] using h.size, fun q hq hn => (Below.heap_setCell _ _ _ _ (fun e => hn (by have e' : q = g := e; rw [e'] at hq ⊢; exact hg hq))).trans (h.block q hq hn)⟩
theorem Only.setRow {C : Nat → Prop} {a b : World} (h : Only C a b) {g : Nat} (hg : g < a.heap.size → C g) (c : Array Value) : Only C a (b.setRow g c) :=
  ⟨h.os, h.tape, h.output, by rw [size_setRow]; exact h.size, fun q hq hn => (setRow_other _ _ _ _ (fun e => hn (by rw [e] at hq ⊢; exact hg hq))).trans (h.block q hq hn)⟩
theorem Only.below {C : Nat → Prop} {a b : World} (h : Only C a b) {n : Nat} (hs : n ≤ a.heap.size) (hC : ∀ q, C q → n ≤ q) : Below n a b :=
  ⟨h.os, h.tape, h.output, h.size, fun q hq => h.block q (by omega) (fun hc => by have := hC q hc; omega)⟩
theorem Only.of_below {C : Nat → Prop} {a b : World} (h : Below a.heap.size a b) : Only C a b := ⟨h.os, h.tape, h.output, h.size, fun q hq _ => h.block q hq⟩
def at1 (d : Nat) : Nat → Prop := fun b => b = d
def at2 (d l : Nat) : Nat → Prop := fun b => b = d ∨ b = l
theorem Only.set {d : Nat} {a b : World} (h : Only (at1 d) a b) (i : Nat) (v : Value) : Only (at1 d) a (b.setCell ⟨d, i, none⟩ v) := h.setCell (fun _ => rfl) i v
theorem Only.two {d : Nat} {a b : World} (h : Only (at1 d) a b) (l : Nat) : Only (at2 d l) a b := h.mono fun q _ hq => Or.inl hq
def none_ : Nat → Prop := fun _ => False
theorem Only.calm {a b : World} (h : Only none_ a b) : Below a.heap.size a b := h.below (Nat.le_refl _) (fun q hq => hq.elim)

theorem row_cell {w : World} {g : Nat} {cs : Array Value} {t : TypeId} (h : w.heap[g]? = some (.cells cs t (0, 0))) (i : Nat) (v : Value) (hv : cs[i]? = some v) : w.cell? ⟨g, i, none⟩ = some v := by
  simp [World.cell?, h, hv]
theorem row_free {w : World} {g : Nat} {cs : Array Value} {t : TypeId} (h : w.heap[g]? = some (.cells cs t (0, 0))) (i : Nat) : w.frozen? ⟨g, i, none⟩ = false := by simp [World.frozen?, h]
theorem row_lt {w : World} {g : Nat} {o : Obj} (h : w.heap[g]? = some o) : g < w.heap.size := (Array.getElem?_eq_some_iff.1 h).1
theorem set_row {w : World} {g : Nat} {cs : Array Value} {t : TypeId} (h : w.heap[g]? = some (.cells cs t (0, 0))) (i : Nat) (v : Value) : (w.setCell ⟨g, i, none⟩ v).heap[g]? = some (.cells (cs.setIfInBounds i v) t (0, 0)) := by
  rw [setCell_eq_setRow w g i cs t (0, 0) v h]
  exact setRow_heap w g cs _ t _ h
theorem set_far {w : World} {g k : Nat} {o : Option Obj} (h : w.heap[g]? = o) (hk : g ≠ k) (i : Nat) (v : Value) : (w.setCell ⟨k, i, none⟩ v).heap[g]? = o := (Below.heap_setCell _ _ _ _ hk).trans h


theorem laidOut : laidOutB Try.prog = true := by kernel_rfl
theorem keyed65 : Keyed Try.prog 65 := Keyed.of_law (deep_law_laid laidOut (m := 2) (by omega) (of_decide_eq_true (by kernel_rfl)) (by kernel_rfl) (by kernel_rfl))
theorem zero66 (w : World) : (zeroValue 66).run Try.prog w = .ok (.agg #[]) w := by kernel_rfl
/-- A pair of nodes, as a key. -/
abbrev lnk (a b : Int) : Value := .agg #[.int .i64 a, .int .i64 b]
def klOf (a b : Int) : Lit := .string (keyBytes [.int .i64 a, .int .i64 b])
theorem cells65 : Try.prog.cellsOf 65 = 2 := by kernel_rfl
theorem cells3 : Try.prog.cellsOf 3 = 1 := by kernel_rfl
theorem kt65 : Try.prog.keyType 65 = true := by kernel_rfl
theorem lits3 (d : Nat) (x : Int) (hx : (Lit.int .i64 x).wf = true) : Try.prog.keyLits (d + 1) 3 [.int .i64 x] = some [.int .i64 x] := by
  unfold Program.keyLits
  simp only [Try.underlying3]
  simp [hx]
theorem lits65' (d : Nat) (a b : Int) (ha : (Lit.int .i64 a).wf = true) (hb : (Lit.int .i64 b).wf = true) : Try.prog.keyLits (d + 1 + 1) 65 [.int .i64 a, .int .i64 b] = some [.int .i64 a, .int .i64 b] := by
  have h1 := lits3 d a ha
  have h2 := lits3 d b hb
  unfold Program.keyLits
  simp only [Try.underlying65]
  simp [cells65, cells3, h1, h2]
theorem lits65 (a b : Int) (ha : (Lit.int .i64 a).wf = true) (hb : (Lit.int .i64 b).wf = true) : Try.prog.keyLits 142 65 [.int .i64 a, .int .i64 b] = some [.int .i64 a, .int .i64 b] := lits65' 140 a b ha hb
theorem key65 (a b : Int) (ha : (Lit.int .i64 a).wf = true) (hb : (Lit.int .i64 b).wf = true) : keyOf Try.prog 65 (lnk a b) = some (klOf a b) := by
  simp [keyOf, mapKey, Try.underlying65, kt65, Value.formed, cells65]
  exact ⟨_, lits65 a b ha hb, rfl⟩
/-- A packet on its way. -/
structure DG where
  num : Int
  src : Int
  dst : Int
  body : ByteArray
def DG.cells (d : DG) : List Value := [.int .i64 d.num, .int .i64 d.src, .int .i64 d.dst, .string d.body]
def dgv (d : DG) : Value := .agg #[.int .i64 d.num, .int .i64 d.src, .int .i64 d.dst, .string d.body]
theorem info33 : (Try.prog.info? 33).map (fun i => (i.zero, i.size, i.bytes)) = some (some (dgv ⟨0, 0, 0, ByteArray.empty⟩), 4, 40) := by kernel_rfl
end Go.Proofs.Ytoppecppmjpgiaa
