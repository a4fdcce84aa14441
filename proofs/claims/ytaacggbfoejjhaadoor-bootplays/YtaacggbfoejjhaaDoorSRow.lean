/-
  A list of numbers that lies somewhere (Row), and bytes of one's own (Own), as the walks are told of them.
-/
import Derived.Test.YtaacggbfoejjhaaDoorProg
import Derived.Test.YtaacggbfoejjhaaDoorSPower
import Derived.WalkKit
import Derived.ProofKit
import Derived.Handy
import Derived.Below
import Derived.OwnWalk
import Derived.Lib.AppendStr
import Derived.Laws.AppendOwnNone
import Derived.Laws.BytesArg
import Derived.Deep.LoopGhost
import Derived.WalkSpells
import Derived.Laws.BitsAll
import Derived.Laws.BitsAllLaws
namespace Go.Proofs.YtaacggbfoejjhaaDoor.S
open Go.ChangeShapes Go.WideShapes Go.ChangeAt Go.RowKit
set_option linter.unusedVariables false

abbrev bv (n : Int) : Value := .int .u8 n
theorem info5 : (Tryd.prog.info? 5).map (fun i => (i.zero, i.size, i.bytes)) = some (some (.int .u8 0), 1, 1) := by kernel_rfl

/-- The list of numbers that a slice value leads to in a world. -/
structure Row (kd : IntKind) (w : World) (a : Option Addr) (len cap : Nat) (zs : List Int) : Prop where
  size : zs.length = len
  le : len ≤ cap
  nil : a = none → len = 0 ∧ cap = 0
  wf : ∀ z ∈ zs, (Lit.int kd z).wf = true
  mem : len = 0 ∨ ∃ b off, a = some ⟨b, off, none⟩ ∧ b < w.heap.size ∧ ∀ k, k < len → w.cell? ⟨b, off + k, none⟩ = some (.int kd (zs.getD k 0))

theorem wf_u8 {z : Int} (h : (Lit.int .u8 z).wf = true) : 0 ≤ z ∧ z < 256 := by
  have h1 : IntKind.u8.min = 0 := rfl
  have h2 : IntKind.u8.max = 255 := rfl
  simp only [Lit.wf, Bool.and_eq_true, decide_eq_true_eq] at h
  omega
theorem u8_wf {z : Int} (h0 : 0 ≤ z) (h1 : z < 256) : (Lit.int .u8 z).wf = true := WalkArith.wf_u8 (by omega)
theorem Row.byte {w : World} {a : Option Addr} {len cap : Nat} {zs : List Int} (R : Row .u8 w a len cap zs) : Byt zs := fun c hc => wf_u8 (R.wf c hc)
theorem Row.below {kd : IntKind} {w w' : World} {a : Option Addr} {len cap : Nat} {zs : List Int} (R : Row kd w a len cap zs) (hb : Below w.heap.size w w') : Row kd w' a len cap zs where
  size := R.size
  le := R.le
  nil := R.nil
  wf := R.wf
  mem := R.mem.imp id fun ⟨b, off, e, h, c⟩ => ⟨b, off, e, Nat.lt_of_lt_of_le h hb.size, fun k hk => (hb.cell (p := ⟨b, off + k, none⟩) h).trans (c k hk)⟩
theorem Row.drew {kd : IntKind} {w : World} {a : Option Addr} {len cap : Nat} {zs : List Int} (R : Row kd w a len cap zs) : Row kd w.drew a len cap zs := ⟨R.size, R.le, R.nil, R.wf, R.mem⟩
theorem Row.alloc {kd : IntKind} {w : World} {a : Option Addr} {len cap : Nat} {zs : List Int} (R : Row kd w a len cap zs) (o : Obj) : Row kd (w.alloc o) a len cap zs := R.below ((Below.refl _ _).alloc (Nat.le_refl _) o)
theorem row_nil (kd : IntKind) (w : World) : Row kd w none 0 0 [] := ⟨rfl, Nat.le_refl _, fun _ => ⟨rfl, rfl⟩, fun z hz => by simp at hz, .inl rfl⟩
/-- A stretch of a row. -/
theorem Row.part {kd : IntKind} {w : World} {a : Addr} {len cap : Nat} {zs : List Int} (R : Row kd w (some a) len cap zs) (i j : Nat) (hij : i ≤ j) (hj : j ≤ len) : Row kd w (some (a.add i)) (j - i) (cap - i) ((zs.drop i).take (j - i)) where
  size := by have := R.size; simp; omega
  le := by have := R.le; omega
  nil := fun h => by cases h
  wf := fun z hz => R.wf z (List.mem_of_mem_drop (List.mem_of_mem_take hz))
  mem := by
    by_cases h0 : j - i = 0
    · exact .inl h0
    · obtain ⟨b, off, e, hb, hc⟩ := R.mem.resolve_left (by omega)
      cases e
      have hplain : (⟨b, off, none⟩ : Addr).add i = ⟨b, off + i, none⟩ := by unfold Addr.add; split <;> simp_all
      refine .inr ⟨b, off + i, by rw [hplain], hb, fun k hk => ?_⟩
      rw [Nat.add_assoc, hc (i + k) (by omega), List.getD_eq_getElem?_getD, List.getD_eq_getElem?_getD, List.getElem?_take, if_pos hk, List.getElem?_drop]

/-- Bytes of one's own. -/
def Own (base : Nat) (w : World) (v : Value) (zs : List Int) : Prop := w.ownsRow base 5 1 v zs.length (zs.map bv)
theorem Own.nil (base : Nat) (w : World) : Own base w (.slice none 0 0) [] := World.ownsRow_nil w base 5 1
theorem Own.lt {base : Nat} {w : World} {v : Value} {zs : List Int} (h : Own base w v zs) : ∀ k, v.ownBlock = some k → base ≤ k := fun k hk => (World.ownsRow.lt h k hk).1
theorem Own.drew {base : Nat} {w : World} {v : Value} {zs : List Int} (h : Own base w v zs) : Own base w.drew v zs := World.ownsRow.drew h
theorem Own.of_block {base : Nat} {w w' : World} {v : Value} {zs : List Int} (h : Own base w v zs) (hb : ∀ g, v.ownBlock = some g → w'.heap[g]? = w.heap[g]?) : Own base w' v zs := by
  refine ⟨h.1, ?_⟩
  rcases h.2 with hn | ⟨g, cap, cur, rfl, hg, hh, r⟩
  · exact .inl hn
  · exact .inr ⟨g, cap, cur, rfl, hg, (hb g rfl).trans hh, r⟩
theorem Own.below {base : Nat} {w w' : World} {v : Value} {zs : List Int} (h : Own base w v zs) (hb : Below w.heap.size w w') : Own base w' v zs :=
  h.of_block fun g hg => hb.block g (World.ownsRow.lt h g hg).2
theorem Own.alloc {base : Nat} {w : World} {v : Value} {zs : List Int} (h : Own base w v zs) (o : Obj) : Own base (w.alloc o) v zs := World.ownsRow.alloc h o
theorem Own.row {base : Nat} {w : World} {v : Value} {zs : List Int} (h : Own base w v zs) (hb : Byt zs) : ∃ a cap, v = .slice a zs.length cap ∧ Row .u8 w a zs.length cap zs := by
  have h0 : w.ownsRow base 5 1 v zs.length (zs.map bv) := h
  rcases h0.2 with ⟨rfl, hn⟩ | ⟨g, cap, cur, rfl, hg, hh, hn, hc, hcs, ht⟩
  · have e : zs = [] := by simpa using hn
    subst e
    exact ⟨none, 0, rfl, row_nil _ _⟩
  · refine ⟨_, _, rfl, ⟨rfl, hn, fun h => (by cases h), fun z hz => u8_wf (hb z hz).1 (hb z hz).2, .inr ⟨g, 0, rfl, (Array.getElem?_eq_some_iff.1 hh).1, fun k hk => ?_⟩⟩⟩
    rw [Nat.zero_add, World.ownsRow.cellAt h0 k (by omega)]
    simp [List.getD, List.getElem?_eq_getElem (show k < zs.length by omega)]
theorem Own.row' {base : Nat} {w : World} {v : Value} {zs : List Int} (h : Own base w v zs) (hb : Byt zs) : ∃ a n cap, v = .slice a n cap ∧ Row .u8 w a n cap zs ∧ n = zs.length :=
  let ⟨a, c, h1, h2⟩ := h.row hb
  ⟨a, _, c, h1, h2, rfl⟩
theorem Own.at {base base' : Nat} {w : World} {v : Value} {zs : List Int} (h : Own base w v zs) (hb : base' ≤ base) : Own base' w v zs := by
  refine ⟨h.1, ?_⟩
  rcases h.2 with hn | ⟨g, cap, cur, rfl, hg, r⟩
  · exact .inl hn
  · exact .inr ⟨g, cap, cur, rfl, by omega, r⟩
theorem own_len {base : Nat} {w : World} {v : Value} {zs : List Int} (h : Own base w v zs) : ∃ a cap, v = .slice a zs.length cap := by
  have h0 : w.ownsRow base 5 1 v zs.length (zs.map bv) := h
  rcases h0.2 with ⟨rfl, hn⟩ | ⟨g, cap, cur, rfl, hg, hh, hn, hc, hcs, ht⟩
  · have e : zs = [] := by simpa using hn
    subst e
    exact ⟨none, 0, rfl⟩
  · exact ⟨_, _, rfl⟩

/-- 'string(b)' of bytes that lie there. -/
theorem conv_row {w : World} {a : Option Addr} {len cap : Nat} {zs : List Int} (R : Row .u8 w a len cap zs) : (convert 22 9 (.slice a len cap)).run Tryd.prog w = .ok (.string (strOfNums zs)) w := by
  rcases R.mem with h | ⟨b, off, rfl, hb, hc⟩
  · have e : zs = [] := List.eq_nil_of_length_eq_zero (R.size.trans h)
    subst e
    cases a with
    | none => exact run_convert_bytes_nil w 22 5 Tryd.underlying22 Tryd.underlying5 len cap 9 Tryd.underlying9
    | some ad =>
      subst h
      rw [run_convert_bytes_string w 22 9 5 _ 0 cap Tryd.underlying22 Tryd.underlying5 Tryd.underlying9]
      have hl : (loadCells ad 0).run Tryd.prog w = .ok (([] : List Int).map (Value.int .u8)).toArray w := by
        simpa using run_loadCells_list (P := Tryd.prog) w ad [] (fun j v hj => by simp at hj)
      rw [run_bytesToString w ad 0 cap [] hl]
      rfl
  · exact run_convert_bytes_arg w 22 5 Tryd.underlying22 Tryd.underlying5 b off len cap zs R.size hc 9 Tryd.underlying9

/-- The cells that append takes. -/
theorem Row.cells {w : World} {ad : Addr} {len cap : Nat} {zs : List Int} (R : Row .u8 w (some ad) len cap zs) : ∀ (j : Nat) (u : Value), (zs.map bv)[j]? = some u → w.cell? (ad.add j) = some u := by
  intro j u hj
  have hjl : j < zs.length := by
    rcases Nat.lt_or_ge j zs.length with h | h
    · exact h
    · simp [List.getElem?_eq_none h] at hj
  rcases R.mem with h | ⟨b, off, e, hb, hc⟩
  · have := R.size; omega
  · cases e
    have hplain : (⟨b, off, none⟩ : Addr).add j = ⟨b, off + j, none⟩ := by unfold Addr.add; split <;> simp_all
    rw [hplain, hc j (by have := R.size; omega)]
    simp [List.getElem?_eq_getElem hjl] at hj
    subst hj
    simp [List.getD, List.getElem?_eq_getElem hjl]

/-- append(b, c...): bytes of one's own, behind them bytes that lie anywhere. -/
theorem wpList_append_row (w : World) {ops : Array Oper} {rest : List Oper} {o : Oper} {a : Act} {Q : Exit → Act → World → Prop} (hg : o.guard = none)
    (s x : Operand) (hop : o.op = Op.call { callee := Callee.builtin Builtin.append, args := #[s, x], argTypes := #[22, 22] })
    (base : Nat) (v : Value) (zs : List Int) (hs : a.eval s = v) (hown : Own base w v zs) (ao : Option Addr) (m c : Nat) (ys : List Int) (hx : a.eval x = .slice ao m c) (R : Row .u8 w ao m c ys)
    (hb : base ≤ w.heap.size) (hl : zs.length + m ≤ 140737488355328)
    (hK : ∀ v' w', Own base w' v' (zs ++ ys) → Below base w w' → wpList Tryd.prog ops Q rest (a.put o.dst v') w') : wpList Tryd.prog ops Q (o :: rest) a w := by
  obtain ⟨i0, hi, hz0, hz1, hz2⟩ := info_parts info5
  have hlz := R.size
  subst hlz
  cases ao with
  | none =>
    obtain ⟨e1, rfl⟩ := R.nil rfl
    have e : ys = [] := List.eq_nil_of_length_eq_zero e1
    subst e
    exact wpList_append_own_none hg s x 22 hop base 5 i0 1 Tryd.underlying22 hi v zs.length (zs.map bv) hs hown hx (hK v w (by simpa using hown) (Below.refl _ _))
  | some ad =>
    refine wpList_append_own w hg s x 22 hop base 5 i0 (.int .u8 0) 1 1 Tryd.underlying22 hi hz0 hz1 hz2 rfl (by decide) v zs.length (zs.map bv) hs hown ad ys.length c (ys.map bv) hx (by simp) R.cells (ints_oneCell _ _) (by unfold maxLen; omega) (by omega) hb ?_
    intro v' w' ho hgr _
    exact hK v' w' (by simpa [Own] using ho) ((Below.refl _ _).grown hgr hb hown.lt)

/-- The program's table lies as it was laid. -/
def Tab (w : World) : Prop := ∀ i : Nat, i < 16 → w.cell? ⟨0, i, none⟩ = some (.int .u32 (leaf i))
theorem Tab.pos {w : World} (h : Tab w) : 0 < w.heap.size := World.block_lt_of_cell? _ _ (h 0 (by omega))
theorem Tab.below {w w' : World} (h : Tab w) (hb : Below w.heap.size w w') : Tab w' := fun i hi => (hb.cell (p := ⟨0, i, none⟩) h.pos).trans (h i hi)
theorem Tab.below' {w w' : World} {n : Nat} (h : Tab w) (hb : Below n w w') (hn : 0 < n) : Tab w' := fun i hi => (hb.cell (p := ⟨0, i, none⟩) hn).trans (h i hi)
theorem Tab.drew {w : World} (h : Tab w) : Tab w.drew := h
theorem Tab.alloc {w : World} (h : Tab w) (o : Obj) : Tab (w.alloc o) := h.below ((Below.refl _ _).alloc (Nat.le_refl _) o)

end Go.Proofs.YtaacggbfoejjhaaDoor.S
