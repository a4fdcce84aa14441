/-
  Reading one (Decode).
-/
import Derived.Test.YticmjlnpjopfbaaDoorGrSlots
import Derived.Test.YticmjlnpjopfbaaDoorFitH
import Derived.Laws.AppendOwnNone
import Derived.Test.YticmjlnpjopfbaaDoorGrEnc
import Derived.Test.YticmjlnpjopfbaaDoorSHeld
import Derived.Test.YticmjlnpjopfbaaDoorWire
import Derived.Test.YticmjlnpjopfbaaDoorCNumber
import Derived.Test.YticmjlnpjopfbaaDoorCParts
import Derived.RangeFuncCalls
import Derived.Test.YticmjlnpjopfbaaDoorSStream
namespace Go.Proofs.YticmjlnpjopfbaaDoor
open Go.ChangeShapes Go.WideShapes Go.ChangeAt Go.RowKit
set_option linter.unusedVariables false
set_option linter.unusedSimpArgs false

theorem info38 : (Tryd.prog.info? 38).map (fun i => (i.zero, i.size, i.bytes)) = some (some (itv itZ), 19, 160) := by kernel_rfl
theorem itc_len (x : Itm) : (itc x).length = 19 := rfl
theorem itcs_len (l : List Itm) : (l.flatMap itc).length = l.length * 19 := by
  induction l with
  | nil => rfl
  | cons x l ih => rw [List.flatMap_cons, List.length_append, ih, itc_len, List.length_cons]; omega
theorem itcs_at : ∀ (l : List Itm) (j i : Nat), j < l.length → i < 19 → (l.flatMap itc)[j * 19 + i]? = (itc (l.getD j itZ))[i]?
  | [], _, _, h, _ => by simp at h
  | f :: fs, 0, i, _, hi => by
    rw [List.flatMap_cons, List.getElem?_append_left (by rw [itc_len]; omega)]
    simp
  | f :: fs, j + 1, i, h, hi => by
    rw [List.flatMap_cons, List.getElem?_append_right (by rw [itc_len]; omega), itc_len, show (j + 1) * 19 + i - 19 = j * 19 + i by omega, itcs_at fs j i (by simpa using h) hi, List.getD_cons_succ]
theorem itc_one (x : Itm) : ∀ u ∈ itc x, u.oneCell' = true := by simp [itc, Value.oneCell']
theorem itcs_one (l : List Itm) : ∀ u ∈ l.flatMap itc, u.oneCell' = true := by
  intro u hu
  obtain ⟨x, _, h⟩ := List.mem_flatMap.1 hu
  exact itc_one x u h
theorem RowI.cells {w : World} {b off len cap : Nat} {l : List Itm} (R : RowI w (some ⟨b, off, none⟩) len cap l) : ∀ j u, (l.flatMap itc)[j]? = some u → w.cell? ((⟨b, off, none⟩ : Addr).add j) = some u := by
  intro j u hu
  have hj := (List.getElem?_eq_some_iff.1 hu).1
  rw [itcs_len] at hj
  have hsz := R.size
  rcases R.mem with h | ⟨b', off', e, _, hc⟩
  · omega
  · cases e
    have e1 : j / 19 * 19 + j % 19 = j := by omega
    have h1 : j / 19 < l.length := by omega
    have h2 : j % 19 < 19 := by omega
    rw [← e1, itcs_at l _ _ h1 h2] at hu
    rw [add_plain]
    have := hc (j / 19) (by omega) (j % 19) u hu
    rw [show off + j = off + j / 19 * 19 + j % 19 by omega]
    exact this
theorem rowI_owns {w : World} {base : Nat} {v : Value} {l : List Itm} (h : w.ownsRow base 38 19 v l.length (l.flatMap itc)) : ∃ a cap, v = .slice a l.length cap ∧ RowI w a l.length cap l ∧ (a = none ∨ ∃ g, a = some ⟨g, 0, none⟩ ∧ base ≤ g) := by
  rcases h.2 with ⟨rfl, hn⟩ | ⟨g, cap, cur, rfl, hg, hh, hn, hc, hcs, ht⟩
  · have e : l = [] := List.eq_nil_of_length_eq_zero hn
    subst e
    exact ⟨none, 0, rfl, rowI_nil _, .inl rfl⟩
  · refine ⟨_, _, rfl, ⟨rfl, hn, by unfold maxLen at hc; omega, fun h => (by cases h), .inr ⟨g, 0, rfl, (Array.getElem?_eq_some_iff.1 hh).1, fun j hj => ?_⟩⟩, .inr ⟨g, rfl, hg⟩⟩
    intro i v hv
    have hi : i < 19 := (List.getElem?_eq_some_iff.1 hv).1
    rw [cell_of_row _ _ _ _ 38 _ hh]
    have e := itcs_at l j i hj hi
    rw [← ht, List.getElem?_take, if_pos (by omega), hv] at e
    rw [Nat.zero_add]
    simpa using e

/-- append(nil, items...). -/
theorem wpList_append_its (w : World) {ops : Array Oper} {rest : List Oper} {o : Oper} {a : Act} {Q : Exit → Act → World → Prop} (hg : o.guard = none)
    (s x : Operand) (hop : o.op = Op.call { callee := Callee.builtin Builtin.append, args := #[s, x], argTypes := #[22, 22] })
    (base : Nat) (hs : a.eval s = .slice none 0 0) (ad : Option Addr) (len cap : Nat) (l : List Itm) (hx : a.eval x = .slice ad len cap) (R : RowI w ad len cap l) (hbase : base ≤ w.heap.size) (hb : len * 160 ≤ 140737488355328)
    (hK : ∀ v' w', w'.ownsRow base 38 19 v' l.length (l.flatMap itc) → Below w.heap.size w w' → wpList Tryd.prog ops Q rest (a.put o.dst v') w') : wpList Tryd.prog ops Q (o :: rest) a w := by
  obtain ⟨i0, hi, hz0, hz1, hz2⟩ := info_parts info38
  have hsz := R.size
  cases ad with
  | none =>
    obtain ⟨rfl, rfl⟩ := R.nil rfl
    have e : l = [] := List.eq_nil_of_length_eq_zero hsz
    subst e
    exact wpList_append_own_none hg s x 22 hop base 38 i0 19 Tryd.underlying22 hi (.slice none 0 0) 0 [] hs (World.ownsRow_nil w base 38 19) hx (hK _ w (World.ownsRow_nil w base 38 19) (Below.refl _ _))
  | some ad =>
    by_cases h0 : len = 0
    · subst h0
      have e : l = [] := List.eq_nil_of_length_eq_zero hsz
      subst e
      refine wpList_append_own w hg s x 22 hop base 38 i0 (itv itZ) 19 160 Tryd.underlying22 hi hz0 hz1 hz2 rfl (by decide) (.slice none 0 0) 0 [] hs (World.ownsRow_nil w base 38 19) ad 0 cap [] hx rfl (fun j u h => by simp at h) (fun u h => by simp at h) (by unfold maxLen; omega) (by omega) hbase ?_
      intro v' w' own hgr _
      exact hK v' w' own ((Below.refl _ _).grown hgr (Nat.le_refl _) (fun k hk => by cases hk))
    · obtain ⟨b, off, e, _, _⟩ := R.mem.resolve_left h0
      cases e
      refine wpList_append_own w hg s x 22 hop base 38 i0 (itv itZ) 19 160 Tryd.underlying22 hi hz0 hz1 hz2 rfl (by decide) (.slice none 0 0) 0 [] hs (World.ownsRow_nil w base 38 19) ⟨b, off, none⟩ len cap (l.flatMap itc) hx (by rw [itcs_len, hsz]) R.cells (itcs_one l) (by unfold maxLen; omega) (by omega) hbase ?_
      intro v' w' own hgr _
      rw [List.nil_append, Nat.zero_add, ← hsz] at own
      exact hK v' w' own ((Below.refl _ _).grown hgr (Nat.le_refl _) (fun k hk => by cases hk))
theorem wpList_loadPk {ops : Array Oper} {rest : List Oper} {o : Oper} {a : Act} {W : World} {Q : Exit → Act → World → Prop} (x : Operand) (ho : o.op = .load 24 x)
    (hw : Region.wanted o (yielded ops a.tmps) = true) (pb : Nat) (p : Pkt) (ad : Option Addr) (len cap : Nat) (P : PkAt W pb p ad len cap) (hx : a.eval x = .pointer (some ⟨pb, 0, none⟩))
    (h : wpList Tryd.prog ops Q rest (a.put o.dst (pkv p ad len cap)) W) : wpList Tryd.prog ops Q (o :: rest) a W :=
  wpList_step fun K hK => by
    rw [if_pos hw]
    exact wp_load_agg 24 x ho pb 0 hx (pkc p ad len cap) _ (fun j v h => by rw [Nat.zero_add]; exact P j v h) Tryd.underlying24 rfl (by kernel_rfl) (hK _ _ h)
theorem PkAt.set7 {W : World} {pb : Nat} {p : Pkt} {a : Option Addr} {len cap : Nat} (h : PkAt W pb p a len cap) (a' : Option Addr) (len' cap' : Nat) : PkAt (W.setCell ⟨pb, 7, none⟩ (.slice a' len' cap')) pb p a' len' cap' := by
  intro j v hj
  by_cases e : j = 7
  · subst e
    rw [World.cell?_setCell_same _ _ _ (h 7 _ rfl)]
    simpa [pkc] using hj
  · have hj' : (pkc p a len cap)[j]? = some v := by
      match j, e with
      | 0, _ => exact hj
      | 1, _ => exact hj
      | 2, _ => exact hj
      | 3, _ => exact hj
      | 4, _ => exact hj
      | 5, _ => exact hj
      | 6, _ => exact hj
      | 7, e => exact absurd rfl e
      | n + 8, _ => simp [pkc] at hj
    rw [World.cell?_setCell_other _ _ _ _ (by intro h; injection h with _ h; exact e h.symm)]
    exact h j v hj'
def zPk8 : Array Value := #[.int .i64 0, .int .i64 0, .int .i64 0, .int .i64 0, .int .i64 0, .int .i64 0, .int .i64 0, .slice none 0 0]

set_option maxRecDepth 100000 in
set_option maxHeartbeats 4000000 in
theorem copied_any (p : Pkt) (a : Option Addr) (len cap : Nat) (w : World) (R : RowI w a len cap p.items) (hb : len * 160 ≤ 140737488355328) :
    Calls Tryd.prog 9 #[pkv p a len cap] w fun e w' => ∃ a' cap', e = .returned (pkv p a' len cap') ∧ RowI w' a' len cap' p.items ∧ Below w.heap.size w w' := by
  have hsz := R.size
  have R3 := ((R.alloc (pkObj p a len cap)).alloc (.cells zPk8 24)).alloc (pkObj p none 0 0)
  have B3 : Below w.heap.size w (((w.alloc (pkObj p a len cap)).alloc (.cells zPk8 24)).alloc (pkObj p none 0 0)) := (((Below.refl _ _).alloc (Nat.le_refl _) _).alloc (by simp) _).alloc (by simp; omega) _
  have HL : Hid (p.items.length = len) := hsz
  clear hsz
  go_enter Tryd.func9, Tryd.ntmps9
  go_wp2_with (at_builtin; refine wpList_append_its _ rfl _ _ rfl (w.heap.size + 3) rfl a len cap p.items rfl R3 (by first | (simp; done) | (simp; omega)) hb ?_)
  intro v4 w4 own4 hb40
  obtain ⟨W3, hW3⟩ : ∃ W3, ((w.alloc (pkObj p a len cap)).alloc (.cells zPk8 24)).alloc (pkObj p none 0 0) = W3 := ⟨_, rfl⟩
  have e3 : W3.heap.size = w.heap.size + 1 + 1 + 1 := by rw [← hW3]; simp
  have hb4 : Below W3.heap.size W3 w4 := by rw [e3, ← hW3]; exact hb40
  clear hb40
  have p3 : PkAt W3 (w.heap.size + 1 + 1) p none 0 0 := by
    rw [← hW3]
    have := pkAt_new ((w.alloc (pkObj p a len cap)).alloc (.cells zPk8 24)) p none 0 0
    simpa using this
  have f3 : W3.frozen? ⟨w.heap.size + 1 + 1, 7, none⟩ = false := by
    rw [← hW3]
    have h := World.alloc_heap_new ((w.alloc (pkObj p a len cap)).alloc (.cells zPk8 24)) (pkObj p none 0 0)
    rw [World.size_alloc, World.size_alloc] at h
    unfold World.frozen?
    rw [show (⟨w.heap.size + 1 + 1, 7, none⟩ : Addr).block = w.heap.size + 1 + 1 from rfl, h]
    rfl
  have g1 : W3.heap[w.heap.size + 1]? = some (.cells zPk8 24 (0, 0)) := by
    rw [← hW3]
    have := World.alloc_heap_new (w.alloc (pkObj p a len cap)) (.cells zPk8 24)
    rw [World.size_alloc] at this
    exact (Below.heap_alloc _ _ _ (by simp)).trans this
  rw [hW3] at B3 R3
  clear hW3
  obtain ⟨a4, c4, rfl, R4, hA4⟩ := rowI_owns own4
  have P4 : PkAt w4 (w.heap.size + 1 + 1) p none 0 0 := p3.below hb4
  have q7 := P4 7 _ rfl
  have z7 := P4.lt
  have fz : w4.frozen? ⟨w.heap.size + 1 + 1, 7, none⟩ = false := (World.frozen?_of_block (a := ⟨w.heap.size + 1 + 1, 7, none⟩) (hb4.block (w.heap.size + 1 + 1) (by omega))).trans f3
  have PKx := P4.set7 a4 p.items.length c4
  have G1 : (w4.setCell ⟨w.heap.size + 1 + 1, 7, none⟩ (.slice a4 p.items.length c4)).heap[w.heap.size + 1]? = some (.cells zPk8 24 (0, 0)) :=
    (Below.heap_setCell _ _ _ _ (by show w.heap.size + 1 ≠ w.heap.size + 1 + 1; omega)).trans ((hb4.block (w.heap.size + 1) (by omega)).trans g1)
  have z3 : w.heap.size ≤ W3.heap.size := by omega
  clear g1 own4 P4 e3 p3 f3
  go_wp2_with (first
    | ((with_reducible show wpList _ _ _ (Oper.mk _ (Op.load 24 _) _ _ _ _ :: _) _ _); refine wpList_loadPk _ rfl rfl _ _ _ _ _ PKx rfl ?_)
    | ((with_reducible show wpList _ _ _ (Oper.mk _ (Op.store 24 _ _) _ _ _ _ :: _) _ _); refine wpList_store_row rfl 24 _ _ rfl (w.heap.size + 1) (pkc p a4 p.items.length c4).toArray rfl rfl 24 _ G1 (by kernel_rfl) rfl (by simp [pkc, Value.oneCell']) ?_))
  have B4 : Below w.heap.size w w4 := B3.trans (hb4.mono z3)
  have hl := HL.out
  refine bodyPost_ret (results_cell_row rfl _ _ (w.heap.size + 1) 24 (pkc p a4 p.items.length c4).toArray (0, 0) _ rfl (setRow_heap _ _ _ _ _ _ G1) Tryd.underlying24 rfl (by kernel_rfl)) rfl ⟨a4, c4, by rw [hl]; rfl, ?_, ?_⟩
  · rw [← hl]
    refine ⟨R4.size, R4.le, R4.max, R4.nil, R4.mem.imp id fun ⟨b, off, e, h, c⟩ => ⟨b, off, e, by simpa using h, fun j hj => (c j hj).of_block ?_⟩⟩
    have hbb : w.heap.size + 3 ≤ b := by
      rcases hA4 with h' | ⟨g, h', hg⟩
      · rw [h'] at e; cases e
      · rw [h'] at e; cases e; exact hg
    exact (setRow_other _ _ _ _ (by omega)).trans (Below.heap_setCell _ _ _ _ (by show b ≠ w.heap.size + 1 + 1; omega))
  · have B5 := B4.setCell (p := ⟨w.heap.size + 1 + 1, 7, none⟩) (by show w.heap.size ≤ w.heap.size + 1 + 1; omega) (.slice a4 p.items.length c4)
    exact ⟨B5.os, B5.tape, B5.output, by rw [size_setRow]; exact B5.size, fun b hb => (setRow_other _ _ _ _ (by omega)).trans (B5.block b hb)⟩

end Go.Proofs.YticmjlnpjopfbaaDoor

namespace Go.Proofs.YticmjlnpjopfbaaDoor
open Go.ChangeShapes Go.WideShapes Go.ChangeAt Go.RowKit
set_option linter.unusedVariables false
set_option linter.unusedSimpArgs false

set_option maxRecDepth 100000 in
set_option maxHeartbeats 2000000 in
theorem put_small (b o : Nat) (v : Value) (kd n : Int) (t : ByteArray) (i : Bool) (w : World) (hb : b < w.heap.size) (h : w.cell? ⟨b, o, none⟩ = some v) (hf : w.frozen? ⟨b, o, none⟩ = false) : Calls Tryd.prog 68 #[.agg #[.int .i64 1, .pointer (some ⟨b, o, none⟩), .pointer none, .pointer none, .pointer none], C.fv kd n t i] w fun e w' => (∃ r, e = .returned r) ∧ w' = ((w.setCell ⟨b, o, none⟩ (.int .i64 n)).alloc (.cells #[.int .i64 1, .pointer (some ⟨b, o, none⟩), .pointer none, .pointer none, .pointer none] 73)).alloc (.cells #[.int .i64 kd, .int .i64 n, .string t, .bool i] 75) := by
  have B : ∀ o1 o2 : Obj, Below w.heap.size w ((w.alloc o1).alloc o2) := fun o1 o2 => ((Below.refl _ _).alloc (Nat.le_refl _) o1).alloc (by simp) o2
  have hC : ∀ o1 o2 : Obj, ((w.alloc o1).alloc o2).cell? ⟨b, o, none⟩ = some v := fun o1 o2 => ((B o1 o2).cell (p := ⟨b, o, none⟩) hb).trans h
  have hF : ∀ o1 o2 : Obj, ((w.alloc o1).alloc o2).frozen? ⟨b, o, none⟩ = false := fun o1 o2 => (World.frozen?_of_block (a := ⟨b, o, none⟩) ((B o1 o2).block b hb)).trans hf
  clear h hf B
  go_enter Tryd.func68, Tryd.ntmps68
  go_wp2
  exact bodyPost_end (v := .tuple #[]) (by simp [results, Tryd.results68, go_sem]) rfl ⟨⟨_, rfl⟩, rfl⟩
set_option maxRecDepth 100000 in
set_option maxHeartbeats 2000000 in
theorem put_num (b o : Nat) (v : Value) (kd n : Int) (t : ByteArray) (i : Bool) (w : World) (hb : b < w.heap.size) (h : w.cell? ⟨b, o, none⟩ = some v) (hf : w.frozen? ⟨b, o, none⟩ = false) : Calls Tryd.prog 68 #[.agg #[.int .i64 1, .pointer none, .pointer (some ⟨b, o, none⟩), .pointer none, .pointer none], C.fv kd n t i] w fun e w' => (∃ r, e = .returned r) ∧ w' = ((w.setCell ⟨b, o, none⟩ (.int .i64 n)).alloc (.cells #[.int .i64 1, .pointer none, .pointer (some ⟨b, o, none⟩), .pointer none, .pointer none] 73)).alloc (.cells #[.int .i64 kd, .int .i64 n, .string t, .bool i] 75) := by
  have B : ∀ o1 o2 : Obj, Below w.heap.size w ((w.alloc o1).alloc o2) := fun o1 o2 => ((Below.refl _ _).alloc (Nat.le_refl _) o1).alloc (by simp) o2
  have hC : ∀ o1 o2 : Obj, ((w.alloc o1).alloc o2).cell? ⟨b, o, none⟩ = some v := fun o1 o2 => ((B o1 o2).cell (p := ⟨b, o, none⟩) hb).trans h
  have hF : ∀ o1 o2 : Obj, ((w.alloc o1).alloc o2).frozen? ⟨b, o, none⟩ = false := fun o1 o2 => (World.frozen?_of_block (a := ⟨b, o, none⟩) ((B o1 o2).block b hb)).trans hf
  clear h hf B
  go_enter Tryd.func68, Tryd.ntmps68
  go_wp2
  exact bodyPost_end (v := .tuple #[]) (by simp [results, Tryd.results68, go_sem]) rfl ⟨⟨_, rfl⟩, rfl⟩
set_option maxRecDepth 100000 in
set_option maxHeartbeats 2000000 in
theorem put_sgn (b o : Nat) (v : Value) (kd n : Int) (t : ByteArray) (i : Bool) (w : World) (hb : b < w.heap.size) (h : w.cell? ⟨b, o, none⟩ = some v) (hf : w.frozen? ⟨b, o, none⟩ = false) : Calls Tryd.prog 68 #[.agg #[.int .i64 2, .pointer none, .pointer (some ⟨b, o, none⟩), .pointer none, .pointer none], C.fv kd n t i] w fun e w' => (∃ r, e = .returned r) ∧ w' = ((w.setCell ⟨b, o, none⟩ (.int .i64 n)).alloc (.cells #[.int .i64 2, .pointer none, .pointer (some ⟨b, o, none⟩), .pointer none, .pointer none] 73)).alloc (.cells #[.int .i64 kd, .int .i64 n, .string t, .bool i] 75) := by
  have B : ∀ o1 o2 : Obj, Below w.heap.size w ((w.alloc o1).alloc o2) := fun o1 o2 => ((Below.refl _ _).alloc (Nat.le_refl _) o1).alloc (by simp) o2
  have hC : ∀ o1 o2 : Obj, ((w.alloc o1).alloc o2).cell? ⟨b, o, none⟩ = some v := fun o1 o2 => ((B o1 o2).cell (p := ⟨b, o, none⟩) hb).trans h
  have hF : ∀ o1 o2 : Obj, ((w.alloc o1).alloc o2).frozen? ⟨b, o, none⟩ = false := fun o1 o2 => (World.frozen?_of_block (a := ⟨b, o, none⟩) ((B o1 o2).block b hb)).trans hf
  clear h hf B
  go_enter Tryd.func68, Tryd.ntmps68
  go_wp2
  exact bodyPost_end (v := .tuple #[]) (by simp [results, Tryd.results68, go_sem]) rfl ⟨⟨_, rfl⟩, rfl⟩
set_option maxRecDepth 100000 in
set_option maxHeartbeats 2000000 in
theorem put_text (b o : Nat) (v : Value) (kd n : Int) (t : ByteArray) (i : Bool) (w : World) (hb : b < w.heap.size) (h : w.cell? ⟨b, o, none⟩ = some v) (hf : w.frozen? ⟨b, o, none⟩ = false) : Calls Tryd.prog 68 #[.agg #[.int .i64 3, .pointer none, .pointer none, .pointer (some ⟨b, o, none⟩), .pointer none], C.fv kd n t i] w fun e w' => (∃ r, e = .returned r) ∧ w' = ((w.setCell ⟨b, o, none⟩ (.string t)).alloc (.cells #[.int .i64 3, .pointer none, .pointer none, .pointer (some ⟨b, o, none⟩), .pointer none] 73)).alloc (.cells #[.int .i64 kd, .int .i64 n, .string t, .bool i] 75) := by
  have B : ∀ o1 o2 : Obj, Below w.heap.size w ((w.alloc o1).alloc o2) := fun o1 o2 => ((Below.refl _ _).alloc (Nat.le_refl _) o1).alloc (by simp) o2
  have hC : ∀ o1 o2 : Obj, ((w.alloc o1).alloc o2).cell? ⟨b, o, none⟩ = some v := fun o1 o2 => ((B o1 o2).cell (p := ⟨b, o, none⟩) hb).trans h
  have hF : ∀ o1 o2 : Obj, ((w.alloc o1).alloc o2).frozen? ⟨b, o, none⟩ = false := fun o1 o2 => (World.frozen?_of_block (a := ⟨b, o, none⟩) ((B o1 o2).block b hb)).trans hf
  clear h hf B
  go_enter Tryd.func68, Tryd.ntmps68
  go_wp2
  exact bodyPost_end (v := .tuple #[]) (by simp [results, Tryd.results68, go_sem]) rfl ⟨⟨_, rfl⟩, rfl⟩
set_option maxRecDepth 100000 in
set_option maxHeartbeats 2000000 in
theorem put_truth (b o : Nat) (v : Value) (kd n : Int) (t : ByteArray) (i : Bool) (w : World) (hb : b < w.heap.size) (h : w.cell? ⟨b, o, none⟩ = some v) (hf : w.frozen? ⟨b, o, none⟩ = false) : Calls Tryd.prog 68 #[.agg #[.int .i64 4, .pointer none, .pointer none, .pointer none, .pointer (some ⟨b, o, none⟩)], C.fv kd n t i] w fun e w' => (∃ r, e = .returned r) ∧ w' = ((w.setCell ⟨b, o, none⟩ (.bool i)).alloc (.cells #[.int .i64 4, .pointer none, .pointer none, .pointer none, .pointer (some ⟨b, o, none⟩)] 73)).alloc (.cells #[.int .i64 kd, .int .i64 n, .string t, .bool i] 75) := by
  have B : ∀ o1 o2 : Obj, Below w.heap.size w ((w.alloc o1).alloc o2) := fun o1 o2 => ((Below.refl _ _).alloc (Nat.le_refl _) o1).alloc (by simp) o2
  have hC : ∀ o1 o2 : Obj, ((w.alloc o1).alloc o2).cell? ⟨b, o, none⟩ = some v := fun o1 o2 => ((B o1 o2).cell (p := ⟨b, o, none⟩) hb).trans h
  have hF : ∀ o1 o2 : Obj, ((w.alloc o1).alloc o2).frozen? ⟨b, o, none⟩ = false := fun o1 o2 => (World.frozen?_of_block (a := ⟨b, o, none⟩) ((B o1 o2).block b hb)).trans hf
  clear h hf B
  go_enter Tryd.func68, Tryd.ntmps68
  go_wp2
  exact bodyPost_end (v := .tuple #[]) (by simp [results, Tryd.results68, go_sem]) rfl ⟨⟨_, rfl⟩, rfl⟩

end Go.Proofs.YticmjlnpjopfbaaDoor

namespace Go.Proofs.YticmjlnpjopfbaaDoor
open Go.ChangeShapes Go.WideShapes Go.ChangeAt Go.RowKit
open C (Fld)
set_option linter.unusedVariables false
set_option linter.unusedSimpArgs false

/-- A slot's place, and what a field lays there. -/
def SlotTo (s : Slt) (b o : Nat) (g : Fld → Value) : Prop :=
  (s = slS ⟨b, o, none⟩ ∧ g = fun f => .int .i64 f.num) ∨
  (s = slN ⟨b, o, none⟩ ∧ g = fun f => .int .i64 f.num) ∨
  (s = slG ⟨b, o, none⟩ ∧ g = fun f => .int .i64 f.num) ∨
  (s = slT ⟨b, o, none⟩ ∧ g = fun f => .string f.text) ∨
  (s = slB ⟨b, o, none⟩ ∧ g = fun f => .bool f.is)
theorem SlotTo.small (b o : Nat) : SlotTo (slS ⟨b, o, none⟩) b o (fun f => .int .i64 f.num) := .inl ⟨rfl, rfl⟩
theorem SlotTo.num (b o : Nat) : SlotTo (slN ⟨b, o, none⟩) b o (fun f => .int .i64 f.num) := .inr (.inl ⟨rfl, rfl⟩)
theorem SlotTo.sgn (b o : Nat) : SlotTo (slG ⟨b, o, none⟩) b o (fun f => .int .i64 f.num) := .inr (.inr (.inl ⟨rfl, rfl⟩))
theorem SlotTo.text (b o : Nat) : SlotTo (slT ⟨b, o, none⟩) b o (fun f => .string f.text) := .inr (.inr (.inr (.inl ⟨rfl, rfl⟩)))
theorem SlotTo.truth (b o : Nat) : SlotTo (slB ⟨b, o, none⟩) b o (fun f => .bool f.is) := .inr (.inr (.inr (.inr (⟨rfl, rfl⟩))))
theorem put_slot {s : Slt} {b o : Nat} {g : Fld → Value} (hs : SlotTo s b o g) (f : Fld) (w : World) (v : Value) (hb : b < w.heap.size) (h : w.cell? ⟨b, o, none⟩ = some v) (hf : w.frozen? ⟨b, o, none⟩ = false) :
    Calls Tryd.prog 68 #[s.v, C.fv f.kind f.num f.text f.is] w fun e w' => (∃ r, e = .returned r) ∧ ∃ o1 o2, w' = ((w.setCell ⟨b, o, none⟩ (g f)).alloc o1).alloc o2 := by
  rcases hs with ⟨rfl, rfl⟩ | ⟨rfl, rfl⟩ | ⟨rfl, rfl⟩ | ⟨rfl, rfl⟩ | ⟨rfl, rfl⟩
  · exact (put_small b o v f.kind f.num f.text f.is w hb h hf).mono fun e w' ⟨h1, h2⟩ => ⟨h1, _, _, h2⟩
  · exact (put_num b o v f.kind f.num f.text f.is w hb h hf).mono fun e w' ⟨h1, h2⟩ => ⟨h1, _, _, h2⟩
  · exact (put_sgn b o v f.kind f.num f.text f.is w hb h hf).mono fun e w' ⟨h1, h2⟩ => ⟨h1, _, _, h2⟩
  · exact (put_text b o v f.kind f.num f.text f.is w hb h hf).mono fun e w' ⟨h1, h2⟩ => ⟨h1, _, _, h2⟩
  · exact (put_truth b o v f.kind f.num f.text f.is w hb h hf).mono fun e w' ⟨h1, h2⟩ => ⟨h1, _, _, h2⟩
/-- The kind of the field at a place, whatever the packet. -/
def kAt (k : Nat) : Int := if k < 8 then 1 else itK.getD ((k - 8) % 19) 0
theorem hdS_to (pb cb : Nat) : ∀ (j : Nat) (s : Slt), (hdS pb cb)[j]? = some s → (j < 7 ∧ SlotTo s pb j (fun f => .int .i64 f.num) ∧ s.kd = 1) ∨ (j = 7 ∧ SlotTo s cb 0 (fun f => .int .i64 f.num) ∧ s.kd = 1) := by
  intro j s hs
  have hj : j < 8 := (List.getElem?_eq_some_iff.1 hs).1
  match j, hj with
  | 0, _ => cases hs; exact .inl ⟨by omega, SlotTo.small _ _, rfl⟩
  | 1, _ => cases hs; exact .inl ⟨by omega, SlotTo.small _ _, rfl⟩
  | 2, _ => cases hs; exact .inl ⟨by omega, SlotTo.small _ _, rfl⟩
  | 3, _ => cases hs; exact .inl ⟨by omega, SlotTo.num _ _, rfl⟩
  | 4, _ => cases hs; exact .inl ⟨by omega, SlotTo.num _ _, rfl⟩
  | 5, _ => cases hs; exact .inl ⟨by omega, SlotTo.num _ _, rfl⟩
  | 6, _ => cases hs; exact .inl ⟨by omega, SlotTo.num _ _, rfl⟩
  | 7, _ => cases hs; exact .inr ⟨rfl, SlotTo.small _ _, rfl⟩
/-- What the j-th field of an item lays. -/
def itVal (j : Nat) (f : Fld) : Value := if itK.getD j 0 = 3 then .string f.text else if itK.getD j 0 = 4 then .bool f.is else .int .i64 f.num
theorem itS_to (b o : Nat) : ∀ (j : Nat) (s : Slt), (itS b o)[j]? = some s → SlotTo s b (o + j) (itVal j) ∧ s.kd = itK.getD j 0 := by
  intro j s hs
  have hj : j < 19 := (List.getElem?_eq_some_iff.1 hs).1
  match j, hj with
  | 0, _ => cases hs; exact ⟨SlotTo.text _ _, rfl⟩
  | 1, _ => cases hs; exact ⟨SlotTo.num _ _, rfl⟩
  | 2, _ => cases hs; exact ⟨SlotTo.small _ _, rfl⟩
  | 3, _ => cases hs; exact ⟨SlotTo.truth _ _, rfl⟩
  | 4, _ => cases hs; exact ⟨SlotTo.small _ _, rfl⟩
  | 5, _ => cases hs; exact ⟨SlotTo.num _ _, rfl⟩
  | 6, _ => cases hs; exact ⟨SlotTo.num _ _, rfl⟩
  | 7, _ => cases hs; exact ⟨SlotTo.small _ _, rfl⟩
  | 8, _ => cases hs; exact ⟨SlotTo.sgn _ _, rfl⟩
  | 9, _ => cases hs; exact ⟨SlotTo.truth _ _, rfl⟩
  | 10, _ => cases hs; exact ⟨SlotTo.sgn _ _, rfl⟩
  | 11, _ => cases hs; exact ⟨SlotTo.truth _ _, rfl⟩
  | 12, _ => cases hs; exact ⟨SlotTo.sgn _ _, rfl⟩
  | 13, _ => cases hs; exact ⟨SlotTo.small _ _, rfl⟩
  | 14, _ => cases hs; exact ⟨SlotTo.num _ _, rfl⟩
  | 15, _ => cases hs; exact ⟨SlotTo.truth _ _, rfl⟩
  | 16, _ => cases hs; exact ⟨SlotTo.sgn _ _, rfl⟩
  | 17, _ => cases hs; exact ⟨SlotTo.small _ _, rfl⟩
  | 18, _ => cases hs; exact ⟨SlotTo.num _ _, rfl⟩
/-- An item of which one field more is read. -/
theorem itc_snoc (c : List Fld) (f : Fld) (h : c.length < 19) : itc (itOf (c ++ [f])) = (itc (itOf c)).set c.length (itVal c.length f) := by
  rcases c with _ | ⟨f0, _ | ⟨f1, _ | ⟨f2, _ | ⟨f3, _ | ⟨f4, _ | ⟨f5, _ | ⟨f6, _ | ⟨f7, _ | ⟨f8, _ | ⟨f9, _ | ⟨f10, _ | ⟨f11, _ | ⟨f12, _ | ⟨f13, _ | ⟨f14, _ | ⟨f15, _ | ⟨f16, _ | ⟨f17, _ | ⟨f18, r⟩⟩⟩⟩⟩⟩⟩⟩⟩⟩⟩⟩⟩⟩⟩⟩⟩⟩⟩
  all_goals first | rfl | (simp at h <;> omega)
theorem hd_snoc (fs : List Fld) (f : Fld) (h : fs.length < 7) (a : Option Addr) (len cap : Nat) : pkc (hdOf (fs ++ [f]) []) a len cap = (pkc (hdOf fs []) a len cap).set fs.length (.int .i64 f.num) := by
  rcases fs with _ | ⟨f0, _ | ⟨f1, _ | ⟨f2, _ | ⟨f3, _ | ⟨f4, _ | ⟨f5, _ | ⟨f6, r⟩⟩⟩⟩⟩⟩⟩
  all_goals first | rfl | (simp at h <;> omega)
theorem hd_snoc7 (fs r : List Fld) (h : 7 ≤ fs.length) : hdOf (fs ++ r) [] = hdOf fs [] := by
  rcases fs with _ | ⟨f0, _ | ⟨f1, _ | ⟨f2, _ | ⟨f3, _ | ⟨f4, _ | ⟨f5, _ | ⟨f6, q⟩⟩⟩⟩⟩⟩⟩
  all_goals first | rfl | (simp at h <;> omega)

end Go.Proofs.YticmjlnpjopfbaaDoor

namespace Go.Proofs.YticmjlnpjopfbaaDoor
open Go Go.RowKit S
open C (Fld)

theorem setCell_block {A B : World} {b : Nat} (h : A.heap[b]? = B.heap[b]?) (a : Addr) (v : Value) : (A.setCell a v).heap[b]? = (B.setCell a v).heap[b]? := by
  unfold World.setCell
  simp only [Array.getElem?_modify]
  split <;> simp_all

/-- From A to B: of the blocks that D names, those that lay are as in X. -/
structure TurnR (D : Nat → Prop) (A B X : World) : Prop where
  size : A.heap.size ≤ B.heap.size
  keep : ∀ b, D b → b < A.heap.size → B.heap[b]? = X.heap[b]?
/-- The iterator's own blocks. -/
def Its (pb q m : Nat) (b : Nat) : Prop := b = pb ∨ b = q ∨ m ≤ b
/-- A slot whose cell is there. -/
structure SlotOk (W : World) (s : Slt) (b o : Nat) (g : Fld → Value) : Prop where
  tgt : SlotTo s b o g
  lt : b < W.heap.size
  cell : ∃ v, W.cell? ⟨b, o, none⟩ = some v
  free : W.frozen? ⟨b, o, none⟩ = false
theorem SlotOk.of_block {W W' : World} {s : Slt} {b o : Nat} {g : Fld → Value} (h : SlotOk W s b o g) (hb : W'.heap[b]? = W.heap[b]?) (hs : W.heap.size ≤ W'.heap.size) : SlotOk W' s b o g :=
  ⟨h.tgt, Nat.lt_of_lt_of_le h.lt hs, let ⟨v, hv⟩ := h.cell; ⟨v, (World.cell?_of_block (a := ⟨b, o, none⟩) hb).trans hv⟩, (World.frozen?_of_block (a := ⟨b, o, none⟩) hb).trans h.free⟩

/-- A step of the iterator: of what lay ahead of its call it turns the packet's block alone. -/
structure StepR (pb m : Nat) (A B : World) : Prop where
  os : B.os = A.os
  tape : B.tape = A.tape
  output : B.output = A.output
  size : A.heap.size ≤ B.heap.size
  block : ∀ b, b < m → b ≠ pb → B.heap[b]? = A.heap[b]?
theorem StepR.below {pb m : Nat} {A B : World} (h : StepR pb m A B) (hp : pb ≤ m) : Below pb A B := ⟨h.os, h.tape, h.output, h.size, fun b hb => h.block b (by omega) (by omega)⟩
theorem StepR.of_below {pb m : Nat} {A B : World} (h : Below m A B) : StepR pb m A B := ⟨h.os, h.tape, h.output, h.size, fun b hb _ => h.block b hb⟩
theorem StepR.trans {pb m : Nat} {A B D : World} (h : StepR pb m A B) (k : StepR pb m B D) : StepR pb m A D :=
  ⟨k.os.trans h.os, k.tape.trans h.tape, k.output.trans h.output, Nat.le_trans h.size k.size, fun b hb hn => (k.block b hb hn).trans (h.block b hb hn)⟩

/-- How a round ends where it yields. -/
def yieldPost (pb q m : Nat) (J : List Fld → World → Prop) (Jx : List Fld → World → Prop) (fs : List Fld) (b o : Nat) (g : Fld → Value) (W : World) (e : Ending) (W' : World) : Prop :=
  (e = .returned (.bool true) ∧ ∃ f, J (fs ++ [f]) W' ∧ TurnR (Its pb q m) W W' (W.setCell ⟨b, o, none⟩ (g f))) ∨ (e = .returned (.bool false) ∧ Jx fs W')

/-- The iterator g, called where m blocks lie: whatever it hands out, a loop lays there. -/
def GivesR (P : Program) (g : Nat) (lb : Array Value) (pb q m : Nat) (Keep : List Fld → World → Prop) (Start : World → Prop) (Done : List Fld → World → Prop) (Cut : List Fld → Prop) : Prop :=
  ∀ (l : Nat) (J Jx : List Fld → World → Prop) (W : World), W.heap.size = m → Start W →
    (∀ fs A B, J fs A → StepR pb m A B → J fs B) → (∀ fs A B, Jx fs A → StepR pb m A B → Jx fs B) → (∀ fs A, J fs A → Keep fs A) →
    (∀ fs s b o gg W1, J fs W1 → m ≤ W1.heap.size → s.kd = kAt fs.length → SlotOk W1 s b o gg → Its pb q m b →
      YieldAt Fence.wide 3 P l #[s.v] W1 (yieldPost pb q m J Jx fs b o gg W1)) →
    J [] W →
    Calls P g (#[.func (.yield l) #[] #[]] ++ lb) W fun e W' => (∃ v, e = .returned v) ∧ ((∃ fs, J fs W' ∧ Done fs W') ∨ (∃ fs, Jx fs W' ∧ Cut fs))

/-- How a round's body may be left. -/
def turnPostR (pb q n : Nat) (I : List Fld → World → Prop) (Ix : Code → List Fld → World → Prop) (fs : List Fld) (b o : Nat) (g : Fld → Value) (W : World) : Exit → Act → World → Prop
  | .normal, _, W' => ∃ f, I (fs ++ [f]) W' ∧ TurnR (Its pb q n) W W' (W.setCell ⟨b, o, none⟩ (g f))
  | .ret, _, W' => Ix .ret fs W' ∧ TurnR (fun b => b = n ∨ b = n + 1) W W' W
  | .exit id, _, W' => Ix (.exit id) fs W' ∧ TurnR (fun b => b = n ∨ b = n + 1) W W' W
  | .goto t, _, W' => Ix (.goto t) fs W' ∧ TurnR (fun b => b = n ∨ b = n + 1) W W' W
  | .panic _, _, _ => False
  | .outgrown, _, _ => False

theorem range_r {P : Program} {n : Nat} {g : Operand} {t : Tmp} {assign body : Code} {Q : Exit → Act → World → Prop} {a : Act} {w : World}
    {gf : Nat} {lb : Array Value} (hg : a.eval g = .func (.func gf) #[] lb) (eg : ∀ args w, (callFunc gf args).run P w = .ok (.enter gf args) w)
    {pb q m : Nat} {Keep : List Fld → World → Prop} {Start : World → Prop} {Done : List Fld → World → Prop} {Cut : List Fld → Prop} (hm : w.heap.size + 2 = m) (hpb : pb < w.heap.size) (hq : q < w.heap.size) (hseq : GivesR P gf lb pb q m Keep Start Done Cut)
    (hStart : ∀ B, Below w.heap.size w B → Start B)
    (I : List Fld → World → Prop) (Ix : Code → List Fld → World → Prop)
    (hKeep : ∀ fs A, I fs A → Keep fs A) (hI : ∀ fs A B, I fs A → Below pb A B → I fs B) (hIx : ∀ c fs A B, Ix c fs A → Below pb A B → Ix c fs B)
    (h0 : I [] w) (Ax : Slt → Act → World → Prop)
    (hAx : ∀ s a' A o, Ax s a' A → Ax s a' (A.putObj (w.heap.size + 1) o))
    (hassign : ∀ (fs : List Fld) (s : Slt) (W : World) (K : Act → World → Prop), I fs W → w.heap.size + 2 ≤ W.heap.size →
      (∀ a' W', Ax s a' W' → Below W.heap.size W W' → K a' W') →
      assign.wpIn (Fence.wide.inRound (w.heap.size + 1)) 3 P (Exit.then K (fun _ _ _ => False)) { tmps := ((#[t] : Array Tmp).zip #[s.v]).foldl (fun t (p, v) => t.setIfInBounds p v) a.tmps, defers := [] } W)
    (hbody : ∀ (fs : List Fld) (s : Slt) (b o : Nat) (gg : Fld → Value) (a' : Act) (W : World), I fs W → Ax s a' W → s.kd = kAt fs.length → SlotOk W s b o gg → Its pb q m b → w.heap.size + 2 ≤ W.heap.size →
      body.wpIn (Fence.wide.inRound (w.heap.size + 1)) 3 P (turnPostR pb q w.heap.size I Ix fs b o gg W) a' W)
    (hDone : ∀ fs A o, Done fs A → Done fs (A.putObj (w.heap.size + 1) o))
    (hdone : ∀ (fs : List Fld) (W : World), I fs W → Done fs W → W.heap[w.heap.size]? = some (.deferred (some [])) →
      Q .normal { a with defers := { target := .collected w.heap.size, args := #[] } :: a.defers } W)
    (hstop : ∀ (c : Code) (fs : List Fld) (W : World), Ix c fs W → Cut fs → W.heap[w.heap.size]? = some (.deferred (some [])) →
      c.wpIn Fence.wide n P Q { a with defers := { target := .collected w.heap.size, args := #[] } :: a.defers } W) :
    (Code.rangeFunc g #[t] assign body).wpIn Fence.wide n P Q a w := by
  refine wpIn_rangeFunc ?_
  intro fn hfn
  obtain ⟨rec, hrec⟩ : ∃ rec : LoopState → Option Code → Loop, rec = fun st pe => { state := st, pending := pe, fn, tmps := a.tmps, params := #[t], assign, body, defers := w.heap.size } := ⟨_, rfl⟩
  obtain ⟨W1, hW1⟩ : ∃ W1, (w.alloc (.deferred (some []))).alloc (.loop (rec .ready none)) = W1 := ⟨_, rfl⟩
  have hs1 : W1.heap.size = w.heap.size + 2 := by rw [← hW1]; simp
  have sm1 : Below w.heap.size w W1 := by rw [← hW1]; exact ((Below.refl _ _).alloc (Nat.le_refl _) _).alloc (by simp) _
  have hL1 : W1.heap[w.heap.size + 1]? = some (.loop (rec .ready none)) := by
    rw [← hW1]; have := World.alloc_heap_new (w.alloc (.deferred (some []))) (.loop (rec .ready none)); rwa [World.size_alloc] at this
  have hK1 : W1.heap[w.heap.size]? = some (.deferred (some [])) := by
    rw [← hW1]; exact (Below.heap_alloc _ _ _ (by simp)).trans (World.alloc_heap_new w _)
  refine ⟨w.heap.size + 1, [{ target := .collected w.heap.size, args := #[] }], W1, { target := .fn (.func gf) lb, args := #[.func (.yield (w.heap.size + 1)) #[] #[]] }, W1, gf,
    #[.func (.yield (w.heap.size + 1)) #[] #[]] ++ lb, W1, ?_, ?_, ?_, ?_, ?_, ?_⟩
  · rw [← hW1, hrec]; exact run_enterLoop_outer _ _ _ _ _
  · simp only [resolve, hg]
    simp [go_sem]
  · intro f' hf'; exact trivial
  · simp [invoke, go_sem, eg]
  · intro h; exact absurd h (by simp [Fence.wide])
  · refine callsIn_wide.2 ?_
    have key := hseq (w.heap.size + 1)
      (fun fs W => I fs W ∧ W.heap[w.heap.size + 1]? = some (.loop (rec .ready none)) ∧ W.heap[w.heap.size]? = some (.deferred (some [])))
      (fun fs W => ∃ c, Ix c fs W ∧ W.heap[w.heap.size + 1]? = some (.loop (rec .done (some c))) ∧ W.heap[w.heap.size]? = some (.deferred (some [])))
      W1 (hs1.trans hm) (hStart _ sm1)
      (fun fs A B h sm => ⟨hI fs A B h.1 (sm.below (by omega)), (sm.block _ (by omega) (by omega)).trans h.2.1, (sm.block _ (by omega) (by omega)).trans h.2.2⟩)
      (fun fs A B h sm => by
        obtain ⟨c, hc, hl, hk⟩ := h
        exact ⟨c, hIx c fs A B hc (sm.below (by omega)), (sm.block _ (by omega) (by omega)).trans hl, (sm.block _ (by omega) (by omega)).trans hk⟩)
      (fun fs A h => hKeep fs A h.1) ?_ ⟨hI _ _ _ h0 (sm1.mono (by omega)), hL1, hK1⟩
    · refine key.mono ?_
      rintro e W2 ⟨⟨v, rfl⟩, (⟨fs, ⟨hi, hl, hk⟩, hd⟩ | ⟨fs, ⟨c, hi, hl, hk⟩, hcut⟩)⟩
      · refine ⟨none, _, by have := run_endLoop (P := P) hl (by rw [hrec]; simp); rw [hrec] at this; exact this, ?_⟩
        exact hdone fs _ (hI _ _ _ hi (below_putObj (by omega) _)) (hDone _ _ _ hd) ((World.putObj_heap_other (by omega)).trans hk)
      · refine ⟨some c, _, by have := run_endLoop (P := P) hl (by rw [hrec]; simp); rw [hrec] at this; exact this, ?_⟩
        exact hstop c fs _ (hIx _ _ _ _ hi (below_putObj (by omega) _)) hcut ((World.putObj_heap_other (by omega)).trans hk)
    · rintro fs s b o gg W ⟨hi, hl, hk⟩ hWs hkd hOk hIts
      rw [← hm] at hWs
      have hbne : b ≠ w.heap.size + 1 := by rcases hIts with h | h | h <;> omega
      have hy := run_yield (P := P) (args := #[s.v]) hl (by rw [hrec]; rfl)
      rw [hrec] at hy
      refine ⟨fn, _, assign, body, hy, roundIn_of_wpIn hfn (?_)⟩
      refine hassign fs s W _ hi hWs ?_
      intro a' Wa hax hba
      have hla : Wa.heap[w.heap.size + 1]? = some (.loop (rec .ready none)) := (hba.block _ (by omega)).trans hl
      have hka : Wa.heap[w.heap.size]? = some (.deferred (some [])) := (hba.block _ (by omega)).trans hk
      have hsa := hba.size
      refine ⟨_, run_beginRound hla (by rw [hrec]), ?_⟩
      have hlt : w.heap.size + 1 < Wa.heap.size := by omega
      obtain ⟨Wb, hWb⟩ : ∃ Wb, Wa.putObj (w.heap.size + 1) (.loop { rec .ready none with state := .busy }) = Wb := ⟨_, rfl⟩
      rw [hWb]
      have hsb : Wb.heap.size = Wa.heap.size := by rw [← hWb]; simp
      have hlb : Wb.heap[w.heap.size + 1]? = some (.loop { rec .ready none with state := .busy }) := by rw [← hWb]; exact World.putObj_heap_same hlt
      have hkb : Wb.heap[w.heap.size]? = some (.deferred (some [])) := by rw [← hWb]; exact (World.putObj_heap_other (by omega)).trans hka
      have tb : ∀ b, b ≠ w.heap.size + 1 → b < W.heap.size → Wb.heap[b]? = W.heap[b]? := fun b h1 h2 => by
        rw [← hWb]; exact (World.putObj_heap_other (by omega)).trans (hba.block b h2)
      have hib : I fs Wb := hI _ _ _ hi (by rw [← hWb]; exact (hba.mono (by omega)).trans (below_putObj (by omega) _))
      have haxb : Ax s a' Wb := by rw [← hWb]; exact hAx _ _ _ _ hax
      have hOkb := hOk.of_block (tb b hbne hOk.lt) (by omega)
      refine wpIn_mono (hbody fs s b o gg a' Wb hib haxb hkd hOkb hIts (by omega)) ?_
      have fin : ∀ (jump : Option Code) (W3 : World), Wb.heap.size ≤ W3.heap.size → W3.heap[w.heap.size]? = Wb.heap[w.heap.size]? → W3.heap[w.heap.size + 1]? = Wb.heap[w.heap.size + 1]? →
          (Instr.endRound (w.heap.size + 1) jump).run P W3 = .ok (.bool jump.isNone) (W3.putObj (w.heap.size + 1) (.loop (rec (if jump.isNone then .ready else .done) jump))) ∧
          (W3.putObj (w.heap.size + 1) (.loop (rec (if jump.isNone then .ready else .done) jump))).heap[w.heap.size + 1]? = some (.loop (rec (if jump.isNone then .ready else .done) jump)) ∧
          (W3.putObj (w.heap.size + 1) (.loop (rec (if jump.isNone then .ready else .done) jump))).heap[w.heap.size]? = some (.deferred (some [])) := fun jump W3 hs3 k0 k1 => by
        have hl3 := k1.trans hlb
        have hk3 := k0.trans hkb
        have := run_endRound (P := P) jump hl3
        rw [hrec] at this ⊢
        exact ⟨this, World.putObj_heap_same (Array.getElem?_eq_some_iff.1 hl3).1, (World.putObj_heap_other (by omega)).trans hk3⟩
      rintro e a3 W3 hp
      cases e with
      | normal =>
        obtain ⟨f, hi3, t3⟩ := hp
        have k0 : W3.heap[w.heap.size]? = Wb.heap[w.heap.size]? := (t3.keep _ (.inr (.inr (Nat.le_refl _))) (by omega)).trans (Below.heap_setCell _ _ _ _ (by show w.heap.size ≠ b; rcases hIts with h | h | h <;> omega))
        have k1 : W3.heap[w.heap.size + 1]? = Wb.heap[w.heap.size + 1]? := (t3.keep _ (.inr (.inr (by omega))) (by omega)).trans (Below.heap_setCell _ _ _ _ (by show w.heap.size + 1 ≠ b; omega))
        obtain ⟨hr, hl4, hk4⟩ := fin none W3 t3.size k0 k1
        refine ⟨_, _, hr, .inl ⟨rfl, f, ⟨hI _ _ _ hi3 (below_putObj (by omega) _), hl4, hk4⟩, ⟨by have := t3.size; simp; omega, fun c hc hlt' => ?_⟩⟩⟩
        have hcne : c ≠ w.heap.size + 1 := by rcases hc with h | h | h <;> omega
        have hc' : Its pb q w.heap.size c := by rcases hc with h | h | h; exact .inl h; exact .inr (.inl h); exact .inr (.inr (by omega))
        exact (World.putObj_heap_other (by omega)).trans ((t3.keep c hc' (by omega)).trans (setCell_block (tb c hcne hlt') _ _))
      | ret =>
        obtain ⟨hi3, t3⟩ := hp
        obtain ⟨hr, hl4, hk4⟩ := fin (some .ret) W3 t3.size (t3.keep _ (.inl rfl) (by omega)) (t3.keep _ (.inr rfl) (by omega))
        exact ⟨_, _, hr, .inr ⟨rfl, .ret, hIx _ _ _ _ hi3 (below_putObj (by omega) _), hl4, hk4⟩⟩
      | exit id =>
        obtain ⟨hi3, t3⟩ := hp
        obtain ⟨hr, hl4, hk4⟩ := fin (some (.exit id)) W3 t3.size (t3.keep _ (.inl rfl) (by omega)) (t3.keep _ (.inr rfl) (by omega))
        exact ⟨_, _, hr, .inr ⟨rfl, .exit id, hIx _ _ _ _ hi3 (below_putObj (by omega) _), hl4, hk4⟩⟩
      | goto tt =>
        obtain ⟨hi3, t3⟩ := hp
        obtain ⟨hr, hl4, hk4⟩ := fin (some (.goto tt)) W3 t3.size (t3.keep _ (.inl rfl) (by omega)) (t3.keep _ (.inr rfl) (by omega))
        exact ⟨_, _, hr, .inr ⟨rfl, .goto tt, hIx _ _ _ _ hi3 (below_putObj (by omega) _), hl4, hk4⟩⟩
      | panic ch => exact hp.elim
      | outgrown => exact hp.elim

end Go.Proofs.YticmjlnpjopfbaaDoor

namespace Go.Proofs.YticmjlnpjopfbaaDoor
open Go.ChangeShapes Go.WideShapes Go.ChangeAt Go.RowKit
open C (Fld)
set_option linter.unusedVariables false
set_option linter.unusedSimpArgs false

theorem setCell_row {W : World} {g o : Nat} {c : Array Value} {t : TypeId} {fr : Nat × Nat} (h : W.heap[g]? = some (.cells c t fr)) (v : Value) : (W.setCell ⟨g, o, none⟩ v).heap[g]? = some (.cells (c.setIfInBounds o v) t fr) := by
  unfold World.setCell
  rw [Array.getElem?_modify, if_pos rfl, h]
  rfl
/-- A packet's block. -/
def PkB (W : World) (pb : Nat) (p : Pkt) (a : Option Addr) (len cap : Nat) : Prop := W.heap[pb]? = some (.cells (pkc p a len cap).toArray 24 (0, 0))
theorem PkB.at {W : World} {pb : Nat} {p : Pkt} {a : Option Addr} {len cap : Nat} (h : PkB W pb p a len cap) : PkAt W pb p a len cap := by
  intro j v hj
  rw [cell_of_row _ _ _ _ 24 _ h]
  simpa using hj
theorem PkB.free {W : World} {pb : Nat} {p : Pkt} {a : Option Addr} {len cap : Nat} (h : PkB W pb p a len cap) (o : Nat) : W.frozen? ⟨pb, o, none⟩ = false := by
  unfold World.frozen?
  rw [show (⟨pb, o, none⟩ : Addr).block = pb from rfl, h]
  simp
theorem PkB.lt {W : World} {pb : Nat} {p : Pkt} {a : Option Addr} {len cap : Nat} (h : PkB W pb p a len cap) : pb < W.heap.size := (Array.getElem?_eq_some_iff.1 h).1
theorem PkB.of_block {W W' : World} {pb : Nat} {p : Pkt} {a : Option Addr} {len cap : Nat} (h : PkB W pb p a len cap) (hb : W'.heap[pb]? = W.heap[pb]?) : PkB W' pb p a len cap := hb.trans h
theorem PkB.set7 {W : World} {pb : Nat} {p : Pkt} {a : Option Addr} {len cap : Nat} (h : PkB W pb p a len cap) (a' : Option Addr) (len' cap' : Nat) : PkB (W.setCell ⟨pb, 7, none⟩ (.slice a' len' cap')) pb p a' len' cap' :=
  (setCell_row h _).trans (by simp [pkc])
theorem PkB.snoc {W : World} {pb : Nat} {fs : List Fld} {a : Option Addr} {len cap : Nat} (h : PkB W pb (hdOf fs []) a len cap) (f : Fld) (hl : fs.length < 7) : PkB (W.setCell ⟨pb, fs.length, none⟩ (.int .i64 f.num)) pb (hdOf (fs ++ [f]) []) a len cap := by
  refine (setCell_row h _).trans ?_
  rw [hd_snoc fs f hl]
  simp

/-- Items that are being read, in the block g. -/
structure ItRow (W : World) (g cap : Nat) (its : List Itm) : Prop where
  le : its.length ≤ cap
  max : cap ≤ maxLen
  mem : ∃ cur : Array Value, W.heap[g]? = some (.cells cur 38 (0, 0)) ∧ cur.size = cap * 19 ∧ cur.toList.take (its.length * 19) = its.flatMap itc
theorem ItRow.of_block {W W' : World} {g cap : Nat} {its : List Itm} (h : ItRow W g cap its) (hb : W'.heap[g]? = W.heap[g]?) : ItRow W' g cap its :=
  ⟨h.le, h.max, let ⟨c, h1, h2, h3⟩ := h.mem; ⟨c, hb.trans h1, h2, h3⟩⟩
theorem ItRow.lt {W : World} {g cap : Nat} {its : List Itm} (h : ItRow W g cap its) : g < W.heap.size := by
  obtain ⟨c, h1, _⟩ := h.mem
  exact (Array.getElem?_eq_some_iff.1 h1).1
theorem ItRow.owns {W : World} {g cap base : Nat} {its : List Itm} (h : ItRow W g cap its) (hb : base ≤ g) : W.ownsRow base 38 19 (.slice (some ⟨g, 0, none⟩) its.length cap) its.length (its.flatMap itc) := by
  obtain ⟨c, h1, h2, h3⟩ := h.mem
  exact ⟨by rw [itcs_len], .inr ⟨g, cap, c, rfl, hb, h1, h.le, h.max, h2, h3⟩⟩
theorem itRow_owns {W : World} {base : Nat} {v : Value} {its : List Itm} (h : W.ownsRow base 38 19 v its.length (its.flatMap itc)) (hn : its ≠ []) : ∃ g cap, v = .slice (some ⟨g, 0, none⟩) its.length cap ∧ base ≤ g ∧ ItRow W g cap its := by
  rcases h.2 with ⟨_, h0⟩ | ⟨g, cap, cur, rfl, hb, hg, hl, hm, hs, ht⟩
  · exact absurd (List.eq_nil_of_length_eq_zero h0) hn
  · exact ⟨g, cap, rfl, hb, hl, hm, cur, hg, hs, ht⟩
theorem ItRow.row {W : World} {g cap : Nat} {its : List Itm} (h : ItRow W g cap its) : RowI W (some ⟨g, 0, none⟩) its.length cap its := by
  obtain ⟨a, c, hv, R, _⟩ := rowI_owns (h.owns (Nat.le_refl g))
  cases hv
  exact R
theorem ItRow.cell {W : World} {g cap : Nat} {its : List Itm} (h : ItRow W g cap its) (i j : Nat) (hi : i < its.length) (hj : j < 19) : ∃ v, W.cell? ⟨g, i * 19 + j, none⟩ = some v := by
  obtain ⟨c, h1, h2, h3⟩ := h.mem
  have hle := h.le
  rw [cell_of_row _ _ _ _ 38 _ h1]
  have : i * 19 + j < c.size := by
    rw [h2]
    have : (i + 1) * 19 ≤ cap * 19 := Nat.mul_le_mul_right _ (by omega)
    omega
  exact ⟨_, Array.getElem?_eq_getElem this⟩
theorem ItRow.free {W : World} {g cap : Nat} {its : List Itm} (h : ItRow W g cap its) (o : Nat) : W.frozen? ⟨g, o, none⟩ = false := by
  obtain ⟨c, h1, _⟩ := h.mem
  unfold World.frozen?
  rw [show (⟨g, o, none⟩ : Addr).block = g from rfl, h1]
  simp
/-- One field more of the last item. -/
theorem ItRow.snoc {W : World} {g cap : Nat} {its : List Itm} {c : List Fld} (h : ItRow W g cap (its ++ [itOf c])) (f : Fld) (hc : c.length < 19) : ItRow (W.setCell ⟨g, its.length * 19 + c.length, none⟩ (itVal c.length f)) g cap (its ++ [itOf (c ++ [f])]) := by
  obtain ⟨cur, h1, h2, h3⟩ := h.mem
  have hle := h.le
  refine ⟨by simpa using hle, h.max, _, setCell_row h1 _, by simpa using h2, ?_⟩
  have e1 : (its ++ [itOf (c ++ [f])]).length * 19 = (its ++ [itOf c]).length * 19 := by simp
  rw [e1, Array.toList_setIfInBounds, List.take_set, h3]
  rw [List.flatMap_append, List.flatMap_append, List.flatMap_singleton, List.flatMap_singleton, itc_snoc c f hc]
  rw [List.set_append_right _ _ (by rw [itcs_len]; omega), itcs_len, show its.length * 19 + c.length - its.length * 19 = c.length by omega]

/-- The items of a row of fields, nineteen each. -/
def chop (n : Nat) (R : List Fld) : List Itm := (List.range n).map fun t => itOf ((R.drop (19 * t)).take 19)
theorem chop_len (n : Nat) (R : List Fld) : (chop n R).length = n := by simp [chop]
theorem chop_app (n : Nat) (R r : List Fld) (h : 19 * n ≤ R.length) : chop n (R ++ r) = chop n R := by
  unfold chop
  refine List.map_congr_left fun t ht => ?_
  have ht' := List.mem_range.1 ht
  rw [List.drop_append_of_le_length (by omega), List.take_append_of_le_length (by rw [List.length_drop]; omega)]
theorem chop_succ (n : Nat) (R : List Fld) (h : R.length = 19 * n + 19) : chop (n + 1) R = chop n R ++ [itOf (R.drop (19 * n))] := by
  unfold chop
  rw [List.range_succ, List.map_append]
  simp only [List.map_cons, List.map_nil]
  rw [List.take_of_length_le (by rw [List.length_drop]; omega)]

end Go.Proofs.YticmjlnpjopfbaaDoor

namespace Go.Proofs.YticmjlnpjopfbaaDoor
open Go.ChangeShapes Go.WideShapes Go.ChangeAt Go.RowKit Go.Shelf
open C (Fld)
open S (One One.new One.alloc One.at One.of_block One.below)
set_option linter.unusedVariables false
set_option linter.unusedSimpArgs false
attribute [local go_sem] Oper.semAt_some

def KeepR (fs : List Fld) (A : World) : Prop := fs.length ≤ 1048576 ∧ ∀ f ∈ fs, -9223372036854775808 ≤ f.num ∧ f.num ≤ 9223372036854775807
def StartR (pb q : Nat) (W : World) : Prop := One W q (.pointer (some ⟨pb, 0, none⟩)) ∧ PkB W pb (hdOf [] []) none 0 0
def cntF (fs : List Fld) : Int := (fs.getD 7 fzz).num
structure DoneR (pb m : Nat) (fs : List Fld) (W : World) : Prop where
  len : fs.length = 8 + 19 * (cntF fs).toNat
  pkt : ∃ a cap, PkB W pb (hdOf fs []) a (cntF fs).toNat cap ∧ RowI W a (cntF fs).toNat cap (chop (cntF fs).toNat (fs.drop 8)) ∧ (a = none ∨ ∃ g, a = some ⟨g, 0, none⟩ ∧ m ≤ g)
def CutR (fs : List Fld) : Prop := fs.length < 8 ∨ fs.length < 8 + 19 * (cntF fs).toNat
theorem cnt_app (fs r : List Fld) (h : 8 ≤ fs.length) : cntF (fs ++ r) = cntF fs := by
  unfold cntF
  rw [List.getD_eq_getElem?_getD, List.getD_eq_getElem?_getD, List.getElem?_append_left (by omega)]
theorem cnt_low (fs : List Fld) (h : fs.length < 8) : cntF fs = 0 := by
  unfold cntF
  rw [List.getD_eq_getElem?_getD, List.getElem?_eq_none (by omega)]
  rfl
theorem cnt_7 (fs : List Fld) (f : Fld) (h : fs.length = 7) : cntF (fs ++ [f]) = f.num := by
  unfold cntF
  rw [List.getD_eq_getElem?_getD, List.getElem?_append_right (by omega), h]
  rfl

set_option maxRecDepth 100000 in
set_option maxHeartbeats 16000000 in
theorem fields_reads (q pb m : Nat) (hpq : pb ≠ q) (hpm : pb < m) (hqm : q < m) :
    GivesR Tryd.prog 53 #[.pointer (some ⟨q, 0, none⟩)] pb q m KeepR (StartR pb q) (DoneR pb m) CutR := by
  intro l J Jx W hWm hSt hJ hJx hKeep hY h0
  subst hWm
  have hY0 := hY
  obtain ⟨i0, hi0, hz0, hz1, hz2⟩ := info_parts info38
  obtain ⟨OQ, PB0⟩ := hSt
  obtain ⟨o0, of0, oz0⟩ := id OQ
  have c7 := PB0.at 7 _ rfl
  refine (callsIn_wide (n := 2)).1 ?_
  refine callsIn_of_wp Tryd.func53 rfl trivial ?_
  simp only [Tryd.ntmps53, List.size_toArray, List.length_cons, List.length_nil, Nat.reduceAdd, Nat.reduceSub, Array.replicate_succ, Array.replicate_zero, List.push_toArray, List.append_toArray, List.nil_append, List.cons_append]
  gi_wp2
  refine wide_scope ?_
  gi_wp2_with (refine ⟨trivial, ?_⟩; gi_at_call 54; refine (callsIn_wide.2 (head_slots pb W.heap.size _)).mono ?_; rintro e w1 ⟨rfl, hb1⟩)
  have B1 : Below W.heap.size W w1 := ((Below.refl _ _).alloc (Nat.le_refl _) _).trans (hb1.mono (by simp))
  have O1 : One w1 W.heap.size (.int .i64 0) := (One.new W _ 3).below hb1
  have OQ1 : One w1 q (.pointer (some ⟨pb, 0, none⟩)) := OQ.of_block (B1.block q hqm) B1.size
  have PB1 : PkB w1 pb (hdOf [] []) none 0 0 := PB0.of_block (B1.block pb hpm)
  clear hb1 o0 of0 oz0 c7 OQ PB0
  gi_loopg [16] 8 (fun g c wr => ∃ fs : List Fld, c = .int .i64 (fs.length : Int) ∧ fs.length + g = 8 ∧ J fs wr ∧ One wr W.heap.size (.int .i64 (cntF fs)) ∧ One wr q (.pointer (some ⟨pb, 0, none⟩)) ∧ PkB wr pb (hdOf fs []) none 0 0)
  case atStart => exact ⟨[], rfl, by simp, hJ _ _ _ h0 (StepR.of_below B1), O1, OQ1, PB1⟩
  case round =>
    clear O1 OQ1 PB1
    obtain ⟨fs, rfl, hg, hJk, Oc, OQ, PB⟩ := hrel
    have HG : Hid (fs.length + gk = 8) := hg
    obtain ⟨k, hk0⟩ : ∃ k, fs.length = k := ⟨_, rfl⟩
    have HK : Hid (fs.length = k) := hk0
    have hk8 : k ≤ 8 := by omega
    rw [hk0]
    clear hg
    by_cases hk : k < 8
    · obtain ⟨s, hs⟩ : ∃ s, (hdS pb W.heap.size)[k]? = some s := ⟨_, List.getElem?_eq_getElem (by rw [hdS_len]; exact hk)⟩
      have hix := hd_ix pb W.heap.size k s hs
      have hsz := Oc.2.2
      have hkd : s.kd = kAt fs.length := by rw [hk0]; unfold kAt; rw [if_pos hk]; rcases hdS_to _ _ _ _ hs with h | h; exact h.2.2; exact h.2.2
      have hsl : ∃ b o, Its pb q W.heap.size b ∧ SlotOk wr s b o (fun f => .int .i64 f.num) ∧ ((b = pb ∧ o = k ∧ k < 7) ∨ (b = W.heap.size ∧ o = 0 ∧ k = 7)) := by
        rcases hdS_to _ _ _ _ hs with ⟨h1, h2, _⟩ | ⟨h1, h2, _⟩
        · refine ⟨pb, k, .inl rfl, ⟨h2, PB.lt, ?_, PB.free k⟩, .inl ⟨rfl, rfl, h1⟩⟩
          have hl8 : k < (pkc (hdOf fs []) none 0 0).length := by show k < 8; omega
          exact ⟨_, PB.at k _ (List.getElem?_eq_getElem hl8)⟩
        · exact ⟨W.heap.size, 0, .inr (.inr (Nat.le_refl _)), ⟨h2, hsz, ⟨_, Oc.1⟩, Oc.2.1⟩, .inr ⟨rfl, rfl, h1⟩⟩
      obtain ⟨b, o, hIts, hOk, hwh⟩ := hsl
      clear hk0
      obtain ⟨kd, q1, q2, q3, q4⟩ := s
      have Ba : Below wr.heap.size wr (wr.alloc (.cells #[.int .i64 kd, .pointer q1, .pointer q2, .pointer q3, .pointer q4] 73)) := (Below.refl _ _).alloc (Nat.le_refl _) _
      obtain ⟨fn, tmps, assign, body, hy, hR⟩ := hY fs ⟨kd, q1, q2, q3, q4⟩ b o (fun f => .int .i64 f.num) (wr.alloc (.cells #[.int .i64 kd, .pointer q1, .pointer q2, .pointer q3, .pointer q4] 73)) (hJ _ _ _ hJk (StepR.of_below (Ba.mono (by omega)))) (by have := Ba.size; omega) hkd (hOk.of_block (Ba.block b hOk.lt) Ba.size) hIts
      have Oa := Oc.below Ba
      have Qa := OQ.below Ba
      have Pa := PB.of_block (Ba.block pb PB.lt)
      have hlb := hOk.lt
      dsimp only [Slt.v] at hy hix
      clear hs hOk hkd
      gi_wp2
      refine (S.RoundIn.wideAny hR).mono ?_
      clear hR hy hix
      rintro e W3 (⟨rfl, f, hJ3, t3⟩ | ⟨rfl, hx3⟩)
      · have hle : (fs ++ [f]).length = k + 1 := by rw [List.length_append, HK.out]; rfl
        have OQ3 : One W3 q (.pointer (some ⟨pb, 0, none⟩)) := Qa.of_block ((t3.keep q (.inr (.inl rfl)) Qa.2.2).trans (Below.heap_setCell _ _ _ _ (by show q ≠ b; rcases hwh with h | h <;> omega))) t3.size
        have HP : PkB W3 pb (hdOf (fs ++ [f]) []) none 0 0 ∧ One W3 W.heap.size (.int .i64 (cntF (fs ++ [f]))) := by
          rcases hwh with ⟨rfl, rfl, h7⟩ | ⟨rfl, rfl, h7⟩
          · constructor
            · have h := Pa.snoc f (by rw [HK.out]; exact h7)
              rw [HK.out] at h
              exact h.of_block (t3.keep b (.inl rfl) Pa.lt)
            · rw [cnt_low _ (by rw [hle]; omega)]
              rw [cnt_low _ (by rw [HK.out]; omega)] at Oa
              exact Oa.of_block ((t3.keep _ (.inr (.inr (Nat.le_refl _))) Oa.2.2).trans (Below.heap_setCell _ _ _ _ (by show W.heap.size ≠ b; omega))) t3.size
          · constructor
            · rw [hd_snoc7 fs [f] (by rw [HK.out]; omega)]
              exact Pa.of_block ((t3.keep pb (.inl rfl) Pa.lt).trans (Below.heap_setCell _ _ _ _ (by show pb ≠ W.heap.size; omega)))
            · rw [cnt_7 fs f (by rw [HK.out]; exact h7)]
              exact (Oa.set (.int .i64 f.num)).of_block (t3.keep _ (.inr (.inr (Nat.le_refl _))) Oa.2.2) (by have := t3.size; simpa [World.setCell] using this)
        clear hY
        gi_wp2
        gi_roundg (gk - 1)
        case measure => have := HG.out; have := HK.out; omega
        case rel => exact ⟨fs ++ [f], by rw [hle]; first | rfl | go_num, by rw [hle]; have := HG.out; have := HK.out; omega, hJ3, HP.2, OQ3, HP.1⟩
      · clear hY
        gi_wp2
        exact ⟨rfl, _, results_none rfl _ _ _, ⟨_, rfl⟩, .inr ⟨fs, hx3, .inl (by rw [HK.out]; exact hk)⟩⟩
    · obtain rfl : k = 8 := by omega
      clear HG hk hk8 hk0
      rename World => wa
      rename Nat => gk0
      gi_wp2
      refine wpIn_label ?_
      obtain ⟨d0, d1, d2⟩ := id Oc
      gi_wp2
      clear d0 d1 d2
      obtain ⟨Nc, hNc⟩ : ∃ Nc, cntF fs = Nc := ⟨_, rfl⟩
      have HNc : Hid (cntF fs = Nc) := hNc
      have hNb : -9223372036854775808 ≤ Nc ∧ Nc ≤ 9223372036854775807 := by
        rw [← hNc]
        unfold cntF
        rw [List.getD_eq_getElem?_getD, List.getElem?_eq_getElem (by rw [HK.out]; omega)]
        exact (hKeep _ _ hJk).2 _ (List.getElem_mem _)
      rw [hNc] at Oc ⊢
      clear hNc
      gi_loopg [25] Nc.toNat (fun g c wr => ∃ (i : Nat) (R : List Fld) (a : Option Addr) (cap : Nat), c = .int .i64 i ∧ i + g = Nc.toNat ∧ Hid (R.length = 19 * i) ∧ J (fs ++ R) wr ∧ One wr W.heap.size (.int .i64 Nc) ∧ One wr q (.pointer (some ⟨pb, 0, none⟩)) ∧ PkB wr pb (hdOf fs []) a i cap ∧ wr.ownsRow (W.heap.size + 1) 38 19 (.slice a i cap) i ((chop i R).flatMap itc))
      case atStart => exact ⟨0, [], none, 0, rfl, by omega, rfl, by rw [List.append_nil]; exact hJk, Oc, OQ, PB, World.ownsRow_nil _ _ _ _⟩
      case round =>
        rename World => wo
        rename Nat => gko
        clear hJk Oc OQ PB
        obtain ⟨i, R, a, cap, rfl, hg, HRl, hJi, Oc, OQ, PB, OR⟩ := hrel
        have HGo : Hid (i + gko = Nc.toNat) := hg
        have hi8 : i ≤ Nc.toNat := by omega
        clear hg
        by_cases hi : i < Nc.toNat
        · have hI : (i : Int) < Nc := by omega
          have hee : ((i : Int) == (i : Int)) = true := by simp
          have hlm : i ≤ 1048576 := by
            have h := (hKeep _ _ hJi).1
            rw [List.length_append, HRl.out] at h
            omega
          obtain ⟨o0, of0, oz0⟩ := id OQ
          have c7 := PB.at 7 _ rfl
          gi_wp2
          obtain ⟨wd, hwd⟩ : ∃ wd, World.drew wo = wd := ⟨_, rfl⟩
          have hzd : W.heap.size < wd.heap.size := by rw [← hwd]; exact Oc.2.2
          have hqd : wd.cell? ⟨q, 0, none⟩ = some (.pointer (some ⟨pb, 0, none⟩)) := by rw [← hwd]; exact o0
          have c7d : wd.cell? ⟨pb, 7, none⟩ = some (.slice a i cap) := by rw [← hwd]; exact c7
          have ORd : wd.ownsRow (W.heap.size + 1) 38 19 (.slice a i cap) i ((chop i R).flatMap itc) := by rw [← hwd]; exact World.ownsRow.drew OR
          have PBd : PkB wd pb (hdOf fs []) a i cap := by rw [← hwd]; exact PB.of_block rfl
          have OQd : One wd q (.pointer (some ⟨pb, 0, none⟩)) := by rw [← hwd]; exact OQ.of_block rfl (Nat.le_refl _)
          have Ocd : One wd W.heap.size (.int .i64 Nc) := by rw [← hwd]; exact Oc.of_block rfl (Nat.le_refl _)
          have Bwd : Below W.heap.size wo wd := by rw [← hwd]; exact (Below.refl _ _).drew
          have own6 := ORd.alloc (itObj itZ)
          have hq6 : (wd.alloc (itObj itZ)).cell? ⟨q, 0, none⟩ = some (.pointer (some ⟨pb, 0, none⟩)) := (OQd.alloc _).1
          have new6 : ∀ j u, (itc itZ)[j]? = some u → (wd.alloc (itObj itZ)).cell? ((⟨wd.heap.size, 0, none⟩ : Addr).add j) = some u := by
            intro j u hj
            rw [add_plain]
            exact itAt_new wd itZ j u hj
          have c7a : (wd.alloc (itObj itZ)).cell? ⟨pb, 7, none⟩ = some (.slice a i cap) := (PBd.of_block (Below.heap_alloc _ _ _ PBd.lt)).at 7 _ rfl
          have hq8 : ∀ (w7 : World), One w7 q (.pointer (some ⟨pb, 0, none⟩)) → ∀ v, (w7.setCell ⟨pb, 7, none⟩ v).cell? ⟨q, 0, none⟩ = some (.pointer (some ⟨pb, 0, none⟩)) := fun w7 h v =>
            (World.cell?_of_block (a := ⟨q, 0, none⟩) (Below.heap_setCell _ _ _ _ (by show q ≠ pb; omega))).trans h.1
          have app7 : ∀ (v7 : Value) (w7 : World), w7.ownsRow (W.heap.size + 1) 38 19 v7 (i + 1) ((chop i R).flatMap itc ++ itc itZ) → (wd.alloc (itObj itZ)).grownBy w7 (Value.slice a i cap).ownBlock →
              ∃ g cap7, v7 = .slice (some ⟨g, 0, none⟩) (i + 1) cap7 ∧ W.heap.size < g ∧ ItRow w7 g cap7 (chop i R ++ [itOf []]) ∧ PkB w7 pb (hdOf fs []) a i cap ∧ One w7 q (.pointer (some ⟨pb, 0, none⟩)) ∧ One w7 W.heap.size (.int .i64 Nc) ∧ StepR pb W.heap.size wo w7 ∧ wd.heap.size ≤ w7.heap.size := by
            intro v7 w7 own7 hg7
            have hl7 : (chop i R ++ [itOf []]).length = i + 1 := by rw [List.length_append, chop_len]; rfl
            have own8 : w7.ownsRow (W.heap.size + 1) 38 19 v7 (chop i R ++ [itOf []]).length ((chop i R ++ [itOf []]).flatMap itc) := by
              rw [hl7, List.flatMap_append, List.flatMap_singleton]
              exact own7
            obtain ⟨g, cap7, hv, hgb, IR⟩ := itRow_owns own8 (by simp)
            have far : ∀ c, c ≤ W.heap.size → w7.heap[c]? = wd.heap[c]? := fun c hc =>
              (hg7.block c (by simp; omega) (fun e => by have := (World.ownsRow.lt ORd c e.symm).1; omega)).trans (Below.heap_alloc _ _ _ (by omega))
            have hs7 : wd.heap.size ≤ w7.heap.size := by have := hg7.size; simp at this; omega
            exact ⟨g, cap7, by rw [hl7] at hv; exact hv, by omega, IR, PBd.of_block (far pb (by omega)), OQd.of_block (far q (by omega)) hs7, Ocd.of_block (far _ (Nat.le_refl _)) hs7,
              ⟨hg7.os.trans Bwd.os, hg7.tape.trans Bwd.tape, hg7.output.trans Bwd.output, Nat.le_trans Bwd.size hs7, fun c hc _ => (far c (by omega)).trans (Bwd.block c hc)⟩, hs7⟩
          clear OR ORd hY
          have hY := hY0
          refine wpIn_wide.2 ?_
          refine wp_region_any (by kernel_rfl) ?_
          change wpAny _ _ _ _ _ _ _ (World.drew _)
          rw [hwd]
          refine S.wpAny_narrow (fun X => X.cell? ⟨q, 0, none⟩ = some (.pointer (some ⟨pb, 0, none⟩))) _ _ _ _ ?_
          refine S.anyH_take 0 35 (.pointer (some ⟨pb, 0, none⟩)) rfl rfl (by kernel_rfl) (by kernel_rfl) (by kernel_rfl) (fun _ _ _ h => h) (Or.inl ⟨by rfl, by intro w hSw; go_simp⟩) (hqd) ?_
          try simp only [Act.put, List.setIfInBounds_toArray, List.set_cons_zero, List.set_cons_succ]
          refine S.anyH_take 1 36 (.pointer (some ⟨pb, 0, none⟩)) rfl rfl (by kernel_rfl) (by kernel_rfl) (by kernel_rfl) (fun _ _ _ h => h) (Or.inl ⟨by rfl, by intro w hSw; go_simp⟩) (hqd) ?_
          try simp only [Act.put, List.setIfInBounds_toArray, List.set_cons_zero, List.set_cons_succ]
          refine S.anyH_take 2 37 (.pointer (some ⟨pb, 0, none⟩)) rfl rfl (by kernel_rfl) (by kernel_rfl) (by kernel_rfl) (fun _ _ _ h => h) (Or.inl ⟨by rfl, by intro w hSw; go_simp⟩) (hqd) ?_
          try simp only [Act.put, List.setIfInBounds_toArray, List.set_cons_zero, List.set_cons_succ]
          refine S.anyH_take 3 38 (.pointer (some ⟨pb, 7, none⟩)) rfl rfl (by kernel_rfl) (by kernel_rfl) (by kernel_rfl) (fun _ _ _ h => h) (Or.inl ⟨by rfl, by intro w hSw; go_simp⟩) (hqd) ?_
          try simp only [Act.put, List.setIfInBounds_toArray, List.set_cons_zero, List.set_cons_succ]
          refine S.anyH_take 5 40 (itv itZ) rfl rfl (by kernel_rfl) (by kernel_rfl) (by kernel_rfl) (fun _ _ _ h => h) (Or.inl ⟨by rfl, by intro w hSw; first | (go_simp; done) | (go_simp; simp [itZ, exZ])⟩) (hqd) ?_
          try simp only [Act.put, List.setIfInBounds_toArray, List.set_cons_zero, List.set_cons_succ]
          refine wpAnyH_ready (rs := [4, 6]) (by kernel_rfl) (by simp) ?_
          refine AllReadyH.cons rfl (fun K hK => ?_) (AllReadyH.cons rfl (fun K hK => ?_) AllReadyH.nil)
          · go_simp
            refine hK.out _ _ hqd (fun hS => ?_)
            clear hK
            refine wpAnyH_ready (rs := [6]) (by kernel_rfl) (by simp) ?_
            refine AllReadyH.cons rfl (fun K hK => ?_) AllReadyH.nil
            go_simp
            refine hK.out _ _ (hq6) (fun hS => ?_)
            clear hK
            refine wpAnyH_ready (rs := [7]) (by kernel_rfl) (by simp) ?_
            refine AllReadyH.cons rfl (fun K hK => ?_) AllReadyH.nil
            rw [if_pos (by rfl)]
            refine wp_append_own _ _ _ 22 rfl (W.heap.size + 1) 38 i0 (itv itZ) 19 160 Tryd.underlying22 hi0 hz0 hz1 hz2 rfl (by decide) (.slice a i cap) i ((chop i R).flatMap itc) rfl own6 ⟨wd.heap.size, 0, none⟩ 1 1 (itc itZ) rfl rfl new6 (itc_one itZ) (by unfold maxLen; omega) (by omega) (by have := hzd; simp; omega) ?_
            intro v7 w7 own7 hg7 _
            obtain ⟨g, cap7, hv7, hgb, IR7, PB7, OQ7, OC7, ST7, z7⟩ := app7 v7 w7 own7 hg7
            subst hv7
            obtain ⟨qq0, qq1, qq2⟩ := id OQ7
            refine hK.out _ _ (qq0) (fun hS => ?_)
            clear hK
            refine S.anyH_take 8 43 (.pointer (some ⟨pb, 0, none⟩)) rfl rfl (by kernel_rfl) (by kernel_rfl) (by kernel_rfl) (fun _ _ _ h => h) (Or.inl ⟨by rfl, by intro w hSw; go_simp⟩) (qq0) ?_
            try simp only [Act.put, List.setIfInBounds_toArray, List.set_cons_zero, List.set_cons_succ]
            refine S.anyH_take 9 44 (.pointer (some ⟨pb, 7, none⟩)) rfl rfl (by kernel_rfl) (by kernel_rfl) (by kernel_rfl) (fun _ _ _ h => h) (Or.inl ⟨by rfl, by intro w hSw; go_simp⟩) (qq0) ?_
            try simp only [Act.put, List.setIfInBounds_toArray, List.set_cons_zero, List.set_cons_succ]
            have p7 := PB7.at 7 _ rfl
            have p7f := PB7.free 7
            have p7l := PB7.lt
            refine wpAnyH_ready (rs := [10]) (by kernel_rfl) (by simp) ?_
            refine AllReadyH.cons rfl (fun K hK => ?_) AllReadyH.nil
            go_simp
            refine hK.out _ _ (hq8 w7 OQ7 _) (fun hS => ?_)
            clear hK
            refine wpAnyH_done (by kernel_rfl) ?_ _
            clear own6 hq6 new6 hq8 app7 own7 hg7 hqd c7d c7a PBd OQd Ocd Bwd hzd o0 of0 oz0 c7 p7 p7f p7l qq0 qq1 qq2 hS
            have PB8 := PB7.set7 (some ⟨g, 0, none⟩) (i + 1) cap7
            have ST8 : StepR pb W.heap.size wo (w7.setCell ⟨pb, 7, none⟩ (.slice (some ⟨g, 0, none⟩) (i + 1) cap7)) := ST7.trans ⟨rfl, rfl, rfl, by simp [World.setCell], fun c _ hc => Below.heap_setCell _ _ _ _ hc⟩
            have IR8 := IR7.of_block (W' := w7.setCell ⟨pb, 7, none⟩ (.slice (some ⟨g, 0, none⟩) (i + 1) cap7)) (Below.heap_setCell _ _ _ _ (by show g ≠ pb; omega))
            have OQ8 := OQ7.of_block (W' := w7.setCell ⟨pb, 7, none⟩ (.slice (some ⟨g, 0, none⟩) (i + 1) cap7)) (Below.heap_setCell _ _ _ _ (by show q ≠ pb; omega)) (by simp [World.setCell])
            have OC8 := OC7.of_block (W' := w7.setCell ⟨pb, 7, none⟩ (.slice (some ⟨g, 0, none⟩) (i + 1) cap7)) (Below.heap_setCell _ _ _ _ (by show W.heap.size ≠ pb; omega)) (by simp [World.setCell])
            have J8 := hJ _ _ _ hJi ST8
            obtain ⟨w8, hw8⟩ : ∃ w8, w7.setCell ⟨pb, 7, none⟩ (.slice (some ⟨g, 0, none⟩) (i + 1) cap7) = w8 := ⟨_, rfl⟩
            rw [hw8] at PB8 IR8 OQ8 OC8 J8 ⊢
            clear hw8 ST8 ST7 PB7 OQ7 OC7 IR7 hJi Oc OQ PB z7
            obtain ⟨o0, of0, oz0⟩ := id OQ8
            have c7 := PB8.at 7 _ rfl
            have hcap7 := IR8.le
            rw [List.length_append, chop_len] at hcap7
            have hcm7 := IR8.max
            unfold maxLen at hcm7
            have hI1 : (i : Int) < ((i + 1 : Nat) : Int) := by omega
            gi_wp2_with (refine ⟨trivial, ?_⟩; gi_at_call 55; refine (callsIn_wide.2 (parts_slots g (i * 19) _)).mono ?_; rintro e w9 ⟨rfl, hb9⟩)
            have hzW : W.heap.size < w8.heap.size := OC8.2.2
            have J9 := hJ _ _ _ J8 (StepR.of_below (hb9.mono (Nat.le_of_lt hzW)))
            have PB9 := PB8.of_block (hb9.block pb PB8.lt)
            have IR9 := IR8.of_block (hb9.block g IR8.lt)
            have OQ9 := OQ8.below hb9
            have OC9 := OC8.below hb9
            clear hb9 o0 of0 oz0 c7 J8 PB8 IR8 OQ8 OC8 hzW
            gi_loopg [52] 19 (fun g' c wr => ∃ cur : List Fld, c = .int .i64 (cur.length : Int) ∧ cur.length + g' = 19 ∧ J (fs ++ R ++ cur) wr ∧ One wr W.heap.size (.int .i64 Nc) ∧ One wr q (.pointer (some ⟨pb, 0, none⟩)) ∧ PkB wr pb (hdOf fs []) (some ⟨g, 0, none⟩) (i + 1) cap7 ∧ ItRow wr g cap7 (chop i R ++ [itOf cur]))
            case atStart => exact ⟨[], rfl, by simp, by rw [List.append_nil]; exact J9, OC9, OQ9, PB9, IR9⟩
            case round =>
              clear J9 PB9 IR9 OQ9 OC9
              obtain ⟨cur, rfl, hg, hJk, Oc, OQ, PB, IR⟩ := hrel
              have HG : Hid (cur.length + gk = 19) := hg
              obtain ⟨j, hj0⟩ : ∃ j, cur.length = j := ⟨_, rfl⟩
              have HJ : Hid (cur.length = j) := hj0
              have hj19 : j ≤ 19 := by omega
              rw [hj0]
              clear hg
              by_cases hj : j < 19
              · obtain ⟨s, hs⟩ : ∃ s, (itS g (i * 19))[j]? = some s := ⟨_, List.getElem?_eq_getElem (by rw [itS_len]; exact hj)⟩
                have hix := it_ix g (i * 19) j s hs
                have hsz := Oc.2.2
                obtain ⟨hto, hkd0⟩ := itS_to g (i * 19) j s hs
                have hlen : (fs ++ R ++ cur).length = 8 + 19 * i + j := by rw [List.length_append, List.length_append, HK.out, HRl.out, hj0]
                have hkd : s.kd = kAt (fs ++ R ++ cur).length := by
                  rw [hlen, hkd0]
                  unfold kAt
                  rw [if_neg (by omega), show (8 + 19 * i + j - 8) % 19 = j by omega]
                have HCl : Hid ((chop i R).length = i) := chop_len i R
                have hOk : SlotOk wr s g (i * 19 + j) (itVal j) := ⟨hto, IR.lt, IR.cell i j (by rw [List.length_append, chop_len]; simp) hj, IR.free _⟩
                have HLn : Hid ((fs ++ R ++ cur).length = 8 + 19 * i + j) := hlen
                clear hj0 hlen hkd0 hto
                obtain ⟨kd, q1, q2, q3, q4⟩ := s
                have Ba : Below wr.heap.size wr (wr.alloc (.cells #[.int .i64 kd, .pointer q1, .pointer q2, .pointer q3, .pointer q4] 73)) := (Below.refl _ _).alloc (Nat.le_refl _) _
                obtain ⟨fn, tmps, assign, body, hy, hR⟩ := hY (fs ++ R ++ cur) ⟨kd, q1, q2, q3, q4⟩ g (i * 19 + j) (itVal j) (wr.alloc (.cells #[.int .i64 kd, .pointer q1, .pointer q2, .pointer q3, .pointer q4] 73)) (hJ _ _ _ hJk (StepR.of_below (Ba.mono (by omega)))) (by have := Ba.size; omega) hkd (hOk.of_block (Ba.block g hOk.lt) Ba.size) (.inr (.inr (by omega)))
                have Oa := Oc.below Ba
                have Qa := OQ.below Ba
                have Pa := PB.of_block (Ba.block pb PB.lt)
                have Ia := IR.of_block (Ba.block g IR.lt)
                dsimp only [Slt.v] at hy hix
                clear hs hOk hkd
                gi_wp2
                refine (S.RoundIn.wideAny hR).mono ?_
                clear hR hy hix
                rintro e W3 (⟨rfl, f, hJ3, t3⟩ | ⟨rfl, hx3⟩)
                · have hle : (cur ++ [f]).length = j + 1 := by rw [List.length_append, HJ.out]; rfl
                  have OQ3 : One W3 q (.pointer (some ⟨pb, 0, none⟩)) := Qa.of_block ((t3.keep q (.inr (.inl rfl)) Qa.2.2).trans (Below.heap_setCell _ _ _ _ (by show q ≠ g; omega))) t3.size
                  have OC3 : One W3 W.heap.size (.int .i64 Nc) := Oa.of_block ((t3.keep _ (.inr (.inr (Nat.le_refl _))) Oa.2.2).trans (Below.heap_setCell _ _ _ _ (by show W.heap.size ≠ g; omega))) t3.size
                  have PB3 : PkB W3 pb (hdOf fs []) (some ⟨g, 0, none⟩) (i + 1) cap7 := Pa.of_block ((t3.keep pb (.inl rfl) Pa.lt).trans (Below.heap_setCell _ _ _ _ (by show pb ≠ g; omega)))
                  have IR3 : ItRow W3 g cap7 (chop i R ++ [itOf (cur ++ [f])]) := by
                    have h := Ia.snoc f (by rw [HJ.out]; exact hj)
                    rw [HCl.out, HJ.out] at h
                    exact h.of_block (t3.keep g (.inr (.inr (by omega))) Ia.lt)
                  rw [List.append_assoc] at hJ3
                  clear hY
                  gi_wp2
                  gi_roundg (gk - 1)
                  case measure => have := HG.out; have := HJ.out; omega
                  case rel => exact ⟨cur ++ [f], by rw [hle]; first | rfl | go_num, by rw [hle]; have := HG.out; have := HJ.out; omega, hJ3, OC3, OQ3, PB3, IR3⟩
                · clear hY
                  gi_wp2
                  refine ⟨rfl, _, results_none rfl _ _ _, ⟨_, rfl⟩, .inr ⟨fs ++ R ++ cur, hx3, .inr ?_⟩⟩
                  rw [HLn.out, List.append_assoc, cnt_app _ _ (by rw [HK.out]; omega), HNc.out]
                  omega
              · obtain rfl : j = 19 := by omega
                have hRc : (R ++ cur).length = 19 * i + 19 := by rw [List.length_append, HRl.out, hj0]
                have hch : chop (i + 1) (R ++ cur) = chop i R ++ [itOf cur] := by
                  rw [chop_succ i _ hRc, chop_app i R cur (by rw [HRl.out]; omega), List.drop_append_of_le_length (by rw [HRl.out]; omega), List.drop_of_length_le (by rw [HRl.out]; omega), List.nil_append]
                have OR9 : wr.ownsRow (W.heap.size + 1) 38 19 (.slice (some ⟨g, 0, none⟩) (i + 1) cap7) (i + 1) ((chop (i + 1) (R ++ cur)).flatMap itc) := by
                  have h := IR.owns (base := W.heap.size + 1) (by omega)
                  rw [List.length_append, chop_len] at h
                  rw [hch]
                  exact h
                have HRc : Hid ((R ++ cur).length = 19 * (i + 1)) := by show _ = _; omega
                rw [List.append_assoc] at hJk
                clear hj hj19 hj0 HG hY hRc hch
                gi_wp2
                gi_roundg (gko - 1)
                case measure => have := HGo.out; omega
                case rel => exact ⟨i + 1, R ++ cur, some ⟨g, 0, none⟩, cap7, by first | rfl | go_num, by have := HGo.out; omega, HRc, hJk, Oc, OQ, PB, OR9⟩
          · go_simp
            refine hK.out _ _ hq6 (fun hS => ?_)
            clear hK
            refine wpAnyH_ready (rs := [4]) (by kernel_rfl) (by simp) ?_
            refine AllReadyH.cons rfl (fun K hK => ?_) AllReadyH.nil
            go_simp
            refine hK.out _ _ (hq6) (fun hS => ?_)
            clear hK
            refine wpAnyH_ready (rs := [7]) (by kernel_rfl) (by simp) ?_
            refine AllReadyH.cons rfl (fun K hK => ?_) AllReadyH.nil
            rw [if_pos (by rfl)]
            refine wp_append_own _ _ _ 22 rfl (W.heap.size + 1) 38 i0 (itv itZ) 19 160 Tryd.underlying22 hi0 hz0 hz1 hz2 rfl (by decide) (.slice a i cap) i ((chop i R).flatMap itc) rfl own6 ⟨wd.heap.size, 0, none⟩ 1 1 (itc itZ) rfl rfl new6 (itc_one itZ) (by unfold maxLen; omega) (by omega) (by have := hzd; simp; omega) ?_
            intro v7 w7 own7 hg7 _
            obtain ⟨g, cap7, hv7, hgb, IR7, PB7, OQ7, OC7, ST7, z7⟩ := app7 v7 w7 own7 hg7
            subst hv7
            obtain ⟨qq0, qq1, qq2⟩ := id OQ7
            refine hK.out _ _ (qq0) (fun hS => ?_)
            clear hK
            refine S.anyH_take 8 43 (.pointer (some ⟨pb, 0, none⟩)) rfl rfl (by kernel_rfl) (by kernel_rfl) (by kernel_rfl) (fun _ _ _ h => h) (Or.inl ⟨by rfl, by intro w hSw; go_simp⟩) (qq0) ?_
            try simp only [Act.put, List.setIfInBounds_toArray, List.set_cons_zero, List.set_cons_succ]
            refine S.anyH_take 9 44 (.pointer (some ⟨pb, 7, none⟩)) rfl rfl (by kernel_rfl) (by kernel_rfl) (by kernel_rfl) (fun _ _ _ h => h) (Or.inl ⟨by rfl, by intro w hSw; go_simp⟩) (qq0) ?_
            try simp only [Act.put, List.setIfInBounds_toArray, List.set_cons_zero, List.set_cons_succ]
            have p7 := PB7.at 7 _ rfl
            have p7f := PB7.free 7
            have p7l := PB7.lt
            refine wpAnyH_ready (rs := [10]) (by kernel_rfl) (by simp) ?_
            refine AllReadyH.cons rfl (fun K hK => ?_) AllReadyH.nil
            go_simp
            refine hK.out _ _ (hq8 w7 OQ7 _) (fun hS => ?_)
            clear hK
            refine wpAnyH_done (by kernel_rfl) ?_ _
            clear own6 hq6 new6 hq8 app7 own7 hg7 hqd c7d c7a PBd OQd Ocd Bwd hzd o0 of0 oz0 c7 p7 p7f p7l qq0 qq1 qq2 hS
            have PB8 := PB7.set7 (some ⟨g, 0, none⟩) (i + 1) cap7
            have ST8 : StepR pb W.heap.size wo (w7.setCell ⟨pb, 7, none⟩ (.slice (some ⟨g, 0, none⟩) (i + 1) cap7)) := ST7.trans ⟨rfl, rfl, rfl, by simp [World.setCell], fun c _ hc => Below.heap_setCell _ _ _ _ hc⟩
            have IR8 := IR7.of_block (W' := w7.setCell ⟨pb, 7, none⟩ (.slice (some ⟨g, 0, none⟩) (i + 1) cap7)) (Below.heap_setCell _ _ _ _ (by show g ≠ pb; omega))
            have OQ8 := OQ7.of_block (W' := w7.setCell ⟨pb, 7, none⟩ (.slice (some ⟨g, 0, none⟩) (i + 1) cap7)) (Below.heap_setCell _ _ _ _ (by show q ≠ pb; omega)) (by simp [World.setCell])
            have OC8 := OC7.of_block (W' := w7.setCell ⟨pb, 7, none⟩ (.slice (some ⟨g, 0, none⟩) (i + 1) cap7)) (Below.heap_setCell _ _ _ _ (by show W.heap.size ≠ pb; omega)) (by simp [World.setCell])
            have J8 := hJ _ _ _ hJi ST8
            obtain ⟨w8, hw8⟩ : ∃ w8, w7.setCell ⟨pb, 7, none⟩ (.slice (some ⟨g, 0, none⟩) (i + 1) cap7) = w8 := ⟨_, rfl⟩
            rw [hw8] at PB8 IR8 OQ8 OC8 J8 ⊢
            clear hw8 ST8 ST7 PB7 OQ7 OC7 IR7 hJi Oc OQ PB z7
            obtain ⟨o0, of0, oz0⟩ := id OQ8
            have c7 := PB8.at 7 _ rfl
            have hcap7 := IR8.le
            rw [List.length_append, chop_len] at hcap7
            have hcm7 := IR8.max
            unfold maxLen at hcm7
            have hI1 : (i : Int) < ((i + 1 : Nat) : Int) := by omega
            gi_wp2_with (refine ⟨trivial, ?_⟩; gi_at_call 55; refine (callsIn_wide.2 (parts_slots g (i * 19) _)).mono ?_; rintro e w9 ⟨rfl, hb9⟩)
            have hzW : W.heap.size < w8.heap.size := OC8.2.2
            have J9 := hJ _ _ _ J8 (StepR.of_below (hb9.mono (Nat.le_of_lt hzW)))
            have PB9 := PB8.of_block (hb9.block pb PB8.lt)
            have IR9 := IR8.of_block (hb9.block g IR8.lt)
            have OQ9 := OQ8.below hb9
            have OC9 := OC8.below hb9
            clear hb9 o0 of0 oz0 c7 J8 PB8 IR8 OQ8 OC8 hzW
            gi_loopg [52] 19 (fun g' c wr => ∃ cur : List Fld, c = .int .i64 (cur.length : Int) ∧ cur.length + g' = 19 ∧ J (fs ++ R ++ cur) wr ∧ One wr W.heap.size (.int .i64 Nc) ∧ One wr q (.pointer (some ⟨pb, 0, none⟩)) ∧ PkB wr pb (hdOf fs []) (some ⟨g, 0, none⟩) (i + 1) cap7 ∧ ItRow wr g cap7 (chop i R ++ [itOf cur]))
            case atStart => exact ⟨[], rfl, by simp, by rw [List.append_nil]; exact J9, OC9, OQ9, PB9, IR9⟩
            case round =>
              clear J9 PB9 IR9 OQ9 OC9
              obtain ⟨cur, rfl, hg, hJk, Oc, OQ, PB, IR⟩ := hrel
              have HG : Hid (cur.length + gk = 19) := hg
              obtain ⟨j, hj0⟩ : ∃ j, cur.length = j := ⟨_, rfl⟩
              have HJ : Hid (cur.length = j) := hj0
              have hj19 : j ≤ 19 := by omega
              rw [hj0]
              clear hg
              by_cases hj : j < 19
              · obtain ⟨s, hs⟩ : ∃ s, (itS g (i * 19))[j]? = some s := ⟨_, List.getElem?_eq_getElem (by rw [itS_len]; exact hj)⟩
                have hix := it_ix g (i * 19) j s hs
                have hsz := Oc.2.2
                obtain ⟨hto, hkd0⟩ := itS_to g (i * 19) j s hs
                have hlen : (fs ++ R ++ cur).length = 8 + 19 * i + j := by rw [List.length_append, List.length_append, HK.out, HRl.out, hj0]
                have hkd : s.kd = kAt (fs ++ R ++ cur).length := by
                  rw [hlen, hkd0]
                  unfold kAt
                  rw [if_neg (by omega), show (8 + 19 * i + j - 8) % 19 = j by omega]
                have HCl : Hid ((chop i R).length = i) := chop_len i R
                have hOk : SlotOk wr s g (i * 19 + j) (itVal j) := ⟨hto, IR.lt, IR.cell i j (by rw [List.length_append, chop_len]; simp) hj, IR.free _⟩
                have HLn : Hid ((fs ++ R ++ cur).length = 8 + 19 * i + j) := hlen
                clear hj0 hlen hkd0 hto
                obtain ⟨kd, q1, q2, q3, q4⟩ := s
                have Ba : Below wr.heap.size wr (wr.alloc (.cells #[.int .i64 kd, .pointer q1, .pointer q2, .pointer q3, .pointer q4] 73)) := (Below.refl _ _).alloc (Nat.le_refl _) _
                obtain ⟨fn, tmps, assign, body, hy, hR⟩ := hY (fs ++ R ++ cur) ⟨kd, q1, q2, q3, q4⟩ g (i * 19 + j) (itVal j) (wr.alloc (.cells #[.int .i64 kd, .pointer q1, .pointer q2, .pointer q3, .pointer q4] 73)) (hJ _ _ _ hJk (StepR.of_below (Ba.mono (by omega)))) (by have := Ba.size; omega) hkd (hOk.of_block (Ba.block g hOk.lt) Ba.size) (.inr (.inr (by omega)))
                have Oa := Oc.below Ba
                have Qa := OQ.below Ba
                have Pa := PB.of_block (Ba.block pb PB.lt)
                have Ia := IR.of_block (Ba.block g IR.lt)
                dsimp only [Slt.v] at hy hix
                clear hs hOk hkd
                gi_wp2
                refine (S.RoundIn.wideAny hR).mono ?_
                clear hR hy hix
                rintro e W3 (⟨rfl, f, hJ3, t3⟩ | ⟨rfl, hx3⟩)
                · have hle : (cur ++ [f]).length = j + 1 := by rw [List.length_append, HJ.out]; rfl
                  have OQ3 : One W3 q (.pointer (some ⟨pb, 0, none⟩)) := Qa.of_block ((t3.keep q (.inr (.inl rfl)) Qa.2.2).trans (Below.heap_setCell _ _ _ _ (by show q ≠ g; omega))) t3.size
                  have OC3 : One W3 W.heap.size (.int .i64 Nc) := Oa.of_block ((t3.keep _ (.inr (.inr (Nat.le_refl _))) Oa.2.2).trans (Below.heap_setCell _ _ _ _ (by show W.heap.size ≠ g; omega))) t3.size
                  have PB3 : PkB W3 pb (hdOf fs []) (some ⟨g, 0, none⟩) (i + 1) cap7 := Pa.of_block ((t3.keep pb (.inl rfl) Pa.lt).trans (Below.heap_setCell _ _ _ _ (by show pb ≠ g; omega)))
                  have IR3 : ItRow W3 g cap7 (chop i R ++ [itOf (cur ++ [f])]) := by
                    have h := Ia.snoc f (by rw [HJ.out]; exact hj)
                    rw [HCl.out, HJ.out] at h
                    exact h.of_block (t3.keep g (.inr (.inr (by omega))) Ia.lt)
                  rw [List.append_assoc] at hJ3
                  clear hY
                  gi_wp2
                  gi_roundg (gk - 1)
                  case measure => have := HG.out; have := HJ.out; omega
                  case rel => exact ⟨cur ++ [f], by rw [hle]; first | rfl | go_num, by rw [hle]; have := HG.out; have := HJ.out; omega, hJ3, OC3, OQ3, PB3, IR3⟩
                · clear hY
                  gi_wp2
                  refine ⟨rfl, _, results_none rfl _ _ _, ⟨_, rfl⟩, .inr ⟨fs ++ R ++ cur, hx3, .inr ?_⟩⟩
                  rw [HLn.out, List.append_assoc, cnt_app _ _ (by rw [HK.out]; omega), HNc.out]
                  omega
              · obtain rfl : j = 19 := by omega
                have hRc : (R ++ cur).length = 19 * i + 19 := by rw [List.length_append, HRl.out, hj0]
                have hch : chop (i + 1) (R ++ cur) = chop i R ++ [itOf cur] := by
                  rw [chop_succ i _ hRc, chop_app i R cur (by rw [HRl.out]; omega), List.drop_append_of_le_length (by rw [HRl.out]; omega), List.drop_of_length_le (by rw [HRl.out]; omega), List.nil_append]
                have OR9 : wr.ownsRow (W.heap.size + 1) 38 19 (.slice (some ⟨g, 0, none⟩) (i + 1) cap7) (i + 1) ((chop (i + 1) (R ++ cur)).flatMap itc) := by
                  have h := IR.owns (base := W.heap.size + 1) (by omega)
                  rw [List.length_append, chop_len] at h
                  rw [hch]
                  exact h
                have HRc : Hid ((R ++ cur).length = 19 * (i + 1)) := by show _ = _; omega
                rw [List.append_assoc] at hJk
                clear hj hj19 hj0 HG hY hRc hch
                gi_wp2
                gi_roundg (gko - 1)
                case measure => have := HGo.out; omega
                case rel => exact ⟨i + 1, R ++ cur, some ⟨g, 0, none⟩, cap7, by first | rfl | go_num, by have := HGo.out; omega, HRc, hJk, Oc, OQ, PB, OR9⟩
        · obtain rfl : i = Nc.toNat := by omega
          have hlf : (fs ++ R).length = 8 + 19 * Nc.toNat := by rw [List.length_append, HK.out, HRl.out]
          have hcn : cntF (fs ++ R) = Nc := by rw [cnt_app _ _ (by rw [HK.out]; omega), HNc.out]
          have hdr : (fs ++ R).drop 8 = R := by rw [List.drop_append_of_le_length (by rw [HK.out]; omega), List.drop_of_length_le (by rw [HK.out]; omega), List.nil_append]
          have DR : DoneR pb W.heap.size (fs ++ R) wo := by
            refine ⟨by rw [hcn]; exact hlf, a, cap, ?_, ?_, ?_⟩
            · rw [hcn, hd_snoc7 fs R (by rw [HK.out]; omega)]; exact PB
            · rw [hcn, hdr]
              have h := OR
              rw [← chop_len Nc.toNat R] at h
              obtain ⟨a', c', hv, RR, _⟩ := rowI_owns (l := chop Nc.toNat R) (by simpa [chop_len] using OR)
              rw [chop_len] at hv RR
              cases hv
              exact RR
            · rcases OR.2 with ⟨hv, _⟩ | ⟨g, c', _, hv, hb, _⟩
              · injection hv with h1 h2 h3; exact .inl h1
              · injection hv with h1 h2 h3; exact .inr ⟨g, h1, by omega⟩
          clear hY hY0 hlf hcn hdr OR PB OQ Oc HRl
          have hnI : ¬ (((Nc.toNat : Nat) : Int) < Nc) := by omega
          gi_wp2
          exact ⟨rfl, _, results_none rfl _ _ _, ⟨_, rfl⟩, .inl ⟨fs ++ R, hJi, DR⟩⟩
end Go.Proofs.YticmjlnpjopfbaaDoor

namespace Go.Proofs.YticmjlnpjopfbaaDoor
open Go.RowKit
open C (Fld rdF rd fld)
set_option linter.unusedVariables false
set_option linter.unusedSimpArgs false

def kinds (n : Nat) : List Int := (List.range n).map kAt
theorem kinds_succ (n : Nat) : kinds (n + 1) = kinds n ++ [kAt n] := by simp [kinds, List.range_succ]
theorem rdF_app : ∀ (a b zs : List Int) (acc : List Fld) (i : Nat), rdF (a ++ b) zs acc i = (match rdF a zs acc i with | .ok (fs, n) => rdF b zs fs n | .error c => .error c)
  | [], b, zs, acc, i => by simp [rdF]
  | k :: a, b, zs, acc, i => by
    simp only [List.cons_append, rdF]
    cases fld k (zs.drop i) with
    | error c => rfl
    | ok q => obtain ⟨f, n⟩ := q; exact rdF_app a b zs _ _
theorem rdF_acc : ∀ (ks zs : List Int) (acc : List Fld) (i : Nat), rdF ks zs acc i = (match rdF ks zs [] i with | .ok (fs, n) => .ok (acc ++ fs, n) | .error c => .error c)
  | [], zs, acc, i => by simp [rdF]
  | k :: ks, zs, acc, i => by
    simp only [rdF]
    cases fld k (zs.drop i) with
    | error c => rfl
    | ok q =>
      obtain ⟨f, n⟩ := q
      simp only
      rw [rdF_acc ks zs (acc ++ [f]) (i + n), rdF_acc ks zs ([] ++ [f]) (i + n)]
      cases rdF ks zs [] (i + n) with
      | error c => rfl
      | ok q => obtain ⟨fs, m⟩ := q; simp
theorem rdF_len : ∀ {ks zs : List Int} {acc fs : List Fld} {i n : Nat}, rdF ks zs acc i = .ok (fs, n) → fs.length = acc.length + ks.length
  | [], zs, acc, fs, i, n, h => by simp [rdF] at h; rw [h.1]; simp
  | k :: ks, zs, acc, fs, i, n, h => by
    simp only [rdF] at h
    split at h
    · rw [rdF_len h]; simp; omega
    · cases h
theorem kinds_8 : kinds 8 = hdK := by decide
theorem kinds_it (i : Nat) : ∀ j, j ≤ 19 → kinds (8 + 19 * i + j) = kinds (8 + 19 * i) ++ itK.take j := by
  intro j
  induction j with
  | zero => intro _; simp
  | succ j ih =>
    intro hj
    rw [← Nat.add_assoc, kinds_succ, ih (by omega), List.append_assoc]
    congr 1
    have hl : j < itK.length := by show j < 19; omega
    rw [List.take_succ_eq_append_getElem hl]
    congr 2
    unfold kAt
    rw [if_neg (by omega), show (8 + 19 * i + j - 8) % 19 = j by omega, List.getD_eq_getElem?_getD, List.getElem?_eq_getElem hl]
    rfl
theorem kinds_item (i : Nat) : kinds (8 + 19 * (i + 1)) = kinds (8 + 19 * i) ++ itK := by
  have h := kinds_it i 19 (Nat.le_refl _)
  rw [show 8 + 19 * i + 19 = 8 + 19 * (i + 1) by omega] at h
  rw [h]
  rfl
/-- i items are read. -/
theorem rd_items (zs : List Int) : ∀ (i : Nat) (fs : List Fld) (pos : Nat), rdF (kinds (8 + 19 * i)) zs [] 0 = .ok (fs, pos) →
    ∃ hd p8, rd hdK zs = .ok (hd, p8) ∧ hd = fs.take 8 ∧ ∀ n, rdIts (i + n) zs [] p8 = rdIts n zs (chop i (fs.drop 8)) pos
  | 0, fs, pos, h => by
    have hl := rdF_len h
    rw [show 8 + 19 * 0 = 8 from rfl, kinds_8] at h
    refine ⟨fs, pos, h, ?_, fun n => ?_⟩
    · rw [List.take_of_length_le (by rw [hl]; simp [kinds])]
    · rw [Nat.zero_add]; rfl
  | i + 1, fs, pos, h => by
    have hl := rdF_len h
    have hl' : fs.length = 8 + 19 * (i + 1) := by rw [hl]; simp [kinds]
    rw [kinds_item, rdF_app] at h
    cases hr : rdF (kinds (8 + 19 * i)) zs [] 0 with
    | error c => rw [hr] at h; cases h
    | ok q =>
      obtain ⟨gs, n1⟩ := q
      rw [hr] at h
      simp only at h
      have hg : gs.length = 8 + 19 * i := by rw [rdF_len hr]; simp [kinds]
      rw [rdF_acc] at h
      cases hi : rdF itK zs [] n1 with
      | error c => rw [hi] at h; cases h
      | ok q2 =>
        obtain ⟨cs, n2⟩ := q2
        rw [hi] at h
        simp only [Except.ok.injEq, Prod.mk.injEq] at h
        obtain ⟨h1, h2⟩ := h
        subst h2
        obtain ⟨hd, p8, e1, e2, e3⟩ := rd_items zs i gs n1 hr
        have hc : cs.length = 19 := by rw [rdF_len hi]; rfl
        refine ⟨hd, p8, e1, ?_, fun n => ?_⟩
        · rw [e2, ← h1, List.take_append_of_le_length (by omega)]
        · rw [show i + 1 + n = i + (n + 1) by omega, e3 (n + 1)]
          simp only [rdIts, hi]
          congr 1
          have ed : fs.drop 8 = gs.drop 8 ++ cs := by rw [← h1, List.drop_append_of_le_length (by omega)]
          rw [ed, chop_succ i _ (by rw [List.length_append, List.length_drop]; omega), chop_app i _ _ (by rw [List.length_drop]; omega)]
          congr 3
          rw [List.drop_append_of_le_length (by rw [List.length_drop]; omega), List.drop_of_length_le (by rw [List.length_drop]; omega), List.nil_append]
theorem cnt_take (fs : List Fld) (h : 8 ≤ fs.length) : ((fs.take 8).getD 7 fzz).num = cntF fs := by
  unfold cntF
  rw [List.getD_eq_getElem?_getD, List.getD_eq_getElem?_getD, List.getElem?_take, if_pos (by omega)]
theorem hd_take (fs : List Fld) (l : List Itm) (h : 8 ≤ fs.length) : hdOf (fs.take 8) l = hdOf fs l := by
  rcases fs with _ | ⟨f0, _ | ⟨f1, _ | ⟨f2, _ | ⟨f3, _ | ⟨f4, _ | ⟨f5, _ | ⟨f6, _ | ⟨f7, q⟩⟩⟩⟩⟩⟩⟩⟩
  all_goals first | rfl | (simp at h <;> omega)
/-- All fields are read: that is the packet. -/
theorem open_done {zs : List Int} {fs : List Fld} {pos : Nat} (h : rdF (kinds fs.length) zs [] 0 = .ok (fs, pos)) (hl : fs.length = 8 + 19 * (cntF fs).toNat) :
    openR zs = .ok (hdOf fs (chop (cntF fs).toNat (fs.drop 8)), pos) := by
  rw [hl] at h
  obtain ⟨hd, p8, e1, rfl, e3⟩ := rd_items zs _ fs pos h
  unfold openR
  rw [e1]
  simp only
  rw [cnt_take fs (by omega)]
  have := e3 0
  rw [Nat.add_zero] at this
  rw [this]
  simp only [rdIts]
  rw [hd_take _ _ (by omega)]
/-- A field that can't be read: there is no packet. -/
theorem open_cut {zs : List Int} {fs : List Fld} {pos : Nat} {c : Int} (h : rdF (kinds fs.length) zs [] 0 = .ok (fs, pos)) (he : fld (kAt fs.length) (zs.drop pos) = .error c) (hc : CutR fs) :
    ∃ c', openR zs = .error c' := by
  by_cases h8 : fs.length < 8
  · have hk : hdK = kinds fs.length ++ (kAt fs.length :: hdK.drop (fs.length + 1)) := by
      have : ∀ n : Fin 8, hdK = kinds n.val ++ (kAt n.val :: hdK.drop (n.val + 1)) := by decide
      exact this ⟨fs.length, h8⟩
    refine ⟨c, ?_⟩
    have hr : rd hdK zs = .error c := by
      unfold rd
      rw [hk, rdF_app, h]
      simp only [rdF, he]
    unfold openR
    rw [hr]
  · have hlt : fs.length < 8 + 19 * (cntF fs).toNat := by rcases hc with h' | h'; exact absurd h' h8; exact h'
    obtain ⟨i, j, hij, hj⟩ : ∃ i j, fs.length = 8 + 19 * i + j ∧ j < 19 := ⟨(fs.length - 8) / 19, (fs.length - 8) % 19, by omega, by omega⟩
    have hi : i < (cntF fs).toNat := by omega
    rw [hij, kinds_it i j (by omega), rdF_app] at h
    cases hr : rdF (kinds (8 + 19 * i)) zs [] 0 with
    | error c' => rw [hr] at h; cases h
    | ok q =>
      obtain ⟨gs, n1⟩ := q
      rw [hr] at h
      simp only at h
      have hg : gs.length = 8 + 19 * i := by rw [rdF_len hr]; simp [kinds]
      rw [rdF_acc] at h
      cases hi2 : rdF (itK.take j) zs [] n1 with
      | error c' => rw [hi2] at h; cases h
      | ok q2 =>
        obtain ⟨cs, n2⟩ := q2
        rw [hi2] at h
        simp only [Except.ok.injEq, Prod.mk.injEq] at h
        obtain ⟨h1, h2⟩ := h
        subst h2
        obtain ⟨hd, p8, e1, rfl, e3⟩ := rd_items zs i gs n1 hr
        have hl : j < itK.length := hj
        have hkj : kAt fs.length = itK[j] := by
          rw [hij]
          unfold kAt
          rw [if_neg (by omega), show (8 + 19 * i + j - 8) % 19 = j by omega, List.getD_eq_getElem?_getD, List.getElem?_eq_getElem hl]
          rfl
        have hit : rdF itK zs [] n1 = .error c := by
          have e : itK = itK.take j ++ (itK[j] :: itK.drop (j + 1)) := by rw [List.getElem_cons_drop, List.take_append_drop]
          rw [e, rdF_app, hi2]
          simp only [rdF]
          rw [← hkj, he]
        refine ⟨c, ?_⟩
        unfold openR
        rw [e1]
        simp only
        have ht : gs.take 8 = fs.take 8 := by rw [← h1, List.take_append_of_le_length (by omega)]
        rw [ht, cnt_take fs (by omega)]
        have := e3 ((cntF fs).toNat - i - 1 + 1)
        rw [show i + ((cntF fs).toNat - i - 1 + 1) = (cntF fs).toNat by omega] at this
        rw [this]
        simp only [rdIts, hit]

end Go.Proofs.YticmjlnpjopfbaaDoor

namespace Go.Proofs.YticmjlnpjopfbaaDoor.C
open Go.ChangeShapes Go.WideShapes Go.ChangeAt Go.RowKit
set_option linter.unusedVariables false

/-- Block k holds three cells that may be written. -/
def Three (W : World) (k : Nat) (v0 v1 v2 : Value) : Prop :=
  W.cell? ⟨k, 0, none⟩ = some v0 ∧ W.cell? ⟨k, 1, none⟩ = some v1 ∧ W.cell? ⟨k, 2, none⟩ = some v2 ∧
  W.frozen? ⟨k, 0, none⟩ = false ∧ W.frozen? ⟨k, 1, none⟩ = false ∧ W.frozen? ⟨k, 2, none⟩ = false ∧ k < W.heap.size
theorem Three.lt {W : World} {k : Nat} {v0 v1 v2 : Value} (h : Three W k v0 v1 v2) : k < W.heap.size := h.2.2.2.2.2.2
theorem Three.new (W : World) (v0 v1 v2 : Value) (t : TypeId) : Three (W.alloc (.cells #[v0, v1, v2] t)) W.heap.size v0 v1 v2 :=
  ⟨by simp, by simp, by simp, by simp, by simp, by simp, by simp⟩
theorem Three.of_block {W W' : World} {k : Nat} {v0 v1 v2 : Value} (h : Three W k v0 v1 v2) (hb : W'.heap[k]? = W.heap[k]?) (hs : W.heap.size ≤ W'.heap.size) : Three W' k v0 v1 v2 :=
  ⟨(World.cell?_of_block (a := ⟨k, 0, none⟩) hb).trans h.1, (World.cell?_of_block (a := ⟨k, 1, none⟩) hb).trans h.2.1, (World.cell?_of_block (a := ⟨k, 2, none⟩) hb).trans h.2.2.1,
    (World.frozen?_of_block (a := ⟨k, 0, none⟩) hb).trans h.2.2.2.1, (World.frozen?_of_block (a := ⟨k, 1, none⟩) hb).trans h.2.2.2.2.1, (World.frozen?_of_block (a := ⟨k, 2, none⟩) hb).trans h.2.2.2.2.2.1, by have := h.lt; omega⟩
theorem Three.at {W : World} {k k' : Nat} {v0 v1 v2 : Value} (h : Three W k v0 v1 v2) (e : k = k') : Three W k' v0 v1 v2 := e ▸ h
theorem Three.set1 {W : World} {k : Nat} {v0 v1 v2 : Value} (h : Three W k v0 v1 v2) (v : Value) : Three (W.setCell ⟨k, 1, none⟩ v) k v0 v v2 := by
  obtain ⟨h0, h1, h2, f0, f1, f2, hk⟩ := h
  refine ⟨?_, ?_, ?_, by simpa using f0, by simpa using f1, by simpa using f2, by simpa using hk⟩
  · rw [World.cell?_setCell_other _ _ _ _ (by simp)]; exact h0
  · exact World.cell?_setCell_same _ _ _ h1
  · rw [World.cell?_setCell_other _ _ _ _ (by simp)]; exact h2
theorem Three.set2 {W : World} {k : Nat} {v0 v1 v2 : Value} (h : Three W k v0 v1 v2) (v : Value) : Three (W.setCell ⟨k, 2, none⟩ v) k v0 v1 v := by
  obtain ⟨h0, h1, h2, f0, f1, f2, hk⟩ := h
  refine ⟨?_, ?_, ?_, by simpa using f0, by simpa using f1, by simpa using f2, by simpa using hk⟩
  · rw [World.cell?_setCell_other _ _ _ _ (by simp)]; exact h0
  · rw [World.cell?_setCell_other _ _ _ _ (by simp)]; exact h1
  · exact World.cell?_setCell_same _ _ _ h2

/-- The document's reader in block p: the bytes zs, i of them behind it, the first error. -/
structure Rp (W0 : World) (a : Option Addr) (len cap : Nat) (zs : List Int) (p : Nat) (i : Nat) (code : Int) (w : World) : Prop where
  three : Three w p (.slice a len cap) (.int .i64 i) (.int .i64 code)
  row : Row .u8 W0 a len cap zs
  old : Below W0.heap.size W0 w
  hp : W0.heap.size ≤ p
  le : i ≤ len
  max : len ≤ 70368744170000
  cmax : cap ≤ 9223372036854775807
theorem Rp.kp {W0 : World} {a : Option Addr} {len cap : Nat} {zs : List Int} {p i j : Nat} {c c' : Int} {w w' : World} (h : Rp W0 a len cap zs p i c w) (k : Kp p w w') (t : Three w' p (.slice a len cap) (.int .i64 j) (.int .i64 c')) (hj : j ≤ len) : Rp W0 a len cap zs p j c' w' :=
  ⟨t, h.row, h.old.trans (k.below h.hp h.old.size), h.hp, hj, h.max, h.cmax⟩
theorem Rp.alloc {W0 : World} {a : Option Addr} {len cap : Nat} {zs : List Int} {p i : Nat} {c : Int} {w : World} (h : Rp W0 a len cap zs p i c w) (o : Obj) : Rp W0 a len cap zs p i c (w.alloc o) :=
  h.kp ((Kp.refl _ _).alloc o) (h.three.of_block (Below.heap_alloc _ _ _ h.three.lt) (by simp)) h.le
theorem Rp.drewN {W0 : World} {a : Option Addr} {len cap : Nat} {zs : List Int} {p i : Nat} {c : Int} {w : World} (h : Rp W0 a len cap zs p i c w) (n : Nat) : Rp W0 a len cap zs p i c (w.drewN n) :=
  h.kp ((Kp.refl _ _).drewN n) h.three h.le
theorem Rp.next {W0 : World} {a : Option Addr} {len cap : Nat} {zs : List Int} {p i : Nat} {c : Int} {w : World} (h : Rp W0 a len cap zs p i c w) (n : Nat) (hn : i + n ≤ len) : Rp W0 a len cap zs p (i + n) c (w.setCell ⟨p, 1, none⟩ (.int .i64 ((i : Int) + n))) :=
  h.kp ((Kp.refl _ _).setCell 1 _) (by rw [show ((i + n : Nat) : Int) = (i : Int) + n by omega]; exact h.three.set1 _) hn
theorem Rp.fail {W0 : World} {a : Option Addr} {len cap : Nat} {zs : List Int} {p i : Nat} {c : Int} {w : World} (h : Rp W0 a len cap zs p i c w) (c' : Int) : Rp W0 a len cap zs p i c' (w.setCell ⟨p, 2, none⟩ (.int .i64 c')) :=
  h.kp ((Kp.refl _ _).setCell 2 _) (h.three.set2 _) h.le

theorem Rp.to {W0 : World} {a : Option Addr} {len cap : Nat} {zs : List Int} {p i : Nat} {c : Int} {w : World} (h : Rp W0 a len cap zs p i c w) (q k : Nat) (x : Int) (hx : x = (k : Int)) (hk : k ≤ len) : Rp W0 a len cap zs p k c ((w.drewN q).setCell ⟨p, 1, none⟩ (.int .i64 x)) := by
  subst hx
  exact (h.drewN q).kp ((Kp.refl _ _).setCell 1 _) ((h.drewN q).three.set1 _) hk
theorem and127_8 (c : Int) (h0 : 0 ≤ c) (h1 : c < 256) : bits .and .u8 c 127 = c % 128 := by
  have key : ∀ n : Fin 256, bits .and .u8 (n.val : Int) 127 = (n.val : Int) % 128 := by decide +kernel
  have := key ⟨c.toNat, by omega⟩
  simpa [Int.toNat_of_nonneg h0] using this
theorem put_digit2 {y c : Int} {j : Nat} (hy0 : 0 ≤ y) (hy : y < 128 ^ j) (hj : j ≤ 9) (c0 : 0 ≤ c) (c1 : c < 256) (h9 : j = 9 → c ≤ 1) :
    bits .or .u64 y (IntKind.u64.wrap (IntKind.u64.wrap (bits .and .u8 c 127) * 2 ^ (7 * j))) = y + c % 128 * 128 ^ j := by
  have h := put_digit hy0 hy hj c0 c1 h9
  rw [andNot128 c c0 c1] at h
  rw [and127_8 c c0 c1]
  exact h

/-- What a call of the reader does: a value, and the place behind it; or the error, and zero. -/
def Rout (W0 : World) (a : Option Addr) (len cap : Nat) (zs : List Int) (p i : Nat) (w : World) (zero : Value) (res : Except Int (Value × Nat)) (e : Ending) (w' : World) : Prop :=
  Kp p w w' ∧ match res with
  | .ok (v, n) => e = .returned v ∧ Rp W0 a len cap zs p (i + n) 0 w'
  | .error c => e = .returned zero ∧ ∃ j, Rp W0 a len cap zs p j c w'

set_option maxHeartbeats 2000000 in
theorem rnum_out (W0 : World) (a : Option Addr) (len cap : Nat) (zs : List Int) (p i : Nat) (w : World) (P : Rp W0 a len cap zs p i 0 w) (res : Except Int (Int × Nat)) (hres : num (zs.drop i) = res) :
    Calls Tryd.prog 86 #[.pointer (some ⟨p, 0, none⟩)] w (Rout W0 a len cap zs p i w (.int .u64 0) (u64R res)) := by
  have HB : Hid (∀ c ∈ zs, 0 ≤ c ∧ c < 256) := P.row.byte
  have HL : Hid (zs.length = len) := P.row.size
  have HP : Hid (Rp W0 a len cap zs p i 0 w) := P
  have HR : Hid (num (zs.drop i) = res) := hres
  clear hres
  obtain ⟨hk, hmax⟩ : p < w.heap.size ∧ len ≤ 70368744170000 := ⟨P.three.lt, P.max⟩
  clear P
  go_enter Tryd.func86, Tryd.ntmps86
  go_wp2
  go_loopg [3, 4] 9 (fun g x s wr => ∃ (j : Nat) (y : Int), x = .int .u64 y ∧ s = .int .i64 (j : Int) ∧ j + g = 9 ∧ 0 ≤ y ∧ Hid (y < 128 ^ j) ∧ y ≤ 18446744073709551615 ∧ Hid (numF (zs.drop (i + j)) j y = res) ∧ Hid (Rp W0 a len cap zs p (i + j) 0 wr) ∧ Hid (Kp p w wr) ∧ i + j ≤ len)
  case atStart => exact ⟨0, 0, rfl, rfl, rfl, by omega, by show (0 : Int) < 128 ^ 0; simp, by omega, HR.out, HP.out, Kp.refl _ _, HP.out.le⟩
  case round =>
    obtain ⟨j, y, rfl, rfl, hg, hy0, HY, hy1, HE, HPj, HK, hle⟩ := hrel
    have hj : j ≤ 9 := by omega
    have HG : Hid (j + gk = 9) := hg
    clear hg
    obtain ⟨m0, m1, m2, f0, f1, f2, hz⟩ := id HPj.out.three
    by_cases hend : i + j = len
    · have E : res = .error 21 := by
        rw [← HE.out, List.drop_eq_nil_of_le (by have := HL.out; omega)]; rfl
      subst E
      have hcmp : (len : Int) ≤ ((i + j : Nat) : Int) := by omega
      clear hend
      go_wp2
      go_quiet (fail)
      go_wp2
      go_ret
      exact ⟨(HK.out.drewN _).setCell 2 _, rfl, _, (HPj.out.drewN _).fail 21⟩
    · have hlt : i + j < len := by omega
      have hd := drop_cons (zs := zs) (k := i + j) (by have := HL.out; omega)
      rw [hd] at HE
      clear hd
      obtain ⟨c0, c1⟩ := getD_byte HB.out (i + j)
      obtain ⟨bb, oo, rfl, hbb, hcc⟩ := HPj.out.row.mem.resolve_left (by omega)
      have hcell := (HPj.out.old.cell (p := ⟨bb, oo + (i + j), none⟩) hbb).trans (hcc (i + j) hlt)
      obtain ⟨c, hc⟩ : ∃ c, zs.getD (i + j) 0 = c := ⟨_, rfl⟩
      rw [hc] at HE c0 c1 hcell
      have HC : Hid (zs.getD (i + j) 0 = c) := hc
      clear hc hcc
      have hI : ((i + j : Nat) : Int) < (len : Int) := by omega
      by_cases hz : c = 0
      · have hz' : (c == 0) = true := by simpa using hz
        have h1 : ¬ 1 < c := by omega
        have hl : c < 128 := by omega
        by_cases hj0 : j = 0
        · have hj7 : ¬ (0 : Int) < (j : Int) := by omega
          have h9' : ((j : Int) == 9) = false := by simp; omega
          have hpd := put_digit2 (c := c) hy0 HY.out hj c0 c1 (fun h => by omega)
          have E : res = .ok (y + c * 128 ^ j, j + 1) := by rw [← HE.out, numF_last (by omega) hl]
          subst E
          rw [show c % 128 = c by omega] at hpd
          clear hz hj0
          go_wp2
          go_quiet (fail)
          go_wp2
          go_quiet (fail)
          go_wp2
          go_ret
          exact ⟨(HK.out.drewN _).setCell 1 _, rfl, HPj.out.to _ _ _ (by omega) (by omega)⟩
        · have hj7 : (0 : Int) < (j : Int) := by omega
          have E : res = .error 20 := by rw [← HE.out, numF_bad (.inl ⟨hz, by omega⟩)]
          subst E
          clear hz hj0
          by_cases h9 : j = 9
          · have h9' : ((j : Int) == 9) = true := by simp; omega
            clear h9
            go_wp2
            go_quiet (fail)
            go_wp2
            go_quiet (fail)
            go_wp2
            go_ret
            exact ⟨(HK.out.drewN _).setCell 2 _, rfl, _, (HPj.out.drewN _).fail 20⟩
          · have h9' : ((j : Int) == 9) = false := by simp; omega
            go_wp2
            go_quiet (fail)
            go_wp2
            go_quiet (fail)
            go_wp2
            go_ret
            exact ⟨(HK.out.drewN _).setCell 2 _, rfl, _, (HPj.out.drewN _).fail 20⟩
      · have hz' : (c == 0) = false := by simpa using hz
        by_cases h1 : 1 < c
        · by_cases h9 : j = 9
          · have h9' : ((j : Int) == 9) = true := by simp; omega
            have E : res = .error 20 := by rw [← HE.out, numF_bad (.inr ⟨h1, h9⟩)]
            subst E
            clear h9
            go_wp2
            go_quiet (fail)
            go_wp2
            go_quiet (fail)
            go_wp2
            go_ret
            exact ⟨(HK.out.drewN _).setCell 2 _, rfl, _, (HPj.out.drewN _).fail 20⟩
          · have h9' : ((j : Int) == 9) = false := by simp; omega
            have hpd := put_digit2 (c := c) hy0 HY.out hj c0 c1 (fun h => absurd h h9)
            by_cases hl : c < 128
            · have E : res = .ok (y + c * 128 ^ j, j + 1) := by rw [← HE.out, numF_last (by omega) hl]
              subst E
              rw [show c % 128 = c by omega] at hpd
              go_wp2
              go_quiet (fail)
              go_wp2
              go_quiet (fail)
              go_wp2
              go_ret
              exact ⟨(HK.out.drewN _).setCell 1 _, rfl, HPj.out.to _ _ _ (by omega) (by omega)⟩
            · rw [show c % 128 = c - 128 by omega] at hpd
              have HE' : Hid (numF (zs.drop (i + (j + 1))) (j + 1) (y + (c - 128) * 128 ^ j) = res) := by
                show _ = _
                rw [← HE.out, numF_more (by omega) hl]; rfl
              go_wp2
              go_quiet (fail)
              go_wp2
              go_quiet (fail)
              go_wp2
              go_roundg (gk - 1)
              case measure => have := HG.out; omega
              case rel =>
                have hp := pw_pos j
                have h3 : (c - 128) * 128 ^ j ≤ 127 * 128 ^ j := Int.mul_le_mul_of_nonneg_right (by omega) (Int.le_of_lt hp)
                have h4 : 0 ≤ (c - 128) * 128 ^ j := Int.mul_nonneg (by omega) (Int.le_of_lt hp)
                have h5 := HY.out
                have h6 := pw_le (i := j) (by omega)
                have e : (128 : Int) ^ 9 = 9223372036854775808 := by decide
                rw [e, pw_succ] at h6
                exact ⟨j + 1, _, rfl, by go_num, by have := HG.out; omega, by omega, by show _ < _; rw [pw_succ]; omega, by omega, HE', HPj.out.to _ _ _ (by omega) (by omega), (HK.out.drewN _).setCell 1 _, by omega⟩
        · have hl : c < 128 := by omega
          have hpd := put_digit2 (c := c) hy0 HY.out hj c0 c1 (fun h => by omega)
          have E : res = .ok (y + c * 128 ^ j, j + 1) := by rw [← HE.out, numF_last (by omega) hl]
          subst E
          rw [show c % 128 = c by omega] at hpd
          by_cases h9 : j = 9
          · have h9' : ((j : Int) == 9) = true := by simp; omega
            clear h9
            go_wp2
            go_quiet (fail)
            go_wp2
            go_quiet (fail)
            go_wp2
            go_ret
            exact ⟨(HK.out.drewN _).setCell 1 _, rfl, HPj.out.to _ _ _ (by omega) (by omega)⟩
          · have h9' : ((j : Int) == 9) = false := by simp; omega
            go_wp2
            go_quiet (fail)
            go_wp2
            go_quiet (fail)
            go_wp2
            go_ret
            exact ⟨(HK.out.drewN _).setCell 1 _, rfl, HPj.out.to _ _ _ (by omega) (by omega)⟩

end Go.Proofs.YticmjlnpjopfbaaDoor.C

namespace Go.Proofs.YticmjlnpjopfbaaDoor.C
open Go.ChangeShapes Go.WideShapes Go.ChangeAt Go.RowKit
set_option linter.unusedVariables false

theorem rnum_ok (W0 : World) (a : Option Addr) (len cap : Nat) (zs : List Int) (p i : Nat) (w : World) (P : Rp W0 a len cap zs p i 0 w) (x : Int) (n : Nat) (h : num (zs.drop i) = .ok (x, n)) :
    Calls Tryd.prog 86 #[.pointer (some ⟨p, 0, none⟩)] w fun e w' => e = .returned (.int .u64 x) ∧ Rp W0 a len cap zs p (i + n) 0 w' ∧ Kp p w w' :=
  (rnum_out W0 a len cap zs p i w P _ h).mono fun e w' h => ⟨h.2.1, h.2.2, h.1⟩
theorem rnum_err (W0 : World) (a : Option Addr) (len cap : Nat) (zs : List Int) (p i : Nat) (w : World) (P : Rp W0 a len cap zs p i 0 w) (c : Int) (h : num (zs.drop i) = .error c) :
    Calls Tryd.prog 86 #[.pointer (some ⟨p, 0, none⟩)] w fun e w' => e = .returned (.int .u64 0) ∧ (∃ j, Rp W0 a len cap zs p j c w') ∧ Kp p w w' :=
  (rnum_out W0 a len cap zs p i w P _ h).mono fun e w' h => ⟨h.2.1, h.2.2, h.1⟩
theorem rnum_at {W0 : World} {a : Option Addr} {len cap : Nat} {zs : List Int} {p i : Nat} {c : Int} {w : World} (P : Rp W0 a len cap zs p i c w) {x : Int} {n : Nat} (h : num (zs.drop i) = .ok (x, n)) :
    0 ≤ x ∧ x ≤ 18446744073709551615 ∧ i + n ≤ len := by
  obtain ⟨h1, h2, h3, h4, h5⟩ := num_ok (fun c hc => P.row.byte c (List.mem_of_mem_drop hc)) h
  have hl := P.row.size
  have hle := P.le
  rw [List.length_drop, hl] at h4
  omega
theorem err_pos {c : Int} {bs : List Int} (h : num bs = .error c) : c = 20 ∨ c = 21 := numF_err h

def i64R : Except Int (Int × Nat) → Except Int (Value × Nat)
  | .ok (x, n) => .ok (.int .i64 x, n)
  | .error c => .error c
def strR : Except Int (ByteArray × Nat) → Except Int (Value × Nat)
  | .ok (x, n) => .ok (.string x, n)
  | .error c => .error c
def boolR : Except Int (Bool × Nat) → Except Int (Value × Nat)
  | .ok (x, n) => .ok (.bool x, n)
  | .error c => .error c

set_option maxHeartbeats 2000000 in
theorem rwhole_out (W0 : World) (a : Option Addr) (len cap : Nat) (zs : List Int) (p i : Nat) (w : World) (P : Rp W0 a len cap zs p i 0 w) :
    Calls Tryd.prog 70 #[.pointer (some ⟨p, 0, none⟩)] w (Rout W0 a len cap zs p i w (.int .i64 0) (i64R (natR (num (zs.drop i))))) := by
  cases hn : num (zs.drop i) with
  | error c =>
    have HN : Hid (num (zs.drop i) = .error c) := hn
    rcases err_pos hn with rfl | rfl
    all_goals
      clear hn
      go_enter Tryd.func70, Tryd.ntmps70
      go_wp2_with (go_at_call 86; refine (rnum_err W0 a len cap zs p i _ P _ HN.out).mono ?_; rintro e w1 ⟨rfl, ⟨j, hp1⟩, hk1⟩; obtain ⟨m0, m1, m2, f0, f1, f2, hz⟩ := id hp1.three)
      go_ret
      exact ⟨hk1, rfl, j, hp1⟩
  | ok r =>
    obtain ⟨x, n⟩ := r
    obtain ⟨x0, x1, _⟩ := rnum_at P hn
    have HN : Hid (num (zs.drop i) = .ok (x, n)) := hn
    clear hn
    by_cases hlt : 9223372036854775807 < x
    · have E : i64R (natR (.ok (x, n))) = .error 20 := by simp only [natR, if_pos hlt, i64R]
      rw [E]
      clear E
      go_enter Tryd.func70, Tryd.ntmps70
      go_wp2_with (go_at_call 86; refine (rnum_ok W0 a len cap zs p i _ P x n HN.out).mono ?_; rintro e w1 ⟨rfl, hp1, hk1⟩; obtain ⟨m0, m1, m2, f0, f1, f2, hz⟩ := id hp1.three)
      go_ret
      exact ⟨hk1.setCell 2 _, rfl, _, hp1.fail 20⟩
    · have E : i64R (natR (.ok (x, n))) = .ok (.int .i64 x, n) := by simp only [natR, if_neg hlt, i64R]
      rw [E]
      clear E
      go_enter Tryd.func70, Tryd.ntmps70
      go_wp2_with (go_at_call 86; refine (rnum_ok W0 a len cap zs p i _ P x n HN.out).mono ?_; rintro e w1 ⟨rfl, hp1, hk1⟩; obtain ⟨m0, m1, m2, f0, f1, f2, hz⟩ := id hp1.three)
      go_ret
      exact ⟨hk1, rfl, hp1⟩

set_option maxHeartbeats 2000000 in
theorem rint_out (W0 : World) (a : Option Addr) (len cap : Nat) (zs : List Int) (p i : Nat) (w : World) (P : Rp W0 a len cap zs p i 0 w) :
    Calls Tryd.prog 89 #[.pointer (some ⟨p, 0, none⟩)] w (Rout W0 a len cap zs p i w (.int .i64 0) (i64R (sgR (num (zs.drop i))))) := by
  cases hn : num (zs.drop i) with
  | error c =>
    have HN : Hid (num (zs.drop i) = .error c) := hn
    clear hn
    go_enter Tryd.func89, Tryd.ntmps89
    go_wp2_with (go_at_call 86; refine (rnum_err W0 a len cap zs p i _ P _ HN.out).mono ?_; rintro e w1 ⟨rfl, ⟨j, hp1⟩, hk1⟩)
    go_ret
    exact ⟨hk1, rfl, j, hp1⟩
  | ok r =>
    obtain ⟨x, n⟩ := r
    obtain ⟨x0, x1, _⟩ := rnum_at P hn
    have HN : Hid (num (zs.drop i) = .ok (x, n)) := hn
    clear hn
    by_cases h2 : x % 2 = 1
    · have E : Hid (unsg x = -(x / 2) - 1) := by show _ = _; unfold unsg; rw [if_pos h2]
      have h2' : (x % 2 == 0) = false := by simp; omega
      clear h2
      go_enter Tryd.func89, Tryd.ntmps89
      go_wp2_with (go_at_call 86; refine (rnum_ok W0 a len cap zs p i _ P x n HN.out).mono ?_; rintro e w1 ⟨rfl, hp1, hk1⟩)
      go_ret
      refine ⟨hk1, ?_, hp1⟩
      rw [E.out]
      rfl
    · have E : Hid (unsg x = x / 2) := by show _ = _; unfold unsg; rw [if_neg h2]
      have h2' : (x % 2 == 0) = true := by simp; omega
      clear h2
      go_enter Tryd.func89, Tryd.ntmps89
      go_wp2_with (go_at_call 86; refine (rnum_ok W0 a len cap zs p i _ P x n HN.out).mono ?_; rintro e w1 ⟨rfl, hp1, hk1⟩)
      go_ret
      refine ⟨hk1, ?_, hp1⟩
      rw [E.out]
      rfl

set_option maxHeartbeats 2000000 in
theorem rtruth_out (W0 : World) (a : Option Addr) (len cap : Nat) (zs : List Int) (p i : Nat) (w : World) (P : Rp W0 a len cap zs p i 0 w) :
    Calls Tryd.prog 88 #[.pointer (some ⟨p, 0, none⟩)] w (Rout W0 a len cap zs p i w (.bool false) (boolR (flgR (zs.drop i)))) := by
  have hl := P.row.size
  have hle := P.le
  have hmax := P.max
  obtain ⟨m0, m1, m2, f0, f1, f2, hz⟩ := id P.three
  by_cases hlt : i < len
  · obtain ⟨c0, c1⟩ := getD_byte P.row.byte i
    obtain ⟨bb, oo, rfl, hbb, hcc⟩ := P.row.mem.resolve_left (by omega)
    have hcell := (P.old.cell (p := ⟨bb, oo + i, none⟩) hbb).trans (hcc i hlt)
    have HX : Hid (flgR (zs.drop i) = if 1 < zs.getD i 0 then .error 20 else .ok (zs.getD i 0 == 1, 1)) := flag_cons (by omega)
    obtain ⟨c, hc⟩ : ∃ c, zs.getD i 0 = c := ⟨_, rfl⟩
    rw [hc] at HX c0 c1 hcell
    clear hc hcc hl
    have hI : (i : Int) < (len : Int) := by omega
    by_cases h1 : 1 < c
    · have E : flgR (zs.drop i) = .error 20 := by rw [HX.out, if_pos h1]
      rw [E]
      clear E
      go_enter Tryd.func88, Tryd.ntmps88
      go_wp2
      go_quiet (fail)
      go_wp2
      go_quiet (fail)
      go_wp2
      go_ret
      exact ⟨((Kp.refl _ _).drewN _).setCell 2 _, rfl, _, (P.drewN _).fail 20⟩
    · have E : flgR (zs.drop i) = .ok (c == 1, 1) := by rw [HX.out, if_neg h1]
      rw [E]
      clear E
      go_enter Tryd.func88, Tryd.ntmps88
      go_wp2
      go_quiet (fail)
      go_wp2
      go_quiet (fail)
      go_wp2
      go_ret
      exact ⟨((Kp.refl _ _).drewN _).setCell 1 _, rfl, P.to _ _ _ (by omega) (by omega)⟩
  · have E : flgR (zs.drop i) = .error 21 := by rw [List.drop_eq_nil_of_le (by omega)]; rfl
    rw [E]
    clear E hl
    have hI : (len : Int) ≤ (i : Int) := by omega
    go_enter Tryd.func88, Tryd.ntmps88
    go_wp2
    go_quiet (fail)
    go_wp2
    go_ret
    exact ⟨((Kp.refl _ _).drewN _).setCell 2 _, rfl, _, (P.drewN _).fail 21⟩

end Go.Proofs.YticmjlnpjopfbaaDoor.C

namespace Go.Proofs.YticmjlnpjopfbaaDoor
open Go.ChangeShapes Go.WideShapes Go.ChangeAt Go.RowKit Go.Shelf
open C (Fld rdF rd fld)
open S (One One.new One.alloc One.at One.of_block One.below)
set_option linter.unusedVariables false
set_option linter.unusedSimpArgs false
attribute [local go_sem] Oper.semAt_some

theorem fld_err_ne {k : Int} {bs : List Int} {c : Int} (h : fld k bs = .error c) : (c != 0) = true := by
  have key : c = 20 ∨ c = 21 ∨ c = 46 := by
    unfold fld at h
    split at h
    · cases hr : C.num bs with
      | error d =>
        rw [hr] at h
        have := C.err_pos hr
        simp only [C.natR, C.fld1] at h
        cases h
        rcases this with h | h <;> simp [h]
      | ok q =>
        obtain ⟨x, n⟩ := q
        rw [hr] at h
        simp only [C.natR] at h
        split at h
        · simp only [C.fld1] at h; cases h; simp
        · simp only [C.fld1] at h; cases h
    · split at h
      · cases hr : C.num bs with
        | error d =>
          rw [hr] at h
          have := C.err_pos hr
          simp only [C.fld2] at h
          cases h
          rcases this with h | h <;> simp [h]
        | ok q => obtain ⟨x, n⟩ := q; rw [hr] at h; simp only [C.fld2] at h; cases h
      · split at h
        · cases hr : C.txtR bs with
          | error d =>
            rw [hr] at h
            simp only [C.fld3] at h
            cases h
            unfold C.txtR at hr
            cases hn : C.num bs with
            | error e =>
              rw [hn] at hr
              have := C.err_pos hn
              cases hr
              rcases this with h | h <;> simp [h]
            | ok q =>
              obtain ⟨x, n⟩ := q
              rw [hn] at hr
              simp only at hr
              split at hr
              · cases hr; simp
              · cases hr
          | ok q => obtain ⟨x, n⟩ := q; rw [hr] at h; simp only [C.fld3] at h; cases h
        · split at h
          · cases hr : C.flgR bs with
            | error d =>
              rw [hr] at h
              simp only [C.fld4] at h
              cases h
              unfold C.flgR at hr
              split at hr
              · cases hr; simp
              · split at hr
                · cases hr; simp
                · cases hr
            | ok q => obtain ⟨x, n⟩ := q; rw [hr] at h; simp only [C.fld4] at h; cases h
          · cases h; simp
  rcases key with rfl | rfl | rfl <;> rfl
theorem fld_one {k : Int} {bs : List Int} {f : Fld} {n : Nat} (hb : ∀ c ∈ bs, 0 ≤ c ∧ c < 256) (hl : bs.length ≤ 1048576) (h : fld k bs = .ok (f, n)) : 1 ≤ n ∧ n ≤ bs.length ∧ (-9223372036854775808 ≤ f.num ∧ f.num ≤ 9223372036854775807) := by
  obtain ⟨h1, h2, h3, h4⟩ := C.fld_form hb hl h
  refine ⟨?_, h4, h2.2.1⟩
  have hlen := congrArg List.length h3
  rw [List.length_take] at hlen
  have : 1 ≤ (C.encF1 f).length := by
    unfold C.encF1 C.encFld
    split
    · exact (C.enc_length _).1
    · split
      · exact (C.enc_length _).1
      · split
        · have := (C.enc_length (f.text.size : Int)).1
          rw [C.txt, List.length_append]
          omega
        · simp [C.flg]
  omega

theorem wpListIn_store_row {F : Fence} {n : Nat} {ops : Array Oper} {rest : List Oper} {o : Oper} {a : Act} {w : World} {Q : Exit → Act → World → Prop} (hgd : o.guard = none) (ty : TypeId) (x y : Operand) (ho : o.op = .store ty x y)
    (g : Nat) (cells : Array Value) (hx : a.eval x = .pointer (some ⟨g, 0, none⟩)) (hy : a.eval y = .agg cells)
    (t : TypeId) (old : Array Value) (hg : w.heap[g]? = some (.cells old t (0, 0))) (hi : (Tryd.prog.info? ty).map (·.size) = some cells.size)
    (hold : old.size = cells.size) (h1 : cells.all (·.oneCell') = true)
    (h : wpListIn F n Tryd.prog ops Q rest (a.put o.dst undef) (w.setRow g cells)) : wpListIn F n Tryd.prog ops Q (o :: rest) a w := by
  refine wpListIn_plain hgd fun K hK => ?_
  unfold Oper.wpIn
  refine ⟨?_, ?_⟩
  · simp [Oper.about, ho]
  · rw [Oper.semAt_plain F _ _ (by rw [ho]; intro c hc'; cases hc')]
    simp only [execOp, ho, hx, hy, Instr.storeAt, Instr.sureAddr, Sem.run_bind, Sem.run_pure, Result.andThen_ok, run_storeVar_row w g t ty old cells hg hi hold h1]
    exact hK _ _ h
theorem wpListIn_loadPk {F : Fence} {n : Nat} {ops : Array Oper} {rest : List Oper} {o : Oper} {a : Act} {W : World} {Q : Exit → Act → World → Prop} (hgd : o.guard = none) (x : Operand) (ho : o.op = .load 24 x)
    (pb : Nat) (p : Pkt) (ad : Option Addr) (len cap : Nat) (P : PkAt W pb p ad len cap) (hx : a.eval x = .pointer (some ⟨pb, 0, none⟩))
    (h : wpListIn F n Tryd.prog ops Q rest (a.put o.dst (pkv p ad len cap)) W) : wpListIn F n Tryd.prog ops Q (o :: rest) a W := by
  refine wpListIn_plain hgd fun K hK => ?_
  unfold Oper.wpIn
  refine ⟨?_, ?_⟩
  · simp [Oper.about, ho]
  · rw [Oper.semAt_plain F _ _ (by rw [ho]; intro c hc'; cases hc')]
    simp only [execOp, ho, hx, Instr.loadAt, Instr.sureAddr, Sem.run_bind, Sem.run_pure, Result.andThen_ok, load_agg W pb 0 24 (pkc p ad len cap) _ (fun j v h => by rw [Nat.zero_add]; exact P j v h) Tryd.underlying24 rfl (by kernel_rfl)]
    exact hK _ _ h
theorem results_cell2 {fn : Func} {p : Tmp} {p2 : Tmp} (h : fn.results = #[.cell p 24, .cell p2 43]) (tmps : Array Value) (w : World) (g : Nat) (cs : Array Value) (fr : Nat × Nat) (g2 : Nat) (x : Int)
    (hp : tmps.getD p undef = .pointer (some ⟨g, 0, none⟩)) (hg : w.heap[g]? = some (.cells cs 24 fr)) (hs : cs.size = 8)
    (hp2 : tmps.getD p2 undef = .pointer (some ⟨g2, 0, none⟩)) (hc : w.cell? ⟨g2, 0, none⟩ = some (.int .i64 x)) :
    (results fn tmps).run Tryd.prog w = .ok (.tuple #[.agg cs, .int .i64 x]) w := by
  have hp' : tmps[p]?.getD undef = .pointer (some ⟨g, 0, none⟩) := by simpa using hp
  have hp2' : tmps[p2]?.getD undef = .pointer (some ⟨g2, 0, none⟩) := by simpa using hp2
  have h1 := run_loadVar_row (P := Tryd.prog) w g 24 24 cs fr _ hg Tryd.underlying24 rfl (by rw [hs]; kernel_rfl)
  have h2 : (loadVar 43 ⟨g2, 0, none⟩).run Tryd.prog w = .ok (.int .i64 x) w := by
    have hagg : (isAgg 43).run Tryd.prog w = .ok false w := by
      unfold isAgg
      rw [Sem.run_bind, run_underlying Tryd.underlying43 w]
      rfl
    simp [loadVar, Sem.run_bind, hagg, hc, go_sem]
  simp [results, h, hp', hp2', asAddr, h1, h2]
/-- What reading a packet hands back. -/
def DecOut (base : Nat) (w' : World) (r : Except Int Pkt) (e : Ending) : Prop :=
  match r with
  | .error c => e = .returned (.tuple #[pkv pkZ none 0 0, .int .i64 c])
  | .ok p => ∃ a n cap, e = .returned (.tuple #[pkv p a n cap, .int .i64 0]) ∧ (a = none ∨ ∃ g, a = some ⟨g, 0, none⟩ ∧ base ≤ g) ∧ RowI w' a n cap p.items
theorem row_kd (w : World) (k : Int) (hk : (Lit.int .i64 k).wf = true) : C.Row .i64 (w.alloc (.cells #[.int .i64 k] 3)) (some ⟨w.heap.size, 0, none⟩) 1 1 [k] where
  size := rfl
  le := Nat.le_refl _
  nil := fun h => by cases h
  wf := fun z hz => by simp at hz; subst hz; exact hk
  mem := .inr ⟨w.heap.size, 0, rfl, by simp, fun j hj => by
    obtain rfl : j = 0 := by omega
    simp⟩
theorem row_zero {w : World} (ad : Addr) (cap : Nat) {L : Nat} {zs : List Int} (h : L = 0) (hz : zs.length = 0) : C.Row .u8 w (some ad) L cap zs := by
  subst h
  have e : zs = [] := List.eq_nil_of_length_eq_zero hz
  subst e
  exact ⟨rfl, Nat.zero_le _, fun h => (by cases h), fun z hz => (by cases hz), .inl rfl⟩
theorem row_drop {w : World} {b off L cap : Nat} {zs : List Int} (R : C.Row .u8 w (some ⟨b, off, none⟩) L cap zs) (n : Nat) (hn : n ≤ L) : C.Row .u8 w (some ⟨b, off + n, none⟩) (L - n) (cap - n) (zs.drop n) where
  size := by rw [List.length_drop, R.size]
  le := by have := R.le; omega
  nil := fun h => by cases h
  wf := fun z hz => R.wf z (List.mem_of_mem_drop hz)
  mem := by
    rcases R.mem with h | ⟨b', off', e, hb, hc⟩
    · exact .inl (by omega)
    · cases e
      refine .inr ⟨b, off + n, rfl, hb, fun j hj => ?_⟩
      rw [Nat.add_assoc, hc (n + j) (by omega), List.getD_eq_getElem?_getD, List.getD_eq_getElem?_getD, List.getElem?_drop]
theorem rd_one (k : Int) (bs : List Int) : rd [k] bs = (match fld k bs with | .ok (f, n) => .ok ([f], n) | .error c => .error c) := by
  simp only [rd, rdF, List.drop_zero]
  cases fld k bs with
  | error c => rfl
  | ok q => obtain ⟨f, n⟩ := q; simp
theorem kAt_wf (n : Nat) : (Lit.int .i64 (kAt n)).wf = true := by
  unfold kAt
  split
  · rfl
  · have hm : (n - 8) % 19 < 19 := Nat.mod_lt _ (by decide)
    have : ∀ m : Fin 19, (Lit.int .i64 (itK.getD m.val 0)).wf = true := by decide
    exact this ⟨_, hm⟩

/-- What holds when fs are read. -/
structure RdI (zs : List Int) (len : Nat) (w : World) (fs : List Fld) (W : World) : Prop where
  pos : ∃ (pos : Nat) (a' : Option Addr) (cap' : Nat), rdF (kinds fs.length) zs [] 0 = .ok (fs, pos) ∧ pos ≤ len ∧ fs.length ≤ pos ∧ One W (w.heap.size) (.slice a' (len - pos) cap') ∧ C.Row .u8 w a' (len - pos) cap' (zs.drop pos) ∧ cap' ≤ 9223372036854775807
  nums : ∀ f ∈ fs, -9223372036854775808 ≤ f.num ∧ f.num ≤ 9223372036854775807
  res : W.heap[w.heap.size + 1]? = some (.cells zPk8 24 (0, 0))
  err : One W (w.heap.size + 1 + 1) (.int .i64 0)
  below : Below w.heap.size w W
/-- What holds when a field could not be read. -/
structure RdX (zs : List Int) (w : World) (c : Code) (fs : List Fld) (W : World) : Prop where
  ret : c = .ret
  bad : ∃ (pos : Nat) (c' : Int), rdF (kinds fs.length) zs [] 0 = .ok (fs, pos) ∧ fld (kAt fs.length) (zs.drop pos) = .error c'
  res : W.heap[w.heap.size + 1]? = some (.cells zPk8 24 (0, 0))
  err : One W (w.heap.size + 1 + 1) (.int .i64 20)
  below : Below w.heap.size w W
theorem RdI.keep {zs : List Int} {len : Nat} {w : World} {fs : List Fld} {A B : World} (h : RdI zs len w fs A) (hb : Below (w.heap.size + 1 + 1 + 1) A B) : RdI zs len w fs B :=
  ⟨let ⟨p, a', c', h1, h2, h3, h4, h5, h6⟩ := h.pos; ⟨p, a', c', h1, h2, h3, h4.of_block (hb.block _ (by omega)) hb.size, h5, h6⟩, h.nums, (hb.block _ (by omega)).trans h.res, h.err.of_block (hb.block _ (by omega)) hb.size, h.below.trans (hb.mono (by omega))⟩
theorem RdX.keep {zs : List Int} {w : World} {c : Code} {fs : List Fld} {A B : World} (h : RdX zs w c fs A) (hb : Below (w.heap.size + 1 + 1 + 1) A B) : RdX zs w c fs B :=
  ⟨h.ret, h.bad, (hb.block _ (by omega)).trans h.res, h.err.of_block (hb.block _ (by omega)) hb.size, h.below.trans (hb.mono (by omega))⟩
theorem DoneR.putObj {pb m : Nat} {fs : List Fld} {A : World} (h : DoneR pb m fs A) (l : Nat) (o : Obj) (h1 : l ≠ pb) (h2 : l < m) : DoneR pb m fs (A.putObj l o) := by
  obtain ⟨hl, a, cap, hp, hr, hg⟩ := h
  refine ⟨hl, a, cap, hp.of_block (World.putObj_heap_other (fun e => h1 e.symm)), ⟨hr.size, hr.le, hr.max, hr.nil, ?_⟩, hg⟩
  refine hr.mem.imp id fun ⟨b, off, e, hb, hc⟩ => ⟨b, off, e, by simpa using hb, fun j hj => (hc j hj).of_block (World.putObj_heap_other ?_)⟩
  rcases hg with h | ⟨g, h, hm⟩
  · rw [h] at e; cases e
  · rw [h] at e; cases e; omega

set_option maxRecDepth 100000 in
set_option maxHeartbeats 8000000 in
theorem read_any (a : Option Addr) (len cap : Nat) (zs : List Int) (w : World) (R : C.Row .u8 w a len cap zs) (hl : len ≤ 1000000) (hcap : cap ≤ 9223372036854775807) (hby : ∀ c ∈ zs, 0 ≤ c ∧ c < 256) :
    Calls Tryd.prog 47 #[.slice a len cap] w fun e w' => DecOut w.heap.size w' (openP zs) e ∧ Below w.heap.size w w' := by
  have HLz : Hid (zs.length = len) := R.size
  refine (callsIn_wide (n := 2)).1 ?_
  refine callsIn_of_wp_marks Tryd.func47 rfl trivial ?_
  simp only [Tryd.ntmps47, List.size_toArray, List.length_cons, List.length_nil, Nat.reduceAdd, Nat.reduceSub, Array.replicate_succ, Array.replicate_zero, List.push_toArray, List.append_toArray, List.nil_append, List.cons_append]
  gi_wp2_with (refine ⟨trivial, ?_⟩; gi_at_call 33; refine (callsIn_wide.2 (fields_any (w.heap.size + 1 + 1 + 1) _)).mono ?_; rintro e w3 ⟨rfl, hw3⟩; rw [hw3]; clear hw3 w3)
  obtain ⟨W0, hW0⟩ : ∃ W0, (((((w.alloc (.cells #[.slice a len cap] 27)).alloc (.cells #[.int .i64 0, .int .i64 0, .int .i64 0, .int .i64 0, .int .i64 0, .int .i64 0, .int .i64 0, .slice none 0 0] 24)).alloc (.cells #[.int .i64 0] 43)).alloc (.cells #[.int .i64 0, .int .i64 0, .int .i64 0, .int .i64 0, .int .i64 0, .int .i64 0, .int .i64 0, .slice none 0 0] 24)).alloc (.cells #[.pointer (some ⟨w.heap.size + 1 + 1 + 1, 0, none⟩)] 67)) = W0 := ⟨_, rfl⟩
  have hs0 : W0.heap.size = w.heap.size + 5 := by rw [← hW0]; simp
  have hs1 : W0.heap.size ≤ w.heap.size + 5 := by omega
  have hs2 : w.heap.size + 5 ≤ W0.heap.size := by omega
  have B0 : Below w.heap.size w W0 := by rw [← hW0]; exact (((((Below.refl _ _).alloc (Nat.le_refl _) _).alloc (by simp) _).alloc (by simp; omega) _).alloc (by simp; omega) _).alloc (by simp; omega) _
  have OB0 : One W0 (w.heap.size) (.slice a len cap) := by rw [← hW0]; exact ((((One.new _ _ _).alloc _).alloc _).alloc _).alloc _
  have OE0 : One W0 (w.heap.size + 1 + 1) (.int .i64 0) := by rw [← hW0]; exact (((One.new _ _ _).at (by simp)).alloc _).alloc _
  have OQ0 : One W0 (w.heap.size + 1 + 1 + 1 + 1) (.pointer (some ⟨w.heap.size + 1 + 1 + 1, 0, none⟩)) := by rw [← hW0]; exact (One.new _ _ _).at (by simp)
  have RS0 : W0.heap[w.heap.size + 1]? = some (.cells zPk8 24 (0, 0)) := by
    rw [← hW0]
    have h := World.alloc_heap_new (w.alloc (.cells #[.slice a len cap] 27)) (.cells #[.int .i64 0, .int .i64 0, .int .i64 0, .int .i64 0, .int .i64 0, .int .i64 0, .int .i64 0, .slice none 0 0] 24)
    rw [World.size_alloc] at h
    exact (Below.heap_alloc _ _ _ (by simp)).trans ((Below.heap_alloc _ _ _ (by simp)).trans ((Below.heap_alloc _ _ _ (by simp)).trans h))
  have PB0 : PkB W0 (w.heap.size + 1 + 1 + 1) (hdOf [] []) none 0 0 := by
    rw [← hW0]
    have h := World.alloc_heap_new (((w.alloc (.cells #[.slice a len cap] 27)).alloc (.cells #[.int .i64 0, .int .i64 0, .int .i64 0, .int .i64 0, .int .i64 0, .int .i64 0, .int .i64 0, .slice none 0 0] 24)).alloc (.cells #[.int .i64 0] 43)) (.cells #[.int .i64 0, .int .i64 0, .int .i64 0, .int .i64 0, .int .i64 0, .int .i64 0, .int .i64 0, .slice none 0 0] 24)
    rw [World.size_alloc, World.size_alloc, World.size_alloc] at h
    exact (Below.heap_alloc _ _ _ (by simp)).trans h
  rw [hW0]
  have I0 : RdI zs len w [] W0 := ⟨⟨0, a, cap, rfl, by omega, by simp, OB0, R, hcap⟩, fun f hf => (by simp at hf), RS0, OE0, B0⟩
  clear hs0 hW0 OB0 OE0 RS0 B0
  refine range_r (gf := 53) (lb := #[.pointer (some ⟨w.heap.size + 1 + 1 + 1 + 1, 0, none⟩)]) (by first | rfl | simp) (enters_of Tryd.func53 (by kernel_rfl) rfl) rfl (by omega) (by omega)
    (fields_reads (w.heap.size + 1 + 1 + 1 + 1) (w.heap.size + 1 + 1 + 1) (W0.heap.size + 2) (by omega) (by omega) (by omega))
    (fun B hB => ⟨OQ0.of_block (hB.block _ (by omega)) hB.size, PB0.of_block (hB.block _ (by omega))⟩)
    (fun fs W => RdI zs len w fs W) (fun c fs W => RdX zs w c fs W)
    (fun fs A h => ⟨by obtain ⟨p, _, _, _, h2, h3, _⟩ := h.pos; omega, h.nums⟩)
    (fun fs A B h s => h.keep s) (fun c fs A B h s => h.keep s) I0
    (fun s a' A => ∃ sb, sb ≠ W0.heap.size + 1 ∧ W0.heap.size + 2 ≤ sb ∧ A.heap[sb]? = some (.cells #[.int .i64 s.kd, .pointer s.q1, .pointer s.q2, .pointer s.q3, .pointer s.q4] 73 (0, 0)) ∧ a' = { tmps := #[.slice a len cap, .pointer (some ⟨w.heap.size, 0, none⟩), .pointer (some ⟨w.heap.size + 1, 0, none⟩), .pointer (some ⟨w.heap.size + 1 + 1, 0, none⟩), .pointer (some ⟨w.heap.size + 1 + 1 + 1, 0, none⟩), .pointer (some ⟨sb, 0, none⟩), undef, undef, undef, .func (.func 53) #[] #[.pointer (some ⟨w.heap.size + 1 + 1 + 1 + 1, 0, none⟩)], s.v, undef, undef, undef, undef, undef, undef, undef, undef, undef, undef, undef, undef, undef, undef, undef, undef, undef, undef, undef, undef, undef, undef, undef, undef, undef, undef, undef, undef, undef], defers := [] })
    (fun s a' A o h => by
      obtain ⟨sb, h1, h2, h3, h4⟩ := h
      exact ⟨sb, h1, h2, (World.putObj_heap_other h1).trans h3, h4⟩)
    ?assign ?body (fun fs A o h => h.putObj _ o (by omega) (by omega)) ?done ?stop
  case assign =>
    rintro fs ⟨kd, q1, q2, q3, q4⟩ W K hIk hs hK
    dsimp only [Slt.v]
    gi_wp2
    refine hK _ _ ⟨W.heap.size, by omega, hs, World.alloc_heap_new _ _, rfl⟩ ((Below.refl _ _).alloc (Nat.le_refl _) _)
  case body =>
    rintro fs ⟨kd, q1, q2, q3, q4⟩ b o gg a' W hIk ⟨sb, hsb, hsb2, hcell, rfl⟩ hkd hOk hIts hs
    obtain ⟨pos, a1, cap1, hrd, hp1, hp2, OB, RB, hc1⟩ := hIk.pos
    have HKD : Hid (kd = kAt fs.length) := hkd
    have hkw : (Lit.int .i64 kd).wf = true := by rw [HKD.out]; exact kAt_wf _
    clear hkd
    obtain ⟨o0, o1, oz⟩ := id OB
    have hzb : sb < W.heap.size := (Array.getElem?_eq_some_iff.1 hcell).1
    have f0 : W.cell? ⟨sb, 0, none⟩ = some (.int .i64 kd) := by rw [cell_of_row _ _ _ _ 73 _ hcell]; rfl
    have RW := RB.below hIk.below
    have Ba : Below W.heap.size W (W.alloc (.cells #[.int .i64 kd] 3)) := (Below.refl _ _).alloc (Nat.le_refl _) _
    have KR := C.read_out a1 (len - pos) cap1 (zs.drop pos) (some ⟨W.heap.size, 0, none⟩) 1 1 [kd] (W.alloc (.cells #[.int .i64 kd] 3)) (RW.below Ba) (row_kd W kd hkw) (by omega) hc1 (by omega) _ rfl
    rw [rd_one] at KR
    have hbd : ∀ c ∈ zs.drop pos, 0 ≤ c ∧ c < 256 := fun c hc => hby c (List.mem_of_mem_drop hc)
    cases hfl : fld kd (zs.drop pos) with
    | error c =>
      rw [hfl] at KR
      simp only at KR
      have hcn := fld_err_ne hfl
      have hRes := hIk.res
      gi_wp2_with (first
        | (refine ⟨trivial, ?_⟩; gi_at_call 67; refine (CallsIn.inRound _ (callsIn_wide.2 KR)).mono ?_; rintro e w4 ⟨hb4, rfl⟩; have B4 : Below W.heap.size W w4 := Ba.trans (hb4.mono Ba.size); have G4 := (B4.block _ (Array.getElem?_eq_some_iff.1 hRes).1).trans hRes; have OE4 := hIk.err.below B4)
        | ((with_reducible show wpListIn _ _ _ _ _ (Oper.mk _ (Op.store 24 _ _) _ _ _ _ :: _) _ _); refine wpListIn_store_row rfl 24 _ _ rfl (w.heap.size + 1) zPk8 rfl rfl 24 _ G4 (by kernel_rfl) rfl (by simp [zPk8, Value.oneCell']) ?_; have OE5 := OE4.of_block (W' := w4.setRow (w.heap.size + 1) zPk8) (setRow_other _ _ _ _ (by omega)) (by simp); obtain ⟨e0, e1, e2⟩ := id OE5))
      have z4 := B4.size
      refine ⟨⟨rfl, ⟨pos, c, hrd, by rw [← HKD.out]; exact hfl⟩, ?_, OE5.set _, ?_⟩, ⟨by simp [World.setCell]; omega, fun d hd hlt => ?_⟩⟩
      · exact (Below.heap_setCell _ _ _ _ (by show w.heap.size + 1 ≠ w.heap.size + 1 + 1; omega)).trans (setRow_heap _ _ _ _ _ _ G4)
      · have B5 : Below w.heap.size w (w4.setRow (w.heap.size + 1) zPk8) := by
          have h := hIk.below.trans (B4.mono hIk.below.size)
          exact ⟨h.os, h.tape, h.output, by rw [size_setRow]; exact h.size, fun b hb => (setRow_other _ _ _ _ (by omega)).trans (h.block b hb)⟩
        exact B5.setCell (p := ⟨w.heap.size + 1 + 1, 0, none⟩) (by show w.heap.size ≤ w.heap.size + 1 + 1; omega) _
      · refine (Below.heap_setCell _ _ _ _ (by show d ≠ w.heap.size + 1 + 1; omega)).trans ((setRow_other _ _ _ _ (by omega)).trans (B4.block d hlt))
    | ok qq =>
      obtain ⟨f, n⟩ := qq
      rw [hfl] at KR
      simp only at KR
      obtain ⟨hn1, hn2, hnum⟩ := fld_one hbd (by rw [List.length_drop, HLz.out]; omega) hfl
      have hnl : n ≤ len - pos := by rw [List.length_drop, HLz.out] at hn2; exact hn2
      have HRD : Hid (rdF (kinds (fs ++ [f]).length) zs [] 0 = .ok (fs ++ [f], pos + n)) := by
        show _ = _
        rw [List.length_append, List.length_cons, List.length_nil, kinds_succ, rdF_app, hrd]
        simp only [rdF, ← HKD.out, hfl]
      have hbne : b ≠ w.heap.size := by rcases hIts with h | h | h <;> omega
      have hzW := hIk.below.size
      obtain ⟨ba, oa, rfl⟩ : ∃ ba oa, a1 = some ⟨ba, oa, none⟩ := by
        rcases RB.mem with h | ⟨ba, oa, h, _⟩
        · omega
        · exact ⟨ba, oa, h⟩
      gi_wp2_with (refine ⟨trivial, ?_⟩; gi_at_call 67; refine (CallsIn.inRound _ (callsIn_wide.2 KR)).mono ?_; rintro e w4 ⟨hb4, v4, rfl, own4⟩; obtain ⟨g4, cap4, rfl⟩ := C.owns_some own4 (by simp))
      clear KR
      have B4 : Below W.heap.size W w4 := Ba.trans (hb4.mono Ba.size)
      have fc := World.ownsRow.cells own4 (g := g4) rfl
      have k0 := fc 0 _ rfl
      have k1 := fc 1 _ rfl
      have k2 := fc 2 _ rfl
      have k3 := fc 3 _ rfl
      simp only [add_plain, Nat.zero_add] at k0 k1 k2 k3
      have hle4 : (1 : Nat) ≤ cap4 := by rcases own4.2 with ⟨h0, _⟩ | ⟨g, cp, cur, hv, _, _, h, _⟩; cases h0; cases hv; exact h
      have hc4 := (B4.block sb hzb).trans hcell
      have s0 : w4.cell? ⟨sb, 0, none⟩ = some (.int .i64 kd) := by rw [cell_of_row _ _ _ _ 73 _ hc4]; rfl
      have s1 : w4.cell? ⟨sb, 1, none⟩ = some (.pointer q1) := by rw [cell_of_row _ _ _ _ 73 _ hc4]; rfl
      have s2 : w4.cell? ⟨sb, 2, none⟩ = some (.pointer q2) := by rw [cell_of_row _ _ _ _ 73 _ hc4]; rfl
      have s3 : w4.cell? ⟨sb, 3, none⟩ = some (.pointer q3) := by rw [cell_of_row _ _ _ _ 73 _ hc4]; rfl
      have s4 : w4.cell? ⟨sb, 4, none⟩ = some (.pointer q4) := by rw [cell_of_row _ _ _ _ 73 _ hc4]; rfl
      have Ok4 := (hOk.of_block (B4.block b hOk.lt) B4.size).of_block (W' := w4.drew) rfl (Nat.le_refl _)
      obtain ⟨vv, hvv⟩ := Ok4.cell
      have KP := put_slot Ok4.tgt f w4.drew vv Ok4.lt hvv Ok4.free
      dsimp only [Slt.v, C.fv] at KP
      have OB4 := OB.below B4
      have hnI : (n : Int) ≤ ((len - pos : Nat) : Int) := by omega
      have bod5 : ∀ (w5 : World) (ob1 ob2 : Obj), w5 = ((w4.drew.setCell ⟨b, o, none⟩ (gg f)).alloc ob1).alloc ob2 → One w5 w.heap.size (.slice (some ⟨ba, oa, none⟩) (len - pos) cap1) := by
        rintro w5 ob1 ob2 rfl
        have h1 : One w4.drew w.heap.size (.slice (some ⟨ba, oa, none⟩) (len - pos) cap1) := OB4.of_block rfl (Nat.le_refl _)
        exact ((h1.of_block (W' := w4.drew.setCell ⟨b, o, none⟩ (gg f)) (Below.heap_setCell _ _ _ _ (by show w.heap.size ≠ b; omega)) (by simp [World.setCell])).alloc _).alloc _
      have hRle := RB.le
      have rowIn : C.Row .u8 w (some ⟨ba, oa + n, none⟩) (len - pos - n) (cap1 - n) (zs.drop (pos + n)) := by
        have h := row_drop RB n (by omega)
        rw [List.drop_drop] at h
        first | exact h | (rw [Nat.add_comm pos n]; exact h)
      have fin5 : ∀ (w5 : World) (ob1 ob2 : Obj), w5 = ((w4.drew.setCell ⟨b, o, none⟩ (gg f)).alloc ob1).alloc ob2 → ∀ (a2 : Option Addr) (cap2 : Nat), C.Row .u8 w a2 (len - pos - n) cap2 (zs.drop (pos + n)) → cap2 ≤ 9223372036854775807 →
          ∃ f, RdI zs len w (fs ++ [f]) (w5.setCell ⟨w.heap.size, 0, none⟩ (.slice a2 (len - pos - n) cap2)) ∧ TurnR (Its (w.heap.size + 1 + 1 + 1) (w.heap.size + 1 + 1 + 1 + 1) W0.heap.size) W (w5.setCell ⟨w.heap.size, 0, none⟩ (.slice a2 (len - pos - n) cap2)) (W.setCell ⟨b, o, none⟩ (gg f)) := by
        rintro w5 ob1 ob2 rfl a2 cap2 hrow hc2
        have z4 := B4.size
        have zs4 : (w4.drew.setCell ⟨b, o, none⟩ (gg f)).heap.size = w4.heap.size := by simp [World.setCell]
        have inn : ∀ c, c < W.heap.size → c ≠ w.heap.size → ((((w4.drew.setCell ⟨b, o, none⟩ (gg f)).alloc ob1).alloc ob2).setCell ⟨w.heap.size, 0, none⟩ (.slice a2 (len - pos - n) cap2)).heap[c]? = (w4.drew.setCell ⟨b, o, none⟩ (gg f)).heap[c]? := fun c hc hne =>
          (Below.heap_setCell _ _ _ _ hne).trans ((Below.heap_alloc _ _ _ (by simp; omega)).trans (Below.heap_alloc _ _ _ (by omega)))
        have same : ∀ c, c < W.heap.size → c ≠ w.heap.size → c ≠ b → ((((w4.drew.setCell ⟨b, o, none⟩ (gg f)).alloc ob1).alloc ob2).setCell ⟨w.heap.size, 0, none⟩ (.slice a2 (len - pos - n) cap2)).heap[c]? = W.heap[c]? := fun c hc h1 h2 =>
          (inn c hc h1).trans ((Below.heap_setCell _ _ _ _ h2).trans (B4.block c hc))
        have szn : W.heap.size ≤ ((((w4.drew.setCell ⟨b, o, none⟩ (gg f)).alloc ob1).alloc ob2).setCell ⟨w.heap.size, 0, none⟩ (.slice a2 (len - pos - n) cap2)).heap.size := by simp [World.setCell]; omega
        have hb3 : b ≠ w.heap.size + 1 ∧ b ≠ w.heap.size + 1 + 1 ∧ w.heap.size ≤ b := by rcases hIts with h | h | h <;> omega
        refine ⟨f, ⟨⟨pos + n, a2, cap2, HRD.out, by omega, by rw [List.length_append]; simp; omega, ?_, ?_, hc2⟩, ?_, ?_, ?_, ?_⟩, ⟨szn, fun c hc hlt => ?_⟩⟩
        · rw [show len - (pos + n) = len - pos - n by omega]
          exact (bod5 _ ob1 ob2 rfl).set _
        · rw [show len - (pos + n) = len - pos - n by omega]
          exact hrow
        · intro x hx
          rcases List.mem_append.1 hx with h | h
          · exact hIk.nums x h
          · simp at h; subst h; exact hnum
        · exact (same _ (by omega) (by omega) (by omega)).trans hIk.res
        · exact hIk.err.of_block (same _ (by omega) (by omega) (by omega)) szn
        · have Bx : Below w.heap.size w (w4.drew.setCell ⟨b, o, none⟩ (gg f)) := (hIk.below.trans (B4.mono hzW)).drew.setCell (p := ⟨b, o, none⟩) hb3.2.2 _
          exact ((Bx.alloc (by omega) _).alloc (by simp; omega) _).setCell (p := ⟨w.heap.size, 0, none⟩) (Nat.le_refl _) _
        · refine (inn c hlt ?_).trans (setCell_block (B4.block c hlt) _ _)
          rcases hc with h | h | h <;> omega
      clear hb4 fc own4
      refine wpIn_region_any (by kernel_rfl) ?_
      change wpAnyIn _ _ _ _ _ _ _ _ _ (World.drew _)
      refine wpAnyIn_ready (rs := [0, 1]) (by kernel_rfl) (by simp) ?_
      refine AllReadyIn.cons rfl (fun K hK => ?_) ?_
      · go_simp
        refine hK _ _ ?_
        clear hK K
        refine wpAnyIn_ready (rs := [1]) (by kernel_rfl) (by simp) ?_
        refine AllReadyIn.cons rfl (fun K hK => ?_) ?_
        · go_simp
          refine hK _ _ ?_
          clear hK K
          refine wpAnyIn_ready (rs := [2]) (by kernel_rfl) (by simp) ?_
          refine AllReadyIn.cons rfl (fun K hK => ?_) ?_
          · go_simp
            refine hK _ _ ?_
            clear hK K
            refine wpAnyIn_ready (rs := [3]) (by kernel_rfl) (by simp) ?_
            refine AllReadyIn.cons rfl (fun K hK => ?_) ?_
            · go_simp
              refine hK _ _ ?_
              clear hK K
              refine wpAnyIn_ready (rs := [4]) (by kernel_rfl) (by simp) ?_
              refine AllReadyIn.cons rfl (fun K hK => ?_) ?_
              · go_simp
                refine ⟨trivial, ?_⟩
                refine (CallsIn.inRound _ (callsIn_wide.2 KP)).mono ?_
                rintro e w5 ⟨⟨r5, rfl⟩, ob1, ob2, hw5⟩
                refine hK _ _ ?_
                clear hK K
                refine wpAnyIn_done (by kernel_rfl) ?_ _
                have OB5 := bod5 w5 ob1 ob2 hw5
                obtain ⟨u0, u1, u2⟩ := id OB5
                have HW5 : Hid (w5 = ((w4.drew.setCell ⟨b, o, none⟩ (gg f)).alloc ob1).alloc ob2) := hw5
                clear hw5
                gi_wp2
                all_goals refine fin5 w5 ob1 ob2 HW5.out _ _ ?_ ?_
                all_goals first | (show _ ≤ _; omega) | exact rowIn | exact row_zero _ _ (by omega) (by rw [List.length_drop, HLz.out]; omega)
              exact AllReadyIn.nil
            exact AllReadyIn.nil
          exact AllReadyIn.nil
        exact AllReadyIn.nil
      refine AllReadyIn.cons rfl (fun K hK => ?_) ?_
      · go_simp
        refine hK _ _ ?_
        clear hK K
        refine wpAnyIn_ready (rs := [0, 2]) (by kernel_rfl) (by simp) ?_
        refine AllReadyIn.cons rfl (fun K hK => ?_) ?_
        · go_simp
          refine hK _ _ ?_
          clear hK K
          refine wpAnyIn_ready (rs := [2]) (by kernel_rfl) (by simp) ?_
          refine AllReadyIn.cons rfl (fun K hK => ?_) ?_
          · go_simp
            refine hK _ _ ?_
            clear hK K
            refine wpAnyIn_ready (rs := [3]) (by kernel_rfl) (by simp) ?_
            refine AllReadyIn.cons rfl (fun K hK => ?_) ?_
            · go_simp
              refine hK _ _ ?_
              clear hK K
              refine wpAnyIn_ready (rs := [4]) (by kernel_rfl) (by simp) ?_
              refine AllReadyIn.cons rfl (fun K hK => ?_) ?_
              · go_simp
                refine ⟨trivial, ?_⟩
                refine (CallsIn.inRound _ (callsIn_wide.2 KP)).mono ?_
                rintro e w5 ⟨⟨r5, rfl⟩, ob1, ob2, hw5⟩
                refine hK _ _ ?_
                clear hK K
                refine wpAnyIn_done (by kernel_rfl) ?_ _
                have OB5 := bod5 w5 ob1 ob2 hw5
                obtain ⟨u0, u1, u2⟩ := id OB5
                have HW5 : Hid (w5 = ((w4.drew.setCell ⟨b, o, none⟩ (gg f)).alloc ob1).alloc ob2) := hw5
                clear hw5
                gi_wp2
                all_goals refine fin5 w5 ob1 ob2 HW5.out _ _ ?_ ?_
                all_goals first | (show _ ≤ _; omega) | exact rowIn | exact row_zero _ _ (by omega) (by rw [List.length_drop, HLz.out]; omega)
              exact AllReadyIn.nil
            exact AllReadyIn.nil
          exact AllReadyIn.nil
        refine AllReadyIn.cons rfl (fun K hK => ?_) ?_
        · go_simp
          refine hK _ _ ?_
          clear hK K
          refine wpAnyIn_ready (rs := [0, 3]) (by kernel_rfl) (by simp) ?_
          refine AllReadyIn.cons rfl (fun K hK => ?_) ?_
          · go_simp
            refine hK _ _ ?_
            clear hK K
            refine wpAnyIn_ready (rs := [3]) (by kernel_rfl) (by simp) ?_
            refine AllReadyIn.cons rfl (fun K hK => ?_) ?_
            · go_simp
              refine hK _ _ ?_
              clear hK K
              refine wpAnyIn_ready (rs := [4]) (by kernel_rfl) (by simp) ?_
              refine AllReadyIn.cons rfl (fun K hK => ?_) ?_
              · go_simp
                refine ⟨trivial, ?_⟩
                refine (CallsIn.inRound _ (callsIn_wide.2 KP)).mono ?_
                rintro e w5 ⟨⟨r5, rfl⟩, ob1, ob2, hw5⟩
                refine hK _ _ ?_
                clear hK K
                refine wpAnyIn_done (by kernel_rfl) ?_ _
                have OB5 := bod5 w5 ob1 ob2 hw5
                obtain ⟨u0, u1, u2⟩ := id OB5
                have HW5 : Hid (w5 = ((w4.drew.setCell ⟨b, o, none⟩ (gg f)).alloc ob1).alloc ob2) := hw5
                clear hw5
                gi_wp2
                all_goals refine fin5 w5 ob1 ob2 HW5.out _ _ ?_ ?_
                all_goals first | (show _ ≤ _; omega) | exact rowIn | exact row_zero _ _ (by omega) (by rw [List.length_drop, HLz.out]; omega)
              exact AllReadyIn.nil
            exact AllReadyIn.nil
          refine AllReadyIn.cons rfl (fun K hK => ?_) ?_
          · go_simp
            refine hK _ _ ?_
            clear hK K
            refine wpAnyIn_ready (rs := [0]) (by kernel_rfl) (by simp) ?_
            refine AllReadyIn.cons rfl (fun K hK => ?_) ?_
            · go_simp
              refine hK _ _ ?_
              clear hK K
              refine wpAnyIn_ready (rs := [4]) (by kernel_rfl) (by simp) ?_
              refine AllReadyIn.cons rfl (fun K hK => ?_) ?_
              · go_simp
                refine ⟨trivial, ?_⟩
                refine (CallsIn.inRound _ (callsIn_wide.2 KP)).mono ?_
                rintro e w5 ⟨⟨r5, rfl⟩, ob1, ob2, hw5⟩
                refine hK _ _ ?_
                clear hK K
                refine wpAnyIn_done (by kernel_rfl) ?_ _
                have OB5 := bod5 w5 ob1 ob2 hw5
                obtain ⟨u0, u1, u2⟩ := id OB5
                have HW5 : Hid (w5 = ((w4.drew.setCell ⟨b, o, none⟩ (gg f)).alloc ob1).alloc ob2) := hw5
                clear hw5
                gi_wp2
                all_goals refine fin5 w5 ob1 ob2 HW5.out _ _ ?_ ?_
                all_goals first | (show _ ≤ _; omega) | exact rowIn | exact row_zero _ _ (by omega) (by rw [List.length_drop, HLz.out]; omega)
              exact AllReadyIn.nil
            exact AllReadyIn.nil
          exact AllReadyIn.nil
        exact AllReadyIn.nil
      exact AllReadyIn.nil
  case stop =>
    rintro c fs W hx hcut hD
    obtain rfl := hx.ret
    obtain ⟨pos, c', h1, h2⟩ := hx.bad
    have HE : Hid (openP zs = .error 20) := by
      show _ = _
      obtain ⟨c2, h3⟩ := open_cut h1 h2 hcut
      unfold openP
      rw [h3]
    gi_wp2
    refine ⟨by simp, .inl ⟨_, _, rfl, run_takeDeferred hD, ?_⟩⟩
    refine ⟨_, results_cell2 rfl _ _ (w.heap.size + 1) zPk8 (0, 0) (w.heap.size + 1 + 1) 20 rfl ((World.putObj_heap_other (by omega)).trans hx.res) rfl rfl ((World.cell?_of_block (a := ⟨w.heap.size + 1 + 1, 0, none⟩) (World.putObj_heap_other (by show w.heap.size + 1 + 1 ≠ W0.heap.size; omega))).trans hx.err.1), ?_, hx.below.trans (below_putObj (by omega) _)⟩
    rw [HE.out]
    rfl
  case done =>
    rintro fs W hIk hDn hD
    obtain ⟨pos, a1, cap1, hrd, hp1, hp2, OB, RB, hc1⟩ := hIk.pos
    obtain ⟨hlen, a2, cap2, PK0, RI, hag⟩ := hDn
    have hop := open_done hrd hlen
    obtain ⟨its, hits⟩ : ∃ its, chop (cntF fs).toNat (fs.drop 8) = its := ⟨_, rfl⟩
    obtain ⟨nn, hnn⟩ : ∃ nn, (cntF fs).toNat = nn := ⟨_, rfl⟩
    rw [hits] at hop RI
    rw [hnn] at PK0 RI
    obtain ⟨p, hp⟩ : ∃ p, hdOf fs its = p := ⟨_, rfl⟩
    have PKp : PkAt W (w.heap.size + 1 + 1 + 1) p a2 nn cap2 := by rw [← hp]; exact PK0.at
    have RIp : RowI W a2 nn cap2 p.items := by rw [← hp]; exact RI
    rw [hp] at hop
    have KF := fit_any p a2 nn cap2 W RIp
    have HOP : Hid (openR zs = .ok (p, pos)) := hop
    obtain ⟨o0, o1, oz⟩ := id OB
    have hRes := hIk.res
    have zRes := (Array.getElem?_eq_some_iff.1 hRes).1
    have OE := hIk.err
    have BW := hIk.below
    clear hop hlen hits hnn hp PK0 RI hrd I0 hIk
    by_cases hpl : pos < len
    · have hgt : (0 : Int) < ((len - pos : Nat) : Int) := by omega
      have HE : Hid (openP zs = .error 20) := by
        show _ = _
        unfold openP
        rw [HOP.out]
        simp only
        rw [if_pos (by rw [HLz.out]; omega)]
      gi_wp2_with ((with_reducible show wpListIn _ _ _ _ _ (Oper.mk _ (Op.store 24 _ _) _ _ _ _ :: _) _ _); refine wpListIn_store_row rfl 24 _ _ rfl (w.heap.size + 1) zPk8 rfl rfl 24 _ hRes (by kernel_rfl) rfl (by simp [zPk8, Value.oneCell']) ?_; have OE5 := OE.of_block (W' := W.setRow (w.heap.size + 1) zPk8) (setRow_other _ _ _ _ (by omega)) (by simp); obtain ⟨e0, e1, e2⟩ := id OE5)
      have hD2 : ((W.setRow (w.heap.size + 1) zPk8).setCell ⟨w.heap.size + 1 + 1, 0, none⟩ (.int .i64 20)).heap[W0.heap.size]? = some (.deferred (some [])) := (Below.heap_setCell _ _ _ _ (by show W0.heap.size ≠ w.heap.size + 1 + 1; omega)).trans ((setRow_other _ _ _ _ (by omega)).trans hD)
      refine ⟨by simp, .inl ⟨_, _, rfl, run_takeDeferred hD2, ?_⟩⟩
      have R5 : ((W.setRow (w.heap.size + 1) zPk8).setCell ⟨w.heap.size + 1 + 1, 0, none⟩ (.int .i64 20)).heap[w.heap.size + 1]? = some (.cells zPk8 24 (0, 0)) := (Below.heap_setCell _ _ _ _ (by show w.heap.size + 1 ≠ w.heap.size + 1 + 1; omega)).trans (setRow_heap _ _ _ _ _ _ hRes)
      have E5 := OE5.set (.int .i64 20)
      have B5 : Below w.heap.size w ((W.setRow (w.heap.size + 1) zPk8).setCell ⟨w.heap.size + 1 + 1, 0, none⟩ (.int .i64 20)) := by
        have h : Below w.heap.size w (W.setRow (w.heap.size + 1) zPk8) := ⟨BW.os, BW.tape, BW.output, by rw [size_setRow]; exact BW.size, fun b hb => (setRow_other _ _ _ _ (by omega)).trans (BW.block b hb)⟩
        exact h.setCell (p := ⟨w.heap.size + 1 + 1, 0, none⟩) (by show w.heap.size ≤ w.heap.size + 1 + 1; omega) _
      refine ⟨_, results_cell2 rfl _ _ (w.heap.size + 1) zPk8 (0, 0) (w.heap.size + 1 + 1) 20 rfl ((World.putObj_heap_other (by omega)).trans R5) rfl rfl ((World.cell?_of_block (a := ⟨w.heap.size + 1 + 1, 0, none⟩) (World.putObj_heap_other (by show w.heap.size + 1 + 1 ≠ W0.heap.size; omega))).trans E5.1), ?_, B5.trans (below_putObj (by omega) _)⟩
      rw [HE.out]
      rfl
    · have hng : ¬ ((0 : Int) < ((len - pos : Nat) : Int)) := by omega
      have hln : len - pos = 0 := by omega
      have z0 := BW.size
      cases hf : fitP p with
      | false =>
        rw [hf] at KF
        have HE : Hid (openP zs = .error 54) := by
          show _ = _
          unfold openP
          rw [HOP.out]
          simp only
          rw [if_neg (by rw [HLz.out]; omega), hf]
          rfl
        gi_wp2_with (first
          | ((with_reducible show wpListIn _ _ _ _ _ (Oper.mk _ (Op.load 24 _) _ _ _ _ :: _) _ _); refine wpListIn_loadPk rfl _ rfl (w.heap.size + 1 + 1 + 1) p a2 nn cap2 PKp rfl ?_)
          | (refine ⟨trivial, ?_⟩; gi_at_call 10; refine (callsIn_wide.2 KF).mono ?_; rintro e w4 ⟨rfl, B4⟩; have G4 := (B4.block _ zRes).trans hRes; have OE4 := OE.below B4)
          | ((with_reducible show wpListIn _ _ _ _ _ (Oper.mk _ (Op.store 24 _ _) _ _ _ _ :: _) _ _); refine wpListIn_store_row rfl 24 _ _ rfl (w.heap.size + 1) zPk8 rfl rfl 24 _ G4 (by kernel_rfl) rfl (by simp [zPk8, Value.oneCell']) ?_; have OE5 := OE4.of_block (W' := w4.setRow (w.heap.size + 1) zPk8) (setRow_other _ _ _ _ (by omega)) (by simp); obtain ⟨e0, e1, e2⟩ := id OE5))
        have hD2 : ((w4.setRow (w.heap.size + 1) zPk8).setCell ⟨w.heap.size + 1 + 1, 0, none⟩ (.int .i64 54)).heap[W0.heap.size]? = some (.deferred (some [])) := (Below.heap_setCell _ _ _ _ (by show W0.heap.size ≠ w.heap.size + 1 + 1; omega)).trans ((setRow_other _ _ _ _ (by omega)).trans ((B4.block _ (Array.getElem?_eq_some_iff.1 hD).1).trans hD))
        refine ⟨by simp, .inl ⟨_, _, rfl, run_takeDeferred hD2, ?_⟩⟩
        have R5 : ((w4.setRow (w.heap.size + 1) zPk8).setCell ⟨w.heap.size + 1 + 1, 0, none⟩ (.int .i64 54)).heap[w.heap.size + 1]? = some (.cells zPk8 24 (0, 0)) := (Below.heap_setCell _ _ _ _ (by show w.heap.size + 1 ≠ w.heap.size + 1 + 1; omega)).trans (setRow_heap _ _ _ _ _ _ G4)
        have E5 := OE5.set (.int .i64 54)
        have BV : Below w.heap.size w w4 := BW.trans (B4.mono z0)
        have B5 : Below w.heap.size w ((w4.setRow (w.heap.size + 1) zPk8).setCell ⟨w.heap.size + 1 + 1, 0, none⟩ (.int .i64 54)) := by
          have h : Below w.heap.size w (w4.setRow (w.heap.size + 1) zPk8) := ⟨BV.os, BV.tape, BV.output, by rw [size_setRow]; exact BV.size, fun b hb => (setRow_other _ _ _ _ (by omega)).trans (BV.block b hb)⟩
          exact h.setCell (p := ⟨w.heap.size + 1 + 1, 0, none⟩) (by show w.heap.size ≤ w.heap.size + 1 + 1; omega) _
        refine ⟨_, results_cell2 rfl _ _ (w.heap.size + 1) zPk8 (0, 0) (w.heap.size + 1 + 1) 54 rfl ((World.putObj_heap_other (by omega)).trans R5) rfl rfl ((World.cell?_of_block (a := ⟨w.heap.size + 1 + 1, 0, none⟩) (World.putObj_heap_other (by show w.heap.size + 1 + 1 ≠ W0.heap.size; omega))).trans E5.1), ?_, B5.trans (below_putObj (by omega) _)⟩
        rw [HE.out]
        rfl
      | true =>
        rw [hf] at KF
        have HE : Hid (openP zs = .ok p) := by
          show _ = _
          unfold openP
          rw [HOP.out]
          simp only
          rw [if_neg (by rw [HLz.out]; omega), hf]
          rfl
        have hws := PKp.lt
        gi_wp2_with (first
          | (refine ⟨trivial, ?_⟩; gi_at_call 10; refine (callsIn_wide.2 KF).mono ?_; rintro e w4 ⟨rfl, B4⟩; have G4 := (B4.block _ zRes).trans hRes; have OE4 := OE.below B4; have PK4 := PKp.below B4)
          | ((with_reducible show wpListIn _ _ _ _ _ (Oper.mk _ (Op.load 24 _) _ _ _ _ :: _) _ _); first | refine wpListIn_loadPk rfl _ rfl (w.heap.size + 1 + 1 + 1) p a2 nn cap2 PK4 rfl ?_ | refine wpListIn_loadPk rfl _ rfl (w.heap.size + 1 + 1 + 1) p a2 nn cap2 PKp rfl ?_)
          | ((with_reducible show wpListIn _ _ _ _ _ (Oper.mk _ (Op.store 24 _ _) _ _ _ _ :: _) _ _); refine wpListIn_store_row rfl 24 _ _ rfl (w.heap.size + 1) (pkc p a2 nn cap2).toArray rfl rfl 24 _ G4 (by kernel_rfl) rfl (by simp [pkc, Value.oneCell']) ?_; have OE5 := OE4.of_block (W' := w4.setRow (w.heap.size + 1) (pkc p a2 nn cap2).toArray) (setRow_other _ _ _ _ (by omega)) (by simp); obtain ⟨e0, e1, e2⟩ := id OE5))
        have hD2 : ((w4.setRow (w.heap.size + 1) (pkc p a2 nn cap2).toArray).setCell ⟨w.heap.size + 1 + 1, 0, none⟩ (.int .i64 0)).heap[W0.heap.size]? = some (.deferred (some [])) := (Below.heap_setCell _ _ _ _ (by show W0.heap.size ≠ w.heap.size + 1 + 1; omega)).trans ((setRow_other _ _ _ _ (by omega)).trans ((B4.block _ (Array.getElem?_eq_some_iff.1 hD).1).trans hD))
        refine ⟨by simp, .inl ⟨_, _, rfl, run_takeDeferred hD2, ?_⟩⟩
        have R5 : ((w4.setRow (w.heap.size + 1) (pkc p a2 nn cap2).toArray).setCell ⟨w.heap.size + 1 + 1, 0, none⟩ (.int .i64 0)).heap[w.heap.size + 1]? = some (.cells (pkc p a2 nn cap2).toArray 24 (0, 0)) := (Below.heap_setCell _ _ _ _ (by show w.heap.size + 1 ≠ w.heap.size + 1 + 1; omega)).trans (setRow_heap _ _ _ _ _ _ G4)
        have E5 := OE5.set (.int .i64 0)
        have BV : Below w.heap.size w w4 := BW.trans (B4.mono z0)
        have B5 : Below w.heap.size w ((w4.setRow (w.heap.size + 1) (pkc p a2 nn cap2).toArray).setCell ⟨w.heap.size + 1 + 1, 0, none⟩ (.int .i64 0)) := by
          have h : Below w.heap.size w (w4.setRow (w.heap.size + 1) (pkc p a2 nn cap2).toArray) := ⟨BV.os, BV.tape, BV.output, by rw [size_setRow]; exact BV.size, fun b hb => (setRow_other _ _ _ _ (by omega)).trans (BV.block b hb)⟩
          exact h.setCell (p := ⟨w.heap.size + 1 + 1, 0, none⟩) (by show w.heap.size ≤ w.heap.size + 1 + 1; omega) _
        refine ⟨_, results_cell2 rfl _ _ (w.heap.size + 1) (pkc p a2 nn cap2).toArray (0, 0) (w.heap.size + 1 + 1) 0 rfl ((World.putObj_heap_other (by omega)).trans R5) rfl rfl ((World.cell?_of_block (a := ⟨w.heap.size + 1 + 1, 0, none⟩) (World.putObj_heap_other (by show w.heap.size + 1 + 1 ≠ W0.heap.size; omega))).trans E5.1), ?_, B5.trans (below_putObj (by omega) _)⟩
        rw [HE.out]
        refine ⟨a2, nn, cap2, rfl, hag.imp id fun ⟨g, h, hm⟩ => ⟨g, h, by omega⟩, RIp.size, RIp.le, RIp.max, RIp.nil, ?_⟩
        refine RIp.mem.imp id fun ⟨g, off, ea, hg, hc⟩ => ⟨g, off, ea, ?_, fun j hj => (hc j hj).of_block ?_⟩
        · have := B4.size
          simp [World.setCell]
          omega
        · have hg2 : W0.heap.size + 2 ≤ g := by
            rcases hag with h | ⟨g', h, hm⟩
            · rw [h] at ea; cases ea
            · rw [h] at ea; cases ea; exact hm
          exact (World.putObj_heap_other (by omega)).trans ((Below.heap_setCell _ _ _ _ (by show g ≠ w.heap.size + 1 + 1; omega)).trans ((setRow_other _ _ _ _ (by omega)).trans (B4.block g hg)))
end Go.Proofs.YticmjlnpjopfbaaDoor

namespace Go.Proofs.YticmjlnpjopfbaaDoor
open Go.ChangeShapes Go.WideShapes Go.ChangeAt Go.RowKit
open S (Tab Row Byt opn bv)
set_option linter.unusedVariables false
set_option linter.unusedSimpArgs false

theorem ne_of_opn {l : List Int} {e : Int} (h : opn l = .error e) : (e != 0) = true := by
  rcases S.opn_err h with rfl | rfl | rfl <;> rfl
theorem opn_body {l b : List Int} {n : Nat} (hb : Byt l) (h : opn l = .ok (b, n)) : Byt b ∧ b.length ≤ 65535 := by
  refine ⟨?_, (S.opn_ok hb h).2.2.2⟩
  unfold opn at h
  split at h; · cases h
  split at h; · cases h
  split at h; · cases h
  split at h; · cases h
  cases h
  exact fun c hc => hb c (List.mem_of_mem_drop (List.mem_of_mem_take hc))
/-- The body that was opened, handed to read. -/
theorem read_own {base : Nat} {w : World} {v : Value} {zs : List Int} (h : S.Own base w v zs) (hb : Byt zs) (hl : zs.length ≤ 65535) : Calls Tryd.prog 47 #[v] w fun e w' => DecOut w.heap.size w' (openP zs) e ∧ Below w.heap.size w w' := by
  obtain ⟨a, cap, rfl, R⟩ := C.Own.row (base := base) (w := w) (v := v) (zs := zs) h hb
  exact read_any a zs.length cap zs w R (by omega) (S.Own.cap h).2.2 hb

theorem RowI.setRow {w w0 : World} {Z : Array Value} {t : TypeId} {a : Option Addr} {n cap : Nat} {l : List Itm} (h : RowI w a n cap l) (g : Nat) (hg : ∀ b off, a = some ⟨b, off, none⟩ → b ≠ g) (c : Array Value) : RowI (w.setRow g c) a n cap l where
  size := h.size
  le := h.le
  max := h.max
  nil := h.nil
  mem := h.mem.imp id fun ⟨b, off, e, hb, hc⟩ => ⟨b, off, e, by simpa using hb, fun j hj => (hc j hj).of_block (setRow_other _ _ _ _ (hg b off e))⟩
set_option maxRecDepth 100000 in
set_option maxHeartbeats 2000000 in
theorem decode_any (a : Option Addr) (len cap : Nat) (zs : List Int) (w : World) (R : Row .u8 w a len cap zs) (T : Tab w) (hl : len ≤ 140737488355328) (hcap : cap ≤ 9223372036854775807) :
    Calls Tryd.prog 21 #[.slice a len cap] w fun e w' => DecOut w.heap.size w' (decP zs) e ∧ Below w.heap.size w w' := by
  cases ho : opn zs with
  | error c =>
    have hd : decP zs = .error c := by unfold decP; rw [ho]
    rw [hd]
    exact decode_err a len cap zs w R T hl hcap c ho (ne_of_opn ho)
  | ok q =>
    obtain ⟨b, n⟩ := q
    have hby : Byt zs := R.byte
    obtain ⟨hb1, hb2⟩ := opn_body hby ho
    have hsz := R.size
    have hnp := (S.opn_pos ho).2
    have KO : ∀ w1, Row .u8 w1 a len cap zs → Tab w1 → Calls Tryd.prog 46 #[.slice a len cap] w1 fun e w' => (∃ v, e = .returned (.tuple #[v, .int .i64 n, .int .i64 0]) ∧ S.Own w1.heap.size w' v b) ∧ Below w1.heap.size w1 w' := fun w1 R1 T1 => by
      have := S.open_any a len cap zs w1 R1 T1 hl hcap
      rw [ho] at this
      exact this
    by_cases hn : n < len
    · have hd : decP zs = .error 20 := by unfold decP; rw [ho]; simp only; rw [if_pos (by omega)]
      rw [hd]
      have hnI : (n : Int) < (len : Int) := by omega
      go_enter Tryd.func21, Tryd.ntmps21
      go_wp2_with (first
        | (go_at_call 46; refine (KO _ (R.alloc _) (T.alloc _)).mono ?_; rintro e w1 ⟨⟨v1, rfl, O1⟩, hb1⟩; obtain ⟨a1, c1, rfl⟩ := S.own_len O1; have G1 := (hb1.block w.heap.size (by simp)).trans (World.alloc_heap_new _ _))
        | ((with_reducible show wpList _ _ _ (Oper.mk _ (Op.store 24 _ _) _ _ _ _ :: _) _ _); refine wpList_store_row rfl 24 _ _ rfl w.heap.size zPk rfl rfl 24 _ G1 (by kernel_rfl) rfl (by simp [zPk, Value.oneCell']) ?_))
      have B1 : Below w.heap.size w w1 := ((Below.refl _ _).alloc (Nat.le_refl _) _).trans (hb1.mono (by simp))
      refine bodyPost_ret (results_cell_tmp rfl _ _ w.heap.size 24 zPk (0, 0) _ rfl (setRow_heap _ _ _ _ _ _ G1) Tryd.underlying24 rfl (by kernel_rfl)) rfl ⟨?_, ?_⟩
      · show _ = _; rfl
      exact setRow_below B1 G1 _
    · have hd : decP zs = openP b := by unfold decP; rw [ho]; simp only; rw [if_neg (by omega)]
      rw [hd]
      have hnI : ¬ ((n : Int) < (len : Int)) := by omega
      go_enter Tryd.func21, Tryd.ntmps21
      cases hr : openP b with
      | error c =>
        go_wp2_with (first
          | (go_at_call 46; refine (KO _ (R.alloc _) (T.alloc _)).mono ?_; rintro e w1 ⟨⟨v1, rfl, O1⟩, hb1'⟩; have KR := read_own O1 hb1 hb2; rw [hr] at KR; obtain ⟨a1, c1, rfl⟩ := S.own_len O1; have G1 := (hb1'.block w.heap.size (by simp)).trans (World.alloc_heap_new _ _))
          | (go_at_call 47; refine KR.mono ?_; rintro e w2 ⟨hd2, hb3⟩; obtain rfl := hd2; have G2 := (hb3.block w.heap.size (Array.getElem?_eq_some_iff.1 G1).1).trans G1)
          | ((with_reducible show wpList _ _ _ (Oper.mk _ (Op.store 24 _ _) _ _ _ _ :: _) _ _); refine wpList_store_row rfl 24 _ _ rfl w.heap.size zPk rfl rfl 24 _ G2 (by kernel_rfl) rfl (by simp [zPk, Value.oneCell']) ?_))
        have B1 : Below w.heap.size w w1 := ((Below.refl _ _).alloc (Nat.le_refl _) _).trans (hb1'.mono (by simp))
        have B2 : Below w.heap.size w w2 := B1.trans (hb3.mono B1.size)
        refine bodyPost_ret (results_cell_tmp rfl _ _ w.heap.size 24 zPk (0, 0) _ rfl (setRow_heap _ _ _ _ _ _ G2) Tryd.underlying24 rfl (by kernel_rfl)) rfl ⟨?_, ?_⟩
        · show _ = _; rfl
        exact setRow_below B2 G2 _
      | ok p =>
        go_wp2_with (first
          | (go_at_call 46; refine (KO _ (R.alloc _) (T.alloc _)).mono ?_; rintro e w1 ⟨⟨v1, rfl, O1⟩, hb1'⟩; have KR := read_own O1 hb1 hb2; rw [hr] at KR; obtain ⟨a1, c1, rfl⟩ := S.own_len O1; have G1 := (hb1'.block w.heap.size (by simp)).trans (World.alloc_heap_new _ _))
          | (go_at_call 47; refine KR.mono ?_; rintro e w2 ⟨⟨a2, n2, cap2, rfl, hag, RI2⟩, hb3⟩; have G2 := (hb3.block w.heap.size (Array.getElem?_eq_some_iff.1 G1).1).trans G1)
          | ((with_reducible show wpList _ _ _ (Oper.mk _ (Op.store 24 _ _) _ _ _ _ :: _) _ _); refine wpList_store_row rfl 24 _ _ rfl w.heap.size (pkc p a2 n2 cap2).toArray rfl rfl 24 _ G2 (by kernel_rfl) rfl (by simp [pkc, Value.oneCell']) ?_))
        have B1 : Below w.heap.size w w1 := ((Below.refl _ _).alloc (Nat.le_refl _) _).trans (hb1'.mono (by simp))
        have B2 : Below w.heap.size w w2 := B1.trans (hb3.mono B1.size)
        refine bodyPost_ret (results_cell_tmp rfl _ _ w.heap.size 24 (pkc p a2 n2 cap2).toArray (0, 0) _ rfl (setRow_heap _ _ _ _ _ _ G2) Tryd.underlying24 rfl (by kernel_rfl)) rfl ⟨⟨a2, n2, cap2, ?_, hag.imp id fun ⟨g, h, hm⟩ => ⟨g, h, Nat.le_trans B1.size hm⟩, ?_⟩, setRow_below B2 G2 _⟩
        · rfl
        refine RowI.setRow (w0 := w) (Z := #[]) (t := 0) RI2 _ ?_ _
        have := (Array.getElem?_eq_some_iff.1 G1).1
        rintro b' off rfl rfl
        rcases hag with h | ⟨g, h, hm⟩ <;> cases h
        omega
end Go.Proofs.YticmjlnpjopfbaaDoor
