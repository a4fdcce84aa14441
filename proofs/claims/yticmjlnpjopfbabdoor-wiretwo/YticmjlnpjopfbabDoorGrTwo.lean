/-
  Same answers as the document says, and two packets that are fit have the same bytes just where they are the same (P5.5, P5.9): the law WireTwo returns true for every input.
-/
import Derived.Test.YticmjlnpjopfbabDoorGrSlots
import Derived.Test.YticmjlnpjopfbabDoorFitH
import Derived.Laws.AppendOwnNone
import Derived.Test.YticmjlnpjopfbabDoorGrEnc
import Derived.Test.YticmjlnpjopfbabDoorGrRFit
import Derived.Test.YticmjlnpjopfbabDoorPack
import Derived.Test.YticmjlnpjopfbabDoorRows
import Derived.Test.YticmjlnpjopfbabDoorLoad
import Derived.ChangeSame
import Derived.ProofKit
import Derived.OpenShut
import Derived.Test.YticmjlnpjopfbabDoorRowI
import Derived.Deep.Slices
import Derived.SizedLaws
import Derived.Deep.DeepHandedRow
import Derived.Test.YticmjlnpjopfbabDoorCards
import Derived.Test.YticmjlnpjopfbabDoorTie
import Derived.WalkKit
import Derived.ChangeOld
import Derived.Below
import Derived.Lib.LaidTab
namespace Go.Proofs.YticmjlnpjopfbabDoor
open Go.ChangeShapes Go.WideShapes Go.ChangeAt Go.RowKit
set_option linter.unusedVariables false
set_option linter.unusedSimpArgs false

theorem info38 : (Tryd.prog.info? 38).map (fun i => (i.zero, i.size, i.bytes)) = some (some (itv itZ), 19, 160) := by kernel_rfl
theorem itc_len (x : Itm) : (itc x).length = 19 := rfl
theorem itcs_len (l : List Itm) : (l.flatMap itc).length = l.length * 19 := by
  induction l with
  | nil => rfl
  | cons x l ih => rw [List.flatMap_cons, List.length_append, ih, itc_len, List.length_cons]; omega
theorem itcs_at : ∀ (l : List Itm) (j i : Nat), j < l.length → i < 19 → (l.flatMap itc)[j * 19 + i]? = (itc (l.getD j itZ))[i]?
  | [], _, _, h, _ => by simp at h
  | f :: fs, 0, i, _, hi => by
    rw [List.flatMap_cons, List.getElem?_append_left (by rw [itc_len]; omega)]
    simp
  | f :: fs, j + 1, i, h, hi => by
    rw [List.flatMap_cons, List.getElem?_append_right (by rw [itc_len]; omega), itc_len, show (j + 1) * 19 + i - 19 = j * 19 + i by omega, itcs_at fs j i (by simpa using h) hi, List.getD_cons_succ]
theorem itc_one (x : Itm) : ∀ u ∈ itc x, u.oneCell' = true := by simp [itc, Value.oneCell']
theorem itcs_one (l : List Itm) : ∀ u ∈ l.flatMap itc, u.oneCell' = true := by
  intro u hu
  obtain ⟨x, _, h⟩ := List.mem_flatMap.1 hu
  exact itc_one x u h
theorem RowI.cells {w : World} {b off len cap : Nat} {l : List Itm} (R : RowI w (some ⟨b, off, none⟩) len cap l) : ∀ j u, (l.flatMap itc)[j]? = some u → w.cell? ((⟨b, off, none⟩ : Addr).add j) = some u := by
  intro j u hu
  have hj := (List.getElem?_eq_some_iff.1 hu).1
  rw [itcs_len] at hj
  have hsz := R.size
  rcases R.mem with h | ⟨b', off', e, _, hc⟩
  · omega
  · cases e
    have e1 : j / 19 * 19 + j % 19 = j := by omega
    have h1 : j / 19 < l.length := by omega
    have h2 : j % 19 < 19 := by omega
    rw [← e1, itcs_at l _ _ h1 h2] at hu
    rw [add_plain]
    have := hc (j / 19) (by omega) (j % 19) u hu
    rw [show off + j = off + j / 19 * 19 + j % 19 by omega]
    exact this
theorem rowI_owns {w : World} {base : Nat} {v : Value} {l : List Itm} (h : w.ownsRow base 38 19 v l.length (l.flatMap itc)) : ∃ a cap, v = .slice a l.length cap ∧ RowI w a l.length cap l ∧ (a = none ∨ ∃ g, a = some ⟨g, 0, none⟩ ∧ base ≤ g) := by
  rcases h.2 with ⟨rfl, hn⟩ | ⟨g, cap, cur, rfl, hg, hh, hn, hc, hcs, ht⟩
  · have e : l = [] := List.eq_nil_of_length_eq_zero hn
    subst e
    exact ⟨none, 0, rfl, rowI_nil _, .inl rfl⟩
  · refine ⟨_, _, rfl, ⟨rfl, hn, by unfold maxLen at hc; omega, fun h => (by cases h), .inr ⟨g, 0, rfl, (Array.getElem?_eq_some_iff.1 hh).1, fun j hj => ?_⟩⟩, .inr ⟨g, rfl, hg⟩⟩
    intro i v hv
    have hi : i < 19 := (List.getElem?_eq_some_iff.1 hv).1
    rw [cell_of_row _ _ _ _ 38 _ hh]
    have e := itcs_at l j i hj hi
    rw [← ht, List.getElem?_take, if_pos (by omega), hv] at e
    rw [Nat.zero_add]
    simpa using e

/-- append(nil, items...). -/
theorem wpList_append_its (w : World) {ops : Array Oper} {rest : List Oper} {o : Oper} {a : Act} {Q : Exit → Act → World → Prop} (hg : o.guard = none)
    (s x : Operand) (hop : o.op = Op.call { callee := Callee.builtin Builtin.append, args := #[s, x], argTypes := #[22, 22] })
    (base : Nat) (hs : a.eval s = .slice none 0 0) (ad : Option Addr) (len cap : Nat) (l : List Itm) (hx : a.eval x = .slice ad len cap) (R : RowI w ad len cap l) (hbase : base ≤ w.heap.size) (hb : len * 160 ≤ 140737488355328)
    (hK : ∀ v' w', w'.ownsRow base 38 19 v' l.length (l.flatMap itc) → Below w.heap.size w w' → wpList Tryd.prog ops Q rest (a.put o.dst v') w') : wpList Tryd.prog ops Q (o :: rest) a w := by
  obtain ⟨i0, hi, hz0, hz1, hz2⟩ := info_parts info38
  have hsz := R.size
  cases ad with
  | none =>
    obtain ⟨rfl, rfl⟩ := R.nil rfl
    have e : l = [] := List.eq_nil_of_length_eq_zero hsz
    subst e
    exact wpList_append_own_none hg s x 22 hop base 38 i0 19 Tryd.underlying22 hi (.slice none 0 0) 0 [] hs (World.ownsRow_nil w base 38 19) hx (hK _ w (World.ownsRow_nil w base 38 19) (Below.refl _ _))
  | some ad =>
    by_cases h0 : len = 0
    · subst h0
      have e : l = [] := List.eq_nil_of_length_eq_zero hsz
      subst e
      refine wpList_append_own w hg s x 22 hop base 38 i0 (itv itZ) 19 160 Tryd.underlying22 hi hz0 hz1 hz2 rfl (by decide) (.slice none 0 0) 0 [] hs (World.ownsRow_nil w base 38 19) ad 0 cap [] hx rfl (fun j u h => by simp at h) (fun u h => by simp at h) (by unfold maxLen; omega) (by omega) hbase ?_
      intro v' w' own hgr _
      exact hK v' w' own ((Below.refl _ _).grown hgr (Nat.le_refl _) (fun k hk => by cases hk))
    · obtain ⟨b, off, e, _, _⟩ := R.mem.resolve_left h0
      cases e
      refine wpList_append_own w hg s x 22 hop base 38 i0 (itv itZ) 19 160 Tryd.underlying22 hi hz0 hz1 hz2 rfl (by decide) (.slice none 0 0) 0 [] hs (World.ownsRow_nil w base 38 19) ⟨b, off, none⟩ len cap (l.flatMap itc) hx (by rw [itcs_len, hsz]) R.cells (itcs_one l) (by unfold maxLen; omega) (by omega) hbase ?_
      intro v' w' own hgr _
      rw [List.nil_append, Nat.zero_add, ← hsz] at own
      exact hK v' w' own ((Below.refl _ _).grown hgr (Nat.le_refl _) (fun k hk => by cases hk))
theorem wpList_loadPk {ops : Array Oper} {rest : List Oper} {o : Oper} {a : Act} {W : World} {Q : Exit → Act → World → Prop} (x : Operand) (ho : o.op = .load 24 x)
    (hw : Region.wanted o (yielded ops a.tmps) = true) (pb : Nat) (p : Pkt) (ad : Option Addr) (len cap : Nat) (P : PkAt W pb p ad len cap) (hx : a.eval x = .pointer (some ⟨pb, 0, none⟩))
    (h : wpList Tryd.prog ops Q rest (a.put o.dst (pkv p ad len cap)) W) : wpList Tryd.prog ops Q (o :: rest) a W :=
  wpList_step fun K hK => by
    rw [if_pos hw]
    exact wp_load_agg 24 x ho pb 0 hx (pkc p ad len cap) _ (fun j v h => by rw [Nat.zero_add]; exact P j v h) Tryd.underlying24 rfl (by kernel_rfl) (hK _ _ h)
theorem PkAt.set7 {W : World} {pb : Nat} {p : Pkt} {a : Option Addr} {len cap : Nat} (h : PkAt W pb p a len cap) (a' : Option Addr) (len' cap' : Nat) : PkAt (W.setCell ⟨pb, 7, none⟩ (.slice a' len' cap')) pb p a' len' cap' := by
  intro j v hj
  by_cases e : j = 7
  · subst e
    rw [World.cell?_setCell_same _ _ _ (h 7 _ rfl)]
    simpa [pkc] using hj
  · have hj' : (pkc p a len cap)[j]? = some v := by
      match j, e with
      | 0, _ => exact hj
      | 1, _ => exact hj
      | 2, _ => exact hj
      | 3, _ => exact hj
      | 4, _ => exact hj
      | 5, _ => exact hj
      | 6, _ => exact hj
      | 7, e => exact absurd rfl e
      | n + 8, _ => simp [pkc] at hj
    rw [World.cell?_setCell_other _ _ _ _ (by intro h; injection h with _ h; exact e h.symm)]
    exact h j v hj'
def zPk8 : Array Value := #[.int .i64 0, .int .i64 0, .int .i64 0, .int .i64 0, .int .i64 0, .int .i64 0, .int .i64 0, .slice none 0 0]

set_option maxRecDepth 100000 in
set_option maxHeartbeats 4000000 in
theorem copied_any (p : Pkt) (a : Option Addr) (len cap : Nat) (w : World) (R : RowI w a len cap p.items) (hb : len * 160 ≤ 140737488355328) :
    Calls Tryd.prog 6 #[pkv p a len cap] w fun e w' => ∃ a' cap', e = .returned (pkv p a' len cap') ∧ RowI w' a' len cap' p.items ∧ Below w.heap.size w w' := by
  have hsz := R.size
  have R3 := ((R.alloc (pkObj p a len cap)).alloc (.cells zPk8 24)).alloc (pkObj p none 0 0)
  have B3 : Below w.heap.size w (((w.alloc (pkObj p a len cap)).alloc (.cells zPk8 24)).alloc (pkObj p none 0 0)) := (((Below.refl _ _).alloc (Nat.le_refl _) _).alloc (by simp) _).alloc (by simp; omega) _
  have HL : Hid (p.items.length = len) := hsz
  clear hsz
  go_enter Tryd.func6, Tryd.ntmps6
  go_wp2_with (at_builtin; refine wpList_append_its _ rfl _ _ rfl (w.heap.size + 3) rfl a len cap p.items rfl R3 (by first | (simp; done) | (simp; omega)) hb ?_)
  intro v4 w4 own4 hb40
  obtain ⟨W3, hW3⟩ : ∃ W3, ((w.alloc (pkObj p a len cap)).alloc (.cells zPk8 24)).alloc (pkObj p none 0 0) = W3 := ⟨_, rfl⟩
  have e3 : W3.heap.size = w.heap.size + 1 + 1 + 1 := by rw [← hW3]; simp
  have hb4 : Below W3.heap.size W3 w4 := by rw [e3, ← hW3]; exact hb40
  clear hb40
  have p3 : PkAt W3 (w.heap.size + 1 + 1) p none 0 0 := by
    rw [← hW3]
    have := pkAt_new ((w.alloc (pkObj p a len cap)).alloc (.cells zPk8 24)) p none 0 0
    simpa using this
  have f3 : W3.frozen? ⟨w.heap.size + 1 + 1, 7, none⟩ = false := by
    rw [← hW3]
    have h := World.alloc_heap_new ((w.alloc (pkObj p a len cap)).alloc (.cells zPk8 24)) (pkObj p none 0 0)
    rw [World.size_alloc, World.size_alloc] at h
    unfold World.frozen?
    rw [show (⟨w.heap.size + 1 + 1, 7, none⟩ : Addr).block = w.heap.size + 1 + 1 from rfl, h]
    rfl
  have g1 : W3.heap[w.heap.size + 1]? = some (.cells zPk8 24 (0, 0)) := by
    rw [← hW3]
    have := World.alloc_heap_new (w.alloc (pkObj p a len cap)) (.cells zPk8 24)
    rw [World.size_alloc] at this
    exact (Below.heap_alloc _ _ _ (by simp)).trans this
  rw [hW3] at B3 R3
  clear hW3
  obtain ⟨a4, c4, rfl, R4, hA4⟩ := rowI_owns own4
  have P4 : PkAt w4 (w.heap.size + 1 + 1) p none 0 0 := p3.below hb4
  have q7 := P4 7 _ rfl
  have z7 := P4.lt
  have fz : w4.frozen? ⟨w.heap.size + 1 + 1, 7, none⟩ = false := (World.frozen?_of_block (a := ⟨w.heap.size + 1 + 1, 7, none⟩) (hb4.block (w.heap.size + 1 + 1) (by omega))).trans f3
  have PKx := P4.set7 a4 p.items.length c4
  have G1 : (w4.setCell ⟨w.heap.size + 1 + 1, 7, none⟩ (.slice a4 p.items.length c4)).heap[w.heap.size + 1]? = some (.cells zPk8 24 (0, 0)) :=
    (Below.heap_setCell _ _ _ _ (by show w.heap.size + 1 ≠ w.heap.size + 1 + 1; omega)).trans ((hb4.block (w.heap.size + 1) (by omega)).trans g1)
  have z3 : w.heap.size ≤ W3.heap.size := by omega
  clear g1 own4 P4 e3 p3 f3
  go_wp2_with (first
    | ((with_reducible show wpList _ _ _ (Oper.mk _ (Op.load 24 _) _ _ _ _ :: _) _ _); refine wpList_loadPk _ rfl rfl _ _ _ _ _ PKx rfl ?_)
    | ((with_reducible show wpList _ _ _ (Oper.mk _ (Op.store 24 _ _) _ _ _ _ :: _) _ _); refine wpList_store_row rfl 24 _ _ rfl (w.heap.size + 1) (pkc p a4 p.items.length c4).toArray rfl rfl 24 _ G1 (by kernel_rfl) rfl (by simp [pkc, Value.oneCell']) ?_))
  have B4 : Below w.heap.size w w4 := B3.trans (hb4.mono z3)
  have hl := HL.out
  refine bodyPost_ret (results_cell_row rfl _ _ (w.heap.size + 1) 24 (pkc p a4 p.items.length c4).toArray (0, 0) _ rfl (setRow_heap _ _ _ _ _ _ G1) Tryd.underlying24 rfl (by kernel_rfl)) rfl ⟨a4, c4, by rw [hl]; rfl, ?_, ?_⟩
  · rw [← hl]
    refine ⟨R4.size, R4.le, R4.max, R4.nil, R4.mem.imp id fun ⟨b, off, e, h, c⟩ => ⟨b, off, e, by simpa using h, fun j hj => (c j hj).of_block ?_⟩⟩
    have hbb : w.heap.size + 3 ≤ b := by
      rcases hA4 with h' | ⟨g, h', hg⟩
      · rw [h'] at e; cases e
      · rw [h'] at e; cases e; exact hg
    exact (setRow_other _ _ _ _ (by omega)).trans (Below.heap_setCell _ _ _ _ (by show b ≠ w.heap.size + 1 + 1; omega))
  · have B5 := B4.setCell (p := ⟨w.heap.size + 1 + 1, 7, none⟩) (by show w.heap.size ≤ w.heap.size + 1 + 1; omega) (.slice a4 p.items.length c4)
    exact ⟨B5.os, B5.tape, B5.output, by rw [size_setRow]; exact B5.size, fun b hb => (setRow_other _ _ _ _ (by omega)).trans (B5.block b hb)⟩

end Go.Proofs.YticmjlnpjopfbabDoor

namespace Go.Proofs.YticmjlnpjopfbabDoor
open Go.ChangeShapes Go.WideShapes Go.ChangeAt Go.RowKit
set_option linter.unusedVariables false
set_option linter.unusedSimpArgs false

def sameI (x y : Itm) : Bool := (((x.name.toList == y.name.toList) && ((x.epoch == y.epoch) && ((x.maker == y.maker) && ((x.alive == y.alive) && ((x.kind == y.kind) && ((x.scale == y.scale) && true)))))) && (((x.ver == y.ver) && ((x.writer == y.writer) && ((x.flow == y.flow) && true))) && ((x.hasRest == y.hasRest) && ((x.rest == y.rest) && (((x.mn.has == y.mn.has) && ((x.mn.value == y.mn.value) && ((x.mn.origin == y.mn.origin) && ((x.mn.age == y.mn.age) && true)))) && (((x.mx.has == y.mx.has) && ((x.mx.value == y.mx.value) && ((x.mx.origin == y.mx.origin) && ((x.mx.age == y.mx.age) && true)))) && true))))))
theorem bytes_ext {a b : ByteArray} (h : a.toList = b.toList) : a = b := by
  cases a; cases b; simp [ByteArray.toList_eq] at h; simpa using h
theorem sameI_iff (x y : Itm) : sameI x y = true ↔ x = y := by
  constructor
  · intro h
    simp only [sameI, Bool.and_eq_true, beq_iff_eq, Bool.and_true] at h
    obtain ⟨⟨h0, h1, h2, h3, h4, h5⟩, ⟨h6, h7, h8⟩, h9, h10, ⟨h11, h12, h13, h14⟩, h15, h16, h17, h18⟩ := h
    have h0 := bytes_ext h0
    obtain ⟨x0, x1, x2, x3, x4, x5, x6, x7, x8, x9, x10, ⟨x11, x12, x13, x14⟩, x15, x16, x17, x18⟩ := x
    obtain ⟨y0, y1, y2, y3, y4, y5, y6, y7, y8, y9, y10, ⟨y11, y12, y13, y14⟩, y15, y16, y17, y18⟩ := y
    simp_all
  · rintro rfl
    simp [sameI]
theorem neq_it (w : World) (x y : Itm) : (binOp .neq 38 (itv x) (itv y)).run Tryd.prog w = .ok (.bool (!sameI x y)) w := neq38 w _ _ _ _ _ _ _ _ _ _ _ _ _ _ _ _ _ _ _ _ _ _ _ _ _ _ _ _ _ _ _ _ _ _ _ _ _ _
theorem eql_it (w : World) (x y : Itm) : (binOp .eql 38 (itv x) (itv y)).run Tryd.prog w = .ok (.bool (sameI x y)) w := eql38 w _ _ _ _ _ _ _ _ _ _ _ _ _ _ _ _ _ _ _ _ _ _ _ _ _ _ _ _ _ _ _ _ _ _ _ _ _ _
theorem exec_neqit {o : Oper} {ρ : Operand → Value} {a b : Operand} (ho : o.op = .binOp .neq 38 a b 38) (x y : Itm) (hx : ρ a = itv x) (hy : ρ b = itv y) (X : World) : (execOp ρ o).run Tryd.prog X = .ok (.value (.bool (!sameI x y))) X := by
  have hm : Tryd.prog.eqGuardType Tryd.prog.depth 38 = false := by kernel_rfl
  have hn := neq_it X x y
  unfold itv at hx hy hn
  unfold execOp
  simp only [ho, hx, hy, Sem.run_bind, run_eqGuard_agg _ _ _ _ _ _ _ hm, hn, Result.andThen_ok, Sem.run_pure]
set_option maxRecDepth 100000 in
set_option maxHeartbeats 4000000 in
theorem rsame_h0 (p q : Pkt) (a a2 : Option Addr) (len cap len2 cap2 : Nat) (w : World) (R : RowI w a len cap p.items) (R2 : RowI w a2 len2 cap2 q.items)  (e0 : (p.kind != q.kind) = true) : Calls Tryd.prog 4 #[pkv p a len cap, pkv q a2 len2 cap2] w fun e w' => e = .returned (.bool false) ∧ Below w.heap.size w w' := by
  clear R R2
  go_enter Tryd.func4, Tryd.ntmps4
  go_wp2
  all_goals go_ret
  all_goals exact ⟨by first | rfl | exact C.ret_bool (by simp_all), ((Below.refl _ _).alloc (Nat.le_refl _) _).alloc (by simp) _⟩
set_option maxRecDepth 100000 in
set_option maxHeartbeats 4000000 in
theorem rsame_h1 (p q : Pkt) (a a2 : Option Addr) (len cap len2 cap2 : Nat) (w : World) (R : RowI w a len cap p.items) (R2 : RowI w a2 len2 cap2 q.items) (e0 : (p.kind != q.kind) = false) (e1 : (p.src != q.src) = true) : Calls Tryd.prog 4 #[pkv p a len cap, pkv q a2 len2 cap2] w fun e w' => e = .returned (.bool false) ∧ Below w.heap.size w w' := by
  clear R R2
  go_enter Tryd.func4, Tryd.ntmps4
  go_wp2
  all_goals go_ret
  all_goals exact ⟨by first | rfl | exact C.ret_bool (by simp_all), ((Below.refl _ _).alloc (Nat.le_refl _) _).alloc (by simp) _⟩
set_option maxRecDepth 100000 in
set_option maxHeartbeats 4000000 in
theorem rsame_h2 (p q : Pkt) (a a2 : Option Addr) (len cap len2 cap2 : Nat) (w : World) (R : RowI w a len cap p.items) (R2 : RowI w a2 len2 cap2 q.items) (e0 : (p.kind != q.kind) = false) (e1 : (p.src != q.src) = false) (e2 : (p.dst != q.dst) = true) : Calls Tryd.prog 4 #[pkv p a len cap, pkv q a2 len2 cap2] w fun e w' => e = .returned (.bool false) ∧ Below w.heap.size w w' := by
  clear R R2
  go_enter Tryd.func4, Tryd.ntmps4
  go_wp2
  all_goals go_ret
  all_goals exact ⟨by first | rfl | exact C.ret_bool (by simp_all), ((Below.refl _ _).alloc (Nat.le_refl _) _).alloc (by simp) _⟩
set_option maxRecDepth 100000 in
set_option maxHeartbeats 4000000 in
theorem rsame_h3 (p q : Pkt) (a a2 : Option Addr) (len cap len2 cap2 : Nat) (w : World) (R : RowI w a len cap p.items) (R2 : RowI w a2 len2 cap2 q.items) (e0 : (p.kind != q.kind) = false) (e1 : (p.src != q.src) = false) (e2 : (p.dst != q.dst) = false) (e3 : (p.boot != q.boot) = true) : Calls Tryd.prog 4 #[pkv p a len cap, pkv q a2 len2 cap2] w fun e w' => e = .returned (.bool false) ∧ Below w.heap.size w w' := by
  clear R R2
  go_enter Tryd.func4, Tryd.ntmps4
  go_wp2
  all_goals go_ret
  all_goals exact ⟨by first | rfl | exact C.ret_bool (by simp_all), ((Below.refl _ _).alloc (Nat.le_refl _) _).alloc (by simp) _⟩
set_option maxRecDepth 100000 in
set_option maxHeartbeats 4000000 in
theorem rsame_h4 (p q : Pkt) (a a2 : Option Addr) (len cap len2 cap2 : Nat) (w : World) (R : RowI w a len cap p.items) (R2 : RowI w a2 len2 cap2 q.items) (e0 : (p.kind != q.kind) = false) (e1 : (p.src != q.src) = false) (e2 : (p.dst != q.dst) = false) (e3 : (p.boot != q.boot) = false) (e4 : (p.life != q.life) = true) : Calls Tryd.prog 4 #[pkv p a len cap, pkv q a2 len2 cap2] w fun e w' => e = .returned (.bool false) ∧ Below w.heap.size w w' := by
  clear R R2
  go_enter Tryd.func4, Tryd.ntmps4
  go_wp2
  all_goals go_ret
  all_goals exact ⟨by first | rfl | exact C.ret_bool (by simp_all), ((Below.refl _ _).alloc (Nat.le_refl _) _).alloc (by simp) _⟩
set_option maxRecDepth 100000 in
set_option maxHeartbeats 4000000 in
theorem rsame_h5 (p q : Pkt) (a a2 : Option Addr) (len cap len2 cap2 : Nat) (w : World) (R : RowI w a len cap p.items) (R2 : RowI w a2 len2 cap2 q.items) (e0 : (p.kind != q.kind) = false) (e1 : (p.src != q.src) = false) (e2 : (p.dst != q.dst) = false) (e3 : (p.boot != q.boot) = false) (e4 : (p.life != q.life) = false) (e5 : (p.echo != q.echo) = true) : Calls Tryd.prog 4 #[pkv p a len cap, pkv q a2 len2 cap2] w fun e w' => e = .returned (.bool false) ∧ Below w.heap.size w w' := by
  clear R R2
  go_enter Tryd.func4, Tryd.ntmps4
  go_wp2
  all_goals go_ret
  all_goals exact ⟨by first | rfl | exact C.ret_bool (by simp_all), ((Below.refl _ _).alloc (Nat.le_refl _) _).alloc (by simp) _⟩
set_option maxRecDepth 100000 in
set_option maxHeartbeats 4000000 in
theorem rsame_h6 (p q : Pkt) (a a2 : Option Addr) (len cap len2 cap2 : Nat) (w : World) (R : RowI w a len cap p.items) (R2 : RowI w a2 len2 cap2 q.items) (e0 : (p.kind != q.kind) = false) (e1 : (p.src != q.src) = false) (e2 : (p.dst != q.dst) = false) (e3 : (p.boot != q.boot) = false) (e4 : (p.life != q.life) = false) (e5 : (p.echo != q.echo) = false) (e6 : (p.echoLife != q.echoLife) = true) : Calls Tryd.prog 4 #[pkv p a len cap, pkv q a2 len2 cap2] w fun e w' => e = .returned (.bool false) ∧ Below w.heap.size w w' := by
  clear R R2
  go_enter Tryd.func4, Tryd.ntmps4
  go_wp2
  all_goals go_ret
  all_goals exact ⟨by first | rfl | exact C.ret_bool (by simp_all), ((Below.refl _ _).alloc (Nat.le_refl _) _).alloc (by simp) _⟩
set_option maxRecDepth 100000 in
set_option maxHeartbeats 4000000 in
theorem rsame_l (p q : Pkt) (a a2 : Option Addr) (len cap len2 cap2 : Nat) (w : World) (R : RowI w a len cap p.items) (R2 : RowI w a2 len2 cap2 q.items) (e0 : (p.kind != q.kind) = false) (e1 : (p.src != q.src) = false) (e2 : (p.dst != q.dst) = false) (e3 : (p.boot != q.boot) = false) (e4 : (p.life != q.life) = false) (e5 : (p.echo != q.echo) = false) (e6 : (p.echoLife != q.echoLife) = false) (e7 : ((len : Int) != (len2 : Int)) = true) : Calls Tryd.prog 4 #[pkv p a len cap, pkv q a2 len2 cap2] w fun e w' => e = .returned (.bool false) ∧ Below w.heap.size w w' := by
  clear R R2
  go_enter Tryd.func4, Tryd.ntmps4
  go_wp2
  all_goals go_ret
  all_goals exact ⟨by first | rfl | exact C.ret_bool (by simp_all), ((Below.refl _ _).alloc (Nat.le_refl _) _).alloc (by simp) _⟩
set_option maxRecDepth 100000 in
set_option maxHeartbeats 4000000 in
theorem rsame_its (p q : Pkt) (a a2 : Option Addr) (len cap cap2 : Nat) (w : World) (R : RowI w a len cap p.items) (R2 : RowI w a2 len cap2 q.items) (e0 : (p.kind != q.kind) = false) (e1 : (p.src != q.src) = false) (e2 : (p.dst != q.dst) = false) (e3 : (p.boot != q.boot) = false) (e4 : (p.life != q.life) = false) (e5 : (p.echo != q.echo) = false) (e6 : (p.echoLife != q.echoLife) = false) (e7 : ((len : Int) != (len : Int)) = false) (r : Bool) (hr : r = true ↔ p.items = q.items) : Calls Tryd.prog 4 #[pkv p a len cap, pkv q a2 len cap2] w fun e w' => e = .returned (.bool r) ∧ Below w.heap.size w w' := by
  have B1 : Below w.heap.size w ((w.alloc (pkObj p a len cap)).alloc (pkObj q a2 len cap2)) := ((Below.refl _ _).alloc (Nat.le_refl _) _).alloc (by simp) _
  have HR : Hid (RowI ((w.alloc (pkObj p a len cap)).alloc (pkObj q a2 len cap2)) a len cap p.items) := (R.alloc _).alloc _
  have HR2 : Hid (RowI ((w.alloc (pkObj p a len cap)).alloc (pkObj q a2 len cap2)) a2 len cap2 q.items) := (R2.alloc _).alloc _
  have HPK : Hid (PkAt ((w.alloc (pkObj p a len cap)).alloc (pkObj q a2 len cap2)) w.heap.size p a len cap) := (pkAt_new w p a len cap).below ((Below.refl _ _).alloc (Nat.le_refl _) _)
  have HQK : Hid (PkAt ((w.alloc (pkObj p a len cap)).alloc (pkObj q a2 len cap2)) (w.heap.size + 1) q a2 len cap2) := by have := pkAt_new (w.alloc (pkObj p a len cap)) q a2 len cap2; rw [World.size_alloc] at this; exact this
  have HL : Hid (p.items.length = len) := R.size
  have HL2 : Hid (q.items.length = len) := R2.size
  have hle := R.le
  have hcp := R.max
  have hle2 := R2.le
  have hcp2 := R2.max
  have HRr : Hid (r = true ↔ p.items = q.items) := hr
  clear R R2 hr
  go_enter Tryd.func4, Tryd.ntmps4
  go_wp2
  clear e0 e1 e2 e3 e4 e5 e6 e7
  obtain ⟨W0, hW0⟩ : ∃ W0, (w.alloc (pkObj p a len cap)).alloc (pkObj q a2 len cap2) = W0 := ⟨_, rfl⟩
  have hz0 : w.heap.size + 1 < W0.heap.size := by rw [← hW0]; simp
  rw [hW0] at HR HR2 HPK HQK B1 ⊢
  clear hW0
  go_loopg [5] len (fun g c wr => ∃ i : Nat, c = .int .i64 i ∧ i + g = len ∧ Hid (∀ j, j < i → p.items.getD j itZ = q.items.getD j itZ) ∧ Below W0.heap.size W0 wr)
  case atStart => exact ⟨0, rfl, by omega, fun j hj => by omega, Below.refl _ _⟩
  case round =>
    obtain ⟨i, rfl, hg, HA, hB⟩ := hrel
    have HG : Hid (i + gk = len) := hg
    have hi8 : i ≤ len := by omega
    clear hg
    have PK := HPK.out.below hB
    have QK := HQK.out.below hB
    have c7 := PK 7 _ rfl
    by_cases hlt : i < len
    · have hI64 : (i : Int) < (len : Int) := by omega
      obtain ⟨b, off, rfl, hbz, hIt⟩ := (HR.out.below hB).mem.resolve_left (by omega)
      obtain ⟨b2, off2, rfl, hbz2, hIt2⟩ := (HR2.out.below hB).mem.resolve_left (by omega)
      have Ix0 := hIt i hlt
      have Iy0 := hIt2 i hlt
      obtain ⟨x, hx⟩ : ∃ x, p.items.getD i itZ = x := ⟨_, rfl⟩
      obtain ⟨y, hy⟩ : ∃ y, q.items.getD i itZ = y := ⟨_, rfl⟩
      rw [hx] at Ix0
      rw [hy] at Iy0
      have HX : Hid (p.items.getD i itZ = x) := hx
      have HY : Hid (q.items.getD i itZ = y) := hy
      clear hx hy
      obtain ⟨wd, hwd⟩ : ∃ wd, World.drew wr = wd := ⟨_, rfl⟩
      have Bd : Below W0.heap.size W0 wd := by rw [← hwd]; exact hB.drew
      have PKr : PkAt wd w.heap.size p (some ⟨b, off, none⟩) len cap := by rw [← hwd]; exact PK.of_block rfl
      have QKr : PkAt wd (w.heap.size + 1) q (some ⟨b2, off2, none⟩) len cap2 := by rw [← hwd]; exact QK.of_block rfl
      have Ix : ItAt wd b (off + i * 19) x := by rw [← hwd]; exact Ix0.drew
      have Iy : ItAt wd b2 (off2 + i * 19) y := by rw [← hwd]; exact Iy0.drew
      cases hsame : sameI x y with
      | false =>
        have HE : Hid (r = false) := by
          show _ = _
          cases r with
          | false => rfl
          | true =>
            have h := HRr.out.1 rfl
            have h1 := HX.out
            rw [h, HY.out] at h1
            rw [(sameI_iff x y).2 h1.symm] at hsame
            cases hsame
        go_wp2
        refine wp_region_any (by kernel_rfl) ?_
        change wpAny _ _ _ _ _ _ _ (World.drew _)
        rw [hwd]
        refine S.wpAny_narrow (fun X => Below wd.heap.size wd X) _ _ _ _ ?_
        refine S.anyH_take 0 69 (.pointer (some ⟨w.heap.size, 7, none⟩)) rfl rfl (by kernel_rfl) (by kernel_rfl) (by kernel_rfl) (fun _ _ _ h => h) (Or.inl ⟨by rfl, by intro w hSw; go_simp⟩) (Below.refl _ _) ?_
        try simp only [Act.put, List.setIfInBounds_toArray, List.set_cons_zero, List.set_cons_succ]
        refine S.anyH_take 1 70 (.slice (some ⟨b, off, none⟩) len cap) rfl rfl (by kernel_rfl) (by kernel_rfl) (by kernel_rfl) (fun _ _ _ h => h) (Or.inl ⟨by rfl, by intro w hSw; have q7 := (PKr.below hSw) 7 _ rfl; go_simp⟩) (Below.refl _ _) ?_
        try simp only [Act.put, List.setIfInBounds_toArray, List.set_cons_zero, List.set_cons_succ]
        refine S.anyH_take 2 71 (.int .i64 (i : Int)) rfl rfl (by kernel_rfl) (by kernel_rfl) (by kernel_rfl) (fun _ _ _ h => h) (Or.inl ⟨by rfl, by intro w hSw; go_simp⟩) (Below.refl _ _) ?_
        try simp only [Act.put, List.setIfInBounds_toArray, List.set_cons_zero, List.set_cons_succ]
        refine S.anyH_take 3 72 (.pointer (some ⟨b, off + i * 19, none⟩)) rfl rfl (by kernel_rfl) (by kernel_rfl) (by kernel_rfl) (fun _ _ _ h => h) (Or.inl ⟨by rfl, by intro w hSw; go_simp⟩) (Below.refl _ _) ?_
        try simp only [Act.put, List.setIfInBounds_toArray, List.set_cons_zero, List.set_cons_succ]
        refine S.anyH_take 4 73 (itv x) rfl rfl (by kernel_rfl) (by kernel_rfl) (by kernel_rfl) (fun _ _ _ h => h) (Or.inl ⟨by rfl, by intro w' hSw; exact exec_load38 rfl rfl (Ix.below hSw)⟩) (Below.refl _ _) ?_
        try simp only [Act.put, List.setIfInBounds_toArray, List.set_cons_zero, List.set_cons_succ]
        refine S.anyH_take 5 74 (.pointer (some ⟨w.heap.size + 1, 7, none⟩)) rfl rfl (by kernel_rfl) (by kernel_rfl) (by kernel_rfl) (fun _ _ _ h => h) (Or.inl ⟨by rfl, by intro w hSw; go_simp⟩) (Below.refl _ _) ?_
        try simp only [Act.put, List.setIfInBounds_toArray, List.set_cons_zero, List.set_cons_succ]
        refine S.anyH_take 6 75 (.slice (some ⟨b2, off2, none⟩) len cap2) rfl rfl (by kernel_rfl) (by kernel_rfl) (by kernel_rfl) (fun _ _ _ h => h) (Or.inl ⟨by rfl, by intro w hSw; have q7 := (QKr.below hSw) 7 _ rfl; go_simp⟩) (Below.refl _ _) ?_
        try simp only [Act.put, List.setIfInBounds_toArray, List.set_cons_zero, List.set_cons_succ]
        refine S.anyH_take 7 76 (.int .i64 (i : Int)) rfl rfl (by kernel_rfl) (by kernel_rfl) (by kernel_rfl) (fun _ _ _ h => h) (Or.inl ⟨by rfl, by intro w hSw; go_simp⟩) (Below.refl _ _) ?_
        try simp only [Act.put, List.setIfInBounds_toArray, List.set_cons_zero, List.set_cons_succ]
        refine S.anyH_take 8 77 (.pointer (some ⟨b2, off2 + i * 19, none⟩)) rfl rfl (by kernel_rfl) (by kernel_rfl) (by kernel_rfl) (fun _ _ _ h => h) (Or.inl ⟨by rfl, by intro w hSw; go_simp⟩) (Below.refl _ _) ?_
        try simp only [Act.put, List.setIfInBounds_toArray, List.set_cons_zero, List.set_cons_succ]
        refine S.anyH_take 9 78 (itv y) rfl rfl (by kernel_rfl) (by kernel_rfl) (by kernel_rfl) (fun _ _ _ h => h) (Or.inl ⟨by rfl, by intro w' hSw; exact exec_load38 rfl rfl (Iy.below hSw)⟩) (Below.refl _ _) ?_
        try simp only [Act.put, List.setIfInBounds_toArray, List.set_cons_zero, List.set_cons_succ]
        refine S.anyH_take 10 79 (.bool true) rfl rfl (by kernel_rfl) (by kernel_rfl) (by kernel_rfl) (fun _ _ _ h => h) (Or.inl ⟨by rfl, by intro w9 hSw; exact (exec_neqit rfl x y rfl rfl w9).trans (by rw [hsame]; rfl)⟩) (Below.refl _ _) ?_
        try simp only [Act.put, List.setIfInBounds_toArray, List.set_cons_zero, List.set_cons_succ]
        refine wpAnyH_done (by kernel_rfl) ?_ _
        go_wp2
        go_ret
        rw [HE.out]
        exact ⟨rfl, B1.trans (Bd.mono (by omega))⟩
      | true =>
        have HXY : Hid (x = y) := (sameI_iff x y).1 hsame
        go_wp2
        refine wp_region_any (by kernel_rfl) ?_
        change wpAny _ _ _ _ _ _ _ (World.drew _)
        rw [hwd]
        refine S.wpAny_narrow (fun X => Below wd.heap.size wd X) _ _ _ _ ?_
        refine S.anyH_take 0 69 (.pointer (some ⟨w.heap.size, 7, none⟩)) rfl rfl (by kernel_rfl) (by kernel_rfl) (by kernel_rfl) (fun _ _ _ h => h) (Or.inl ⟨by rfl, by intro w hSw; go_simp⟩) (Below.refl _ _) ?_
        try simp only [Act.put, List.setIfInBounds_toArray, List.set_cons_zero, List.set_cons_succ]
        refine S.anyH_take 1 70 (.slice (some ⟨b, off, none⟩) len cap) rfl rfl (by kernel_rfl) (by kernel_rfl) (by kernel_rfl) (fun _ _ _ h => h) (Or.inl ⟨by rfl, by intro w hSw; have q7 := (PKr.below hSw) 7 _ rfl; go_simp⟩) (Below.refl _ _) ?_
        try simp only [Act.put, List.setIfInBounds_toArray, List.set_cons_zero, List.set_cons_succ]
        refine S.anyH_take 2 71 (.int .i64 (i : Int)) rfl rfl (by kernel_rfl) (by kernel_rfl) (by kernel_rfl) (fun _ _ _ h => h) (Or.inl ⟨by rfl, by intro w hSw; go_simp⟩) (Below.refl _ _) ?_
        try simp only [Act.put, List.setIfInBounds_toArray, List.set_cons_zero, List.set_cons_succ]
        refine S.anyH_take 3 72 (.pointer (some ⟨b, off + i * 19, none⟩)) rfl rfl (by kernel_rfl) (by kernel_rfl) (by kernel_rfl) (fun _ _ _ h => h) (Or.inl ⟨by rfl, by intro w hSw; go_simp⟩) (Below.refl _ _) ?_
        try simp only [Act.put, List.setIfInBounds_toArray, List.set_cons_zero, List.set_cons_succ]
        refine S.anyH_take 4 73 (itv x) rfl rfl (by kernel_rfl) (by kernel_rfl) (by kernel_rfl) (fun _ _ _ h => h) (Or.inl ⟨by rfl, by intro w' hSw; exact exec_load38 rfl rfl (Ix.below hSw)⟩) (Below.refl _ _) ?_
        try simp only [Act.put, List.setIfInBounds_toArray, List.set_cons_zero, List.set_cons_succ]
        refine S.anyH_take 5 74 (.pointer (some ⟨w.heap.size + 1, 7, none⟩)) rfl rfl (by kernel_rfl) (by kernel_rfl) (by kernel_rfl) (fun _ _ _ h => h) (Or.inl ⟨by rfl, by intro w hSw; go_simp⟩) (Below.refl _ _) ?_
        try simp only [Act.put, List.setIfInBounds_toArray, List.set_cons_zero, List.set_cons_succ]
        refine S.anyH_take 6 75 (.slice (some ⟨b2, off2, none⟩) len cap2) rfl rfl (by kernel_rfl) (by kernel_rfl) (by kernel_rfl) (fun _ _ _ h => h) (Or.inl ⟨by rfl, by intro w hSw; have q7 := (QKr.below hSw) 7 _ rfl; go_simp⟩) (Below.refl _ _) ?_
        try simp only [Act.put, List.setIfInBounds_toArray, List.set_cons_zero, List.set_cons_succ]
        refine S.anyH_take 7 76 (.int .i64 (i : Int)) rfl rfl (by kernel_rfl) (by kernel_rfl) (by kernel_rfl) (fun _ _ _ h => h) (Or.inl ⟨by rfl, by intro w hSw; go_simp⟩) (Below.refl _ _) ?_
        try simp only [Act.put, List.setIfInBounds_toArray, List.set_cons_zero, List.set_cons_succ]
        refine S.anyH_take 8 77 (.pointer (some ⟨b2, off2 + i * 19, none⟩)) rfl rfl (by kernel_rfl) (by kernel_rfl) (by kernel_rfl) (fun _ _ _ h => h) (Or.inl ⟨by rfl, by intro w hSw; go_simp⟩) (Below.refl _ _) ?_
        try simp only [Act.put, List.setIfInBounds_toArray, List.set_cons_zero, List.set_cons_succ]
        refine S.anyH_take 9 78 (itv y) rfl rfl (by kernel_rfl) (by kernel_rfl) (by kernel_rfl) (fun _ _ _ h => h) (Or.inl ⟨by rfl, by intro w' hSw; exact exec_load38 rfl rfl (Iy.below hSw)⟩) (Below.refl _ _) ?_
        try simp only [Act.put, List.setIfInBounds_toArray, List.set_cons_zero, List.set_cons_succ]
        refine S.anyH_take 10 79 (.bool false) rfl rfl (by kernel_rfl) (by kernel_rfl) (by kernel_rfl) (fun _ _ _ h => h) (Or.inl ⟨by rfl, by intro w9 hSw; exact (exec_neqit rfl x y rfl rfl w9).trans (by rw [hsame]; rfl)⟩) (Below.refl _ _) ?_
        try simp only [Act.put, List.setIfInBounds_toArray, List.set_cons_zero, List.set_cons_succ]
        refine wpAnyH_done (by kernel_rfl) ?_ _
        go_wp2
        go_roundg (gk - 1)
        case measure => have := HG.out; omega
        case rel =>
          refine ⟨i + 1, by first | rfl | go_num, by have := HG.out; omega, ?_, Bd⟩
          intro j hj
          by_cases e : j = i
          · rw [e, HX.out, HY.out, HXY.out]
          · exact HA.out j (by omega)
    · have HE : Hid (r = true) := by
        show _ = _
        refine HRr.out.2 ?_
        apply List.ext_getElem?
        intro j
        by_cases hj : j < len
        · have h := HA.out j (by omega)
          have l1 := HL.out
          have l2 := HL2.out
          rw [List.getD_eq_getElem?_getD, List.getD_eq_getElem?_getD, List.getElem?_eq_getElem (by omega), List.getElem?_eq_getElem (by omega)] at h
          rw [List.getElem?_eq_getElem (by omega), List.getElem?_eq_getElem (by omega)]
          exact congrArg some h
        · rw [List.getElem?_eq_none (by have := HL.out; omega), List.getElem?_eq_none (by have := HL2.out; omega)]
      go_wp2
      go_ret
      rw [HE.out]
      exact ⟨rfl, B1.trans (hB.mono (by omega))⟩

open Classical in
def sameP (p q : Pkt) [Decidable (p = q)] : Bool := decide (p = q)
theorem sameP_ne {p q : Pkt} [Decidable (p = q)] (h : p ≠ q) : sameP p q = false := by simp [sameP, h]
theorem rsame_any (p q : Pkt) [Decidable (p = q)] (a a2 : Option Addr) (len cap len2 cap2 : Nat) (w : World) (R : RowI w a len cap p.items) (R2 : RowI w a2 len2 cap2 q.items) : Calls Tryd.prog 4 #[pkv p a len cap, pkv q a2 len2 cap2] w fun e w' => e = .returned (.bool (sameP p q)) ∧ Below w.heap.size w w' := by
  cases e0 : (p.kind != q.kind) with
  | true => rw [sameP_ne (fun h => by rw [h] at e0; simp at e0)]; exact rsame_h0 p q a a2 len cap len2 cap2 w R R2 e0
  | false =>
  cases e1 : (p.src != q.src) with
  | true => rw [sameP_ne (fun h => by rw [h] at e1; simp at e1)]; exact rsame_h1 p q a a2 len cap len2 cap2 w R R2 e0 e1
  | false =>
  cases e2 : (p.dst != q.dst) with
  | true => rw [sameP_ne (fun h => by rw [h] at e2; simp at e2)]; exact rsame_h2 p q a a2 len cap len2 cap2 w R R2 e0 e1 e2
  | false =>
  cases e3 : (p.boot != q.boot) with
  | true => rw [sameP_ne (fun h => by rw [h] at e3; simp at e3)]; exact rsame_h3 p q a a2 len cap len2 cap2 w R R2 e0 e1 e2 e3
  | false =>
  cases e4 : (p.life != q.life) with
  | true => rw [sameP_ne (fun h => by rw [h] at e4; simp at e4)]; exact rsame_h4 p q a a2 len cap len2 cap2 w R R2 e0 e1 e2 e3 e4
  | false =>
  cases e5 : (p.echo != q.echo) with
  | true => rw [sameP_ne (fun h => by rw [h] at e5; simp at e5)]; exact rsame_h5 p q a a2 len cap len2 cap2 w R R2 e0 e1 e2 e3 e4 e5
  | false =>
  cases e6 : (p.echoLife != q.echoLife) with
  | true => rw [sameP_ne (fun h => by rw [h] at e6; simp at e6)]; exact rsame_h6 p q a a2 len cap len2 cap2 w R R2 e0 e1 e2 e3 e4 e5 e6
  | false =>
  have l1 := R.size
  have l2 := R2.size
  cases e7 : ((len : Int) != (len2 : Int)) with
  | true => rw [sameP_ne (fun h => by subst h; rw [← l1, ← l2] at e7; simp at e7)]; exact rsame_l p q a a2 len cap len2 cap2 w R R2 e0 e1 e2 e3 e4 e5 e6 e7
  | false =>
  obtain rfl : len = len2 := by have h : (len : Int) = (len2 : Int) := by simpa using e7
                                omega
  refine rsame_its p q a a2 len cap cap2 w R R2 e0 e1 e2 e3 e4 e5 e6 e7 _ ?_
  simp only [bne_eq_false_iff_eq] at e0 e1 e2 e3 e4 e5 e6
  obtain ⟨pk, ps, pd, pb, pl, pe, pel, pi⟩ := p
  obtain ⟨qk, qs, qd, qb, ql, qe, qel, qi⟩ := q
  simp only at e0 e1 e2 e3 e4 e5 e6
  simp [sameP, e0, e1, e2, e3, e4, e5, e6]

end Go.Proofs.YticmjlnpjopfbabDoor

namespace Go.Proofs.YticmjlnpjopfbabDoor
open Go.ChangeShapes Go.WideShapes Go.ChangeAt Go.RowKit
set_option linter.unusedVariables false
set_option linter.unusedSimpArgs false

set_option maxRecDepth 100000 in
set_option maxHeartbeats 4000000 in
theorem sequal_len (a a2 : Option Addr) (len cap len2 cap2 : Nat) (w : World) (e7 : ((len : Int) != (len2 : Int)) = true) : Calls Tryd.prog 10 #[.slice a len cap, .slice a2 len2 cap2] w fun e w' => e = .returned (.bool false) ∧ Below w.heap.size w w' := by
  go_enter Tryd.func10, Tryd.ntmps10
  go_wp2
  go_ret
  exact ⟨rfl, Below.refl _ _⟩
set_option maxRecDepth 100000 in
set_option maxHeartbeats 4000000 in
theorem sequal_its (l m : List Itm) (a a2 : Option Addr) (len cap cap2 : Nat) (w : World) (R : RowI w a len cap l) (R2 : RowI w a2 len cap2 m) (e7 : ((len : Int) != (len : Int)) = false) (r : Bool) (hr : r = true ↔ l = m) : Calls Tryd.prog 10 #[.slice a len cap, .slice a2 len cap2] w fun e w' => e = .returned (.bool r) ∧ Below w.heap.size w w' := by
  have HR : Hid (RowI w a len cap l) := R
  have HR2 : Hid (RowI w a2 len cap2 m) := R2
  have HL : Hid (l.length = len) := R.size
  have HL2 : Hid (m.length = len) := R2.size
  have hle := R.le
  have hcp := R.max
  have hle2 := R2.le
  have hcp2 := R2.max
  have HRr : Hid (r = true ↔ l = m) := hr
  clear R R2 hr
  go_enter Tryd.func10, Tryd.ntmps10
  go_wp2
  clear e7
  go_loopg [13] len (fun g c wr => ∃ i : Nat, c = .int .i64 i ∧ i + g = len ∧ Hid (∀ j, j < i → l.getD j itZ = m.getD j itZ) ∧ Below w.heap.size w wr)
  case atStart => exact ⟨0, rfl, by omega, fun j hj => by omega, Below.refl _ _⟩
  case round =>
    obtain ⟨i, rfl, hg, HA, hB⟩ := hrel
    have HG : Hid (i + gk = len) := hg
    have hi8 : i ≤ len := by omega
    clear hg
    by_cases hlt : i < len
    · have hI64 : (i : Int) < (len : Int) := by omega
      obtain ⟨b, off, rfl, hbz, hIt⟩ := (HR.out.below hB).mem.resolve_left (by omega)
      obtain ⟨b2, off2, rfl, hbz2, hIt2⟩ := (HR2.out.below hB).mem.resolve_left (by omega)
      have Ix0 := hIt i hlt
      have Iy0 := hIt2 i hlt
      obtain ⟨x, hx⟩ : ∃ x, l.getD i itZ = x := ⟨_, rfl⟩
      obtain ⟨y, hy⟩ : ∃ y, m.getD i itZ = y := ⟨_, rfl⟩
      rw [hx] at Ix0
      rw [hy] at Iy0
      have HX : Hid (l.getD i itZ = x) := hx
      have HY : Hid (m.getD i itZ = y) := hy
      clear hx hy
      obtain ⟨wd, hwd⟩ : ∃ wd, World.drew wr = wd := ⟨_, rfl⟩
      have Bd : Below w.heap.size w wd := by rw [← hwd]; exact hB.drew
      have Ix : ItAt wd b (off + i * 19) x := by rw [← hwd]; exact Ix0.drew
      have Iy : ItAt wd b2 (off2 + i * 19) y := by rw [← hwd]; exact Iy0.drew
      cases hsame : sameI x y with
      | false =>
        have HE : Hid (r = false) := by
          show _ = _
          cases r with
          | false => rfl
          | true =>
            have h := HRr.out.1 rfl
            have h1 := HX.out
            rw [h, HY.out] at h1
            rw [(sameI_iff x y).2 h1.symm] at hsame
            cases hsame
        go_wp2
        refine wp_region_any (by kernel_rfl) ?_
        change wpAny _ _ _ _ _ _ _ (World.drew _)
        rw [hwd]
        refine S.wpAny_narrow (fun X => Below wd.heap.size wd X) _ _ _ _ ?_
        refine S.anyH_take 0 16 (.slice (some ⟨b, off, none⟩) len cap) rfl rfl (by kernel_rfl) (by kernel_rfl) (by kernel_rfl) (fun _ _ _ h => h) (Or.inl ⟨by rfl, by intro w hSw; go_simp⟩) (Below.refl _ _) ?_
        try simp only [Act.put, List.setIfInBounds_toArray, List.set_cons_zero, List.set_cons_succ]
        refine S.anyH_take 1 17 (.int .i64 (i : Int)) rfl rfl (by kernel_rfl) (by kernel_rfl) (by kernel_rfl) (fun _ _ _ h => h) (Or.inl ⟨by rfl, by intro w hSw; go_simp⟩) (Below.refl _ _) ?_
        try simp only [Act.put, List.setIfInBounds_toArray, List.set_cons_zero, List.set_cons_succ]
        refine S.anyH_take 2 18 (.pointer (some ⟨b, off + i * 19, none⟩)) rfl rfl (by kernel_rfl) (by kernel_rfl) (by kernel_rfl) (fun _ _ _ h => h) (Or.inl ⟨by rfl, by intro w hSw; go_simp⟩) (Below.refl _ _) ?_
        try simp only [Act.put, List.setIfInBounds_toArray, List.set_cons_zero, List.set_cons_succ]
        refine S.anyH_take 3 19 (itv x) rfl rfl (by kernel_rfl) (by kernel_rfl) (by kernel_rfl) (fun _ _ _ h => h) (Or.inl ⟨by rfl, by intro w' hSw; exact exec_load38 rfl rfl (Ix.below hSw)⟩) (Below.refl _ _) ?_
        try simp only [Act.put, List.setIfInBounds_toArray, List.set_cons_zero, List.set_cons_succ]
        refine S.anyH_take 4 20 (.slice (some ⟨b2, off2, none⟩) len cap2) rfl rfl (by kernel_rfl) (by kernel_rfl) (by kernel_rfl) (fun _ _ _ h => h) (Or.inl ⟨by rfl, by intro w hSw; go_simp⟩) (Below.refl _ _) ?_
        try simp only [Act.put, List.setIfInBounds_toArray, List.set_cons_zero, List.set_cons_succ]
        refine S.anyH_take 5 21 (.int .i64 (i : Int)) rfl rfl (by kernel_rfl) (by kernel_rfl) (by kernel_rfl) (fun _ _ _ h => h) (Or.inl ⟨by rfl, by intro w hSw; go_simp⟩) (Below.refl _ _) ?_
        try simp only [Act.put, List.setIfInBounds_toArray, List.set_cons_zero, List.set_cons_succ]
        refine S.anyH_take 6 22 (.pointer (some ⟨b2, off2 + i * 19, none⟩)) rfl rfl (by kernel_rfl) (by kernel_rfl) (by kernel_rfl) (fun _ _ _ h => h) (Or.inl ⟨by rfl, by intro w hSw; go_simp⟩) (Below.refl _ _) ?_
        try simp only [Act.put, List.setIfInBounds_toArray, List.set_cons_zero, List.set_cons_succ]
        refine S.anyH_take 7 23 (itv y) rfl rfl (by kernel_rfl) (by kernel_rfl) (by kernel_rfl) (fun _ _ _ h => h) (Or.inl ⟨by rfl, by intro w' hSw; exact exec_load38 rfl rfl (Iy.below hSw)⟩) (Below.refl _ _) ?_
        try simp only [Act.put, List.setIfInBounds_toArray, List.set_cons_zero, List.set_cons_succ]
        refine S.anyH_take 8 24 (.bool true) rfl rfl (by kernel_rfl) (by kernel_rfl) (by kernel_rfl) (fun _ _ _ h => h) (Or.inl ⟨by rfl, by intro w9 hSw; exact (exec_neqit rfl x y rfl rfl w9).trans (by rw [hsame]; rfl)⟩) (Below.refl _ _) ?_
        try simp only [Act.put, List.setIfInBounds_toArray, List.set_cons_zero, List.set_cons_succ]
        refine wpAnyH_done (by kernel_rfl) ?_ _
        go_wp2
        go_ret
        rw [HE.out]
        exact ⟨rfl, Bd⟩
      | true =>
        have HXY : Hid (x = y) := (sameI_iff x y).1 hsame
        go_wp2
        refine wp_region_any (by kernel_rfl) ?_
        change wpAny _ _ _ _ _ _ _ (World.drew _)
        rw [hwd]
        refine S.wpAny_narrow (fun X => Below wd.heap.size wd X) _ _ _ _ ?_
        refine S.anyH_take 0 16 (.slice (some ⟨b, off, none⟩) len cap) rfl rfl (by kernel_rfl) (by kernel_rfl) (by kernel_rfl) (fun _ _ _ h => h) (Or.inl ⟨by rfl, by intro w hSw; go_simp⟩) (Below.refl _ _) ?_
        try simp only [Act.put, List.setIfInBounds_toArray, List.set_cons_zero, List.set_cons_succ]
        refine S.anyH_take 1 17 (.int .i64 (i : Int)) rfl rfl (by kernel_rfl) (by kernel_rfl) (by kernel_rfl) (fun _ _ _ h => h) (Or.inl ⟨by rfl, by intro w hSw; go_simp⟩) (Below.refl _ _) ?_
        try simp only [Act.put, List.setIfInBounds_toArray, List.set_cons_zero, List.set_cons_succ]
        refine S.anyH_take 2 18 (.pointer (some ⟨b, off + i * 19, none⟩)) rfl rfl (by kernel_rfl) (by kernel_rfl) (by kernel_rfl) (fun _ _ _ h => h) (Or.inl ⟨by rfl, by intro w hSw; go_simp⟩) (Below.refl _ _) ?_
        try simp only [Act.put, List.setIfInBounds_toArray, List.set_cons_zero, List.set_cons_succ]
        refine S.anyH_take 3 19 (itv x) rfl rfl (by kernel_rfl) (by kernel_rfl) (by kernel_rfl) (fun _ _ _ h => h) (Or.inl ⟨by rfl, by intro w' hSw; exact exec_load38 rfl rfl (Ix.below hSw)⟩) (Below.refl _ _) ?_
        try simp only [Act.put, List.setIfInBounds_toArray, List.set_cons_zero, List.set_cons_succ]
        refine S.anyH_take 4 20 (.slice (some ⟨b2, off2, none⟩) len cap2) rfl rfl (by kernel_rfl) (by kernel_rfl) (by kernel_rfl) (fun _ _ _ h => h) (Or.inl ⟨by rfl, by intro w hSw; go_simp⟩) (Below.refl _ _) ?_
        try simp only [Act.put, List.setIfInBounds_toArray, List.set_cons_zero, List.set_cons_succ]
        refine S.anyH_take 5 21 (.int .i64 (i : Int)) rfl rfl (by kernel_rfl) (by kernel_rfl) (by kernel_rfl) (fun _ _ _ h => h) (Or.inl ⟨by rfl, by intro w hSw; go_simp⟩) (Below.refl _ _) ?_
        try simp only [Act.put, List.setIfInBounds_toArray, List.set_cons_zero, List.set_cons_succ]
        refine S.anyH_take 6 22 (.pointer (some ⟨b2, off2 + i * 19, none⟩)) rfl rfl (by kernel_rfl) (by kernel_rfl) (by kernel_rfl) (fun _ _ _ h => h) (Or.inl ⟨by rfl, by intro w hSw; go_simp⟩) (Below.refl _ _) ?_
        try simp only [Act.put, List.setIfInBounds_toArray, List.set_cons_zero, List.set_cons_succ]
        refine S.anyH_take 7 23 (itv y) rfl rfl (by kernel_rfl) (by kernel_rfl) (by kernel_rfl) (fun _ _ _ h => h) (Or.inl ⟨by rfl, by intro w' hSw; exact exec_load38 rfl rfl (Iy.below hSw)⟩) (Below.refl _ _) ?_
        try simp only [Act.put, List.setIfInBounds_toArray, List.set_cons_zero, List.set_cons_succ]
        refine S.anyH_take 8 24 (.bool false) rfl rfl (by kernel_rfl) (by kernel_rfl) (by kernel_rfl) (fun _ _ _ h => h) (Or.inl ⟨by rfl, by intro w9 hSw; exact (exec_neqit rfl x y rfl rfl w9).trans (by rw [hsame]; rfl)⟩) (Below.refl _ _) ?_
        try simp only [Act.put, List.setIfInBounds_toArray, List.set_cons_zero, List.set_cons_succ]
        refine wpAnyH_done (by kernel_rfl) ?_ _
        go_wp2
        go_roundg (gk - 1)
        case measure => have := HG.out; omega
        case rel =>
          refine ⟨i + 1, by first | rfl | go_num, by have := HG.out; omega, ?_, Bd⟩
          intro j hj
          by_cases e : j = i
          · rw [e, HX.out, HY.out, HXY.out]
          · exact HA.out j (by omega)
    · have HE : Hid (r = true) := by
        show _ = _
        refine HRr.out.2 ?_
        apply List.ext_getElem?
        intro j
        by_cases hj : j < len
        · have h := HA.out j (by omega)
          have l1 := HL.out
          have l2 := HL2.out
          rw [List.getD_eq_getElem?_getD, List.getD_eq_getElem?_getD, List.getElem?_eq_getElem (by omega), List.getElem?_eq_getElem (by omega)] at h
          rw [List.getElem?_eq_getElem (by omega), List.getElem?_eq_getElem (by omega)]
          exact congrArg some h
        · rw [List.getElem?_eq_none (by have := HL.out; omega), List.getElem?_eq_none (by have := HL2.out; omega)]
      go_wp2
      go_ret
      rw [HE.out]
      exact ⟨rfl, hB⟩
open Classical in
theorem sequal_any (l m : List Itm) (a a2 : Option Addr) (len cap len2 cap2 : Nat) (w : World) (R : RowI w a len cap l) (R2 : RowI w a2 len2 cap2 m) : Calls Tryd.prog 10 #[.slice a len cap, .slice a2 len2 cap2] w fun e w' => e = .returned (.bool (decide (l = m))) ∧ Below w.heap.size w w' := by
  have l1 := R.size
  have l2 := R2.size
  cases e7 : ((len : Int) != (len2 : Int)) with
  | true =>
    rw [show decide (l = m) = false by simp; intro h; subst h; rw [← l1, ← l2] at e7; simp at e7]
    exact sequal_len a a2 len cap len2 cap2 w e7
  | false =>
    obtain rfl : len = len2 := by have h : (len : Int) = (len2 : Int) := by simpa using e7
                                  omega
    exact sequal_its l m a a2 len cap cap2 w R R2 e7 _ (by simp)
set_option maxRecDepth 100000 in
set_option maxHeartbeats 4000000 in
theorem wsame_h0 (p q : Pkt) (a a2 : Option Addr) (len cap len2 cap2 : Nat) (w : World) (R : RowI w a len cap p.items) (R2 : RowI w a2 len2 cap2 q.items)  (e0 : (p.kind == q.kind) = false) : Calls Tryd.prog 5 #[pkv p a len cap, pkv q a2 len2 cap2] w fun e w' => e = .returned (.bool false) ∧ Below w.heap.size w w' := by
  clear R R2
  go_enter Tryd.func5, Tryd.ntmps5
  go_wp2
  all_goals go_ret
  all_goals exact ⟨by first | rfl | exact C.ret_bool (by simp_all), ((Below.refl _ _).alloc (Nat.le_refl _) _).alloc (by simp) _⟩
set_option maxRecDepth 100000 in
set_option maxHeartbeats 4000000 in
theorem wsame_h1 (p q : Pkt) (a a2 : Option Addr) (len cap len2 cap2 : Nat) (w : World) (R : RowI w a len cap p.items) (R2 : RowI w a2 len2 cap2 q.items) (e0 : (p.kind == q.kind) = true) (e1 : (p.src == q.src) = false) : Calls Tryd.prog 5 #[pkv p a len cap, pkv q a2 len2 cap2] w fun e w' => e = .returned (.bool false) ∧ Below w.heap.size w w' := by
  clear R R2
  go_enter Tryd.func5, Tryd.ntmps5
  go_wp2
  all_goals go_ret
  all_goals exact ⟨by first | rfl | exact C.ret_bool (by simp_all), ((Below.refl _ _).alloc (Nat.le_refl _) _).alloc (by simp) _⟩
set_option maxRecDepth 100000 in
set_option maxHeartbeats 4000000 in
theorem wsame_h2 (p q : Pkt) (a a2 : Option Addr) (len cap len2 cap2 : Nat) (w : World) (R : RowI w a len cap p.items) (R2 : RowI w a2 len2 cap2 q.items) (e0 : (p.kind == q.kind) = true) (e1 : (p.src == q.src) = true) (e2 : (p.dst == q.dst) = false) : Calls Tryd.prog 5 #[pkv p a len cap, pkv q a2 len2 cap2] w fun e w' => e = .returned (.bool false) ∧ Below w.heap.size w w' := by
  clear R R2
  go_enter Tryd.func5, Tryd.ntmps5
  go_wp2
  all_goals go_ret
  all_goals exact ⟨by first | rfl | exact C.ret_bool (by simp_all), ((Below.refl _ _).alloc (Nat.le_refl _) _).alloc (by simp) _⟩
set_option maxRecDepth 100000 in
set_option maxHeartbeats 4000000 in
theorem wsame_h3 (p q : Pkt) (a a2 : Option Addr) (len cap len2 cap2 : Nat) (w : World) (R : RowI w a len cap p.items) (R2 : RowI w a2 len2 cap2 q.items) (e0 : (p.kind == q.kind) = true) (e1 : (p.src == q.src) = true) (e2 : (p.dst == q.dst) = true) (e3 : (p.boot == q.boot) = false) : Calls Tryd.prog 5 #[pkv p a len cap, pkv q a2 len2 cap2] w fun e w' => e = .returned (.bool false) ∧ Below w.heap.size w w' := by
  clear R R2
  go_enter Tryd.func5, Tryd.ntmps5
  go_wp2
  all_goals go_ret
  all_goals exact ⟨by first | rfl | exact C.ret_bool (by simp_all), ((Below.refl _ _).alloc (Nat.le_refl _) _).alloc (by simp) _⟩
set_option maxRecDepth 100000 in
set_option maxHeartbeats 4000000 in
theorem wsame_h4 (p q : Pkt) (a a2 : Option Addr) (len cap len2 cap2 : Nat) (w : World) (R : RowI w a len cap p.items) (R2 : RowI w a2 len2 cap2 q.items) (e0 : (p.kind == q.kind) = true) (e1 : (p.src == q.src) = true) (e2 : (p.dst == q.dst) = true) (e3 : (p.boot == q.boot) = true) (e4 : (p.life == q.life) = false) : Calls Tryd.prog 5 #[pkv p a len cap, pkv q a2 len2 cap2] w fun e w' => e = .returned (.bool false) ∧ Below w.heap.size w w' := by
  clear R R2
  go_enter Tryd.func5, Tryd.ntmps5
  go_wp2
  all_goals go_ret
  all_goals exact ⟨by first | rfl | exact C.ret_bool (by simp_all), ((Below.refl _ _).alloc (Nat.le_refl _) _).alloc (by simp) _⟩
set_option maxRecDepth 100000 in
set_option maxHeartbeats 4000000 in
theorem wsame_h5 (p q : Pkt) (a a2 : Option Addr) (len cap len2 cap2 : Nat) (w : World) (R : RowI w a len cap p.items) (R2 : RowI w a2 len2 cap2 q.items) (e0 : (p.kind == q.kind) = true) (e1 : (p.src == q.src) = true) (e2 : (p.dst == q.dst) = true) (e3 : (p.boot == q.boot) = true) (e4 : (p.life == q.life) = true) (e5 : (p.echo == q.echo) = false) : Calls Tryd.prog 5 #[pkv p a len cap, pkv q a2 len2 cap2] w fun e w' => e = .returned (.bool false) ∧ Below w.heap.size w w' := by
  clear R R2
  go_enter Tryd.func5, Tryd.ntmps5
  go_wp2
  all_goals go_ret
  all_goals exact ⟨by first | rfl | exact C.ret_bool (by simp_all), ((Below.refl _ _).alloc (Nat.le_refl _) _).alloc (by simp) _⟩
set_option maxRecDepth 100000 in
set_option maxHeartbeats 4000000 in
theorem wsame_h6 (p q : Pkt) (a a2 : Option Addr) (len cap len2 cap2 : Nat) (w : World) (R : RowI w a len cap p.items) (R2 : RowI w a2 len2 cap2 q.items) (e0 : (p.kind == q.kind) = true) (e1 : (p.src == q.src) = true) (e2 : (p.dst == q.dst) = true) (e3 : (p.boot == q.boot) = true) (e4 : (p.life == q.life) = true) (e5 : (p.echo == q.echo) = true) (e6 : (p.echoLife == q.echoLife) = false) : Calls Tryd.prog 5 #[pkv p a len cap, pkv q a2 len2 cap2] w fun e w' => e = .returned (.bool false) ∧ Below w.heap.size w w' := by
  clear R R2
  go_enter Tryd.func5, Tryd.ntmps5
  go_wp2
  all_goals go_ret
  all_goals exact ⟨by first | rfl | exact C.ret_bool (by simp_all), ((Below.refl _ _).alloc (Nat.le_refl _) _).alloc (by simp) _⟩
set_option maxRecDepth 100000 in
set_option maxHeartbeats 4000000 in
theorem wsame_its (p q : Pkt) (a a2 : Option Addr) (len cap len2 cap2 : Nat) (w : World) (R : RowI w a len cap p.items) (R2 : RowI w a2 len2 cap2 q.items) (e0 : (p.kind == q.kind) = true) (e1 : (p.src == q.src) = true) (e2 : (p.dst == q.dst) = true) (e3 : (p.boot == q.boot) = true) (e4 : (p.life == q.life) = true) (e5 : (p.echo == q.echo) = true) (e6 : (p.echoLife == q.echoLife) = true) (r : Bool) (hr : ∀ W : World, RowI W a len cap p.items → RowI W a2 len2 cap2 q.items → Calls Tryd.prog 10 #[.slice a len cap, .slice a2 len2 cap2] W fun e w' => e = .returned (.bool r) ∧ Below W.heap.size W w') : Calls Tryd.prog 5 #[pkv p a len cap, pkv q a2 len2 cap2] w fun e w' => e = .returned (.bool r) ∧ Below w.heap.size w w' := by
  have B1 : Below w.heap.size w ((w.alloc (pkObj p a len cap)).alloc (pkObj q a2 len2 cap2)) := ((Below.refl _ _).alloc (Nat.le_refl _) _).alloc (by simp) _
  have HR := (R.alloc (pkObj p a len cap)).alloc (pkObj q a2 len2 cap2)
  have HR2 := (R2.alloc (pkObj p a len cap)).alloc (pkObj q a2 len2 cap2)
  have K := hr _ HR HR2
  clear R R2 hr HR HR2
  go_enter Tryd.func5, Tryd.ntmps5
  go_wp2_with (go_at_call 10; refine K.mono ?_; rintro e w1 ⟨rfl, hb1⟩)
  go_ret
  exact ⟨rfl, B1.trans (hb1.mono (by simp; omega))⟩
theorem wsame_any (p q : Pkt) [Decidable (p = q)] (a a2 : Option Addr) (len cap len2 cap2 : Nat) (w : World) (R : RowI w a len cap p.items) (R2 : RowI w a2 len2 cap2 q.items) : Calls Tryd.prog 5 #[pkv p a len cap, pkv q a2 len2 cap2] w fun e w' => e = .returned (.bool (sameP p q)) ∧ Below w.heap.size w w' := by
  cases e0 : (p.kind == q.kind) with
  | false => rw [sameP_ne (fun h => by rw [h] at e0; simp at e0)]; exact wsame_h0 p q a a2 len cap len2 cap2 w R R2 e0
  | true =>
  cases e1 : (p.src == q.src) with
  | false => rw [sameP_ne (fun h => by rw [h] at e1; simp at e1)]; exact wsame_h1 p q a a2 len cap len2 cap2 w R R2 e0 e1
  | true =>
  cases e2 : (p.dst == q.dst) with
  | false => rw [sameP_ne (fun h => by rw [h] at e2; simp at e2)]; exact wsame_h2 p q a a2 len cap len2 cap2 w R R2 e0 e1 e2
  | true =>
  cases e3 : (p.boot == q.boot) with
  | false => rw [sameP_ne (fun h => by rw [h] at e3; simp at e3)]; exact wsame_h3 p q a a2 len cap len2 cap2 w R R2 e0 e1 e2 e3
  | true =>
  cases e4 : (p.life == q.life) with
  | false => rw [sameP_ne (fun h => by rw [h] at e4; simp at e4)]; exact wsame_h4 p q a a2 len cap len2 cap2 w R R2 e0 e1 e2 e3 e4
  | true =>
  cases e5 : (p.echo == q.echo) with
  | false => rw [sameP_ne (fun h => by rw [h] at e5; simp at e5)]; exact wsame_h5 p q a a2 len cap len2 cap2 w R R2 e0 e1 e2 e3 e4 e5
  | true =>
  cases e6 : (p.echoLife == q.echoLife) with
  | false => rw [sameP_ne (fun h => by rw [h] at e6; simp at e6)]; exact wsame_h6 p q a a2 len cap len2 cap2 w R R2 e0 e1 e2 e3 e4 e5 e6
  | true =>
  refine wsame_its p q a a2 len cap len2 cap2 w R R2 e0 e1 e2 e3 e4 e5 e6 _ ?_
  intro W Q Q2
  have h := sequal_any p.items q.items a a2 len cap len2 cap2 W Q Q2
  refine h.mono ?_
  rintro e w' ⟨rfl, hb⟩
  refine ⟨C.ret_bool ?_, hb⟩
  simp only [beq_iff_eq] at e0 e1 e2 e3 e4 e5 e6
  obtain ⟨pk, ps, pd, pb, pl, pe, pel, pi⟩ := p
  obtain ⟨qk, qs, qd, qb, ql, qe, qel, qi⟩ := q
  simp only at e0 e1 e2 e3 e4 e5 e6
  subst e0 e1 e2 e3 e4 e5 e6
  simp [sameP]

end Go.Proofs.YticmjlnpjopfbabDoor

namespace Go.Proofs.YticmjlnpjopfbabDoor
open Go.ChangeShapes Go.WideShapes Go.ChangeAt Go.RowKit
open S (Tab)
set_option linter.unusedVariables false
set_option linter.unusedSimpArgs false

theorem exec_load24 {o : Oper} {a : Act} {w : World} {xx : Operand} {pb : Nat} {p : Pkt} {ad : Option Addr} {len cap : Nat} (ho : o.op = .load 24 xx) (hx : a.eval xx = .pointer (some ⟨pb, 0, none⟩)) (hc : PkAt w pb p ad len cap) :
    (execOp a.eval o).run Tryd.prog w = .ok (.value (pkv p ad len cap)) w := by
  unfold execOp
  simp only [ho, hx, Instr.loadAt, Instr.sureAddr, Sem.run_bind, Sem.run_pure, Result.andThen_ok, load_agg w pb 0 24 (pkc p ad len cap) _ (fun j v h => by rw [Nat.zero_add]; exact hc j v h) Tryd.underlying24 rfl (by kernel_rfl)]
  rfl
theorem sameP_self (p : Pkt) [Decidable (p = p)] : sameP p p = true := by simp [sameP]
theorem enc_byt {p : Pkt} (hf : fitP p = true) : S.Byt (encP p) := by rw [encP_fit hf]; exact S.byt_frm (bodyP_byte (fitP_ok hf).1) (by have := bodyP_len hf; omega)
theorem enc_same {p q : Pkt} [Decidable (p = q)] (hp : fitP p = true) (hq : fitP q = true) : ((strOfNums (encP p)).toList == (strOfNums (encP q)).toList) = sameP p q := by
  rw [Bool.eq_iff_iff]
  simp only [sameP, beq_iff_eq, decide_eq_true_eq]
  constructor
  · intro h
    have h2 := bytes_ext h
    have e := congrArg C.bytesL h2
    rw [C.bytes_str (enc_byt hp), C.bytes_str (enc_byt hq)] at e
    exact encP_inj hp hq e
  · rintro rfl; rfl

set_option maxRecDepth 100000 in
set_option maxHeartbeats 8000000 in
theorem two_no (p q : Pkt) (a a2 : Option Addr) (len cap len2 cap2 : Nat) (w : World) (R : RowI w a len cap p.items) (R2 : RowI w a2 len2 cap2 q.items) (hb : len * 160 ≤ 140737488355328) (Tw : Tab w) (hf : fitP p = false) :
    Calls Tryd.prog 3 #[pkv p a len cap, pkv q a2 len2 cap2] w fun e w' => e = .returned (.bool true) ∧ Below w.heap.size w w' := by
  haveI : DecidableEq Pkt := fun a b => Classical.propDecidable (a = b)
  obtain ⟨bS, hbS⟩ : ∃ b, sameP p q = b := ⟨_, rfl⟩
  have hnS : (bS != bS) = false := by simp
  have heS : (bS == bS) = true := by simp
  have B0 : Below w.heap.size w ((w.alloc (pkObj p a len cap)).alloc (pkObj q a2 len2 cap2)) := ((Below.refl _ _).alloc (Nat.le_refl _) _).alloc (by simp) _
  have R0 := (R.alloc (pkObj p a len cap)).alloc (pkObj q a2 len2 cap2)
  have Q0 := (R2.alloc (pkObj p a len cap)).alloc (pkObj q a2 len2 cap2)
  have P0 : PkAt ((w.alloc (pkObj p a len cap)).alloc (pkObj q a2 len2 cap2)) w.heap.size p a len cap := (pkAt_new w p a len cap).below ((Below.refl _ _).alloc (Nat.le_refl _) _)
  have P1 : PkAt ((w.alloc (pkObj p a len cap)).alloc (pkObj q a2 len2 cap2)) (w.heap.size + 1) q a2 len2 cap2 := by have := pkAt_new (w.alloc (pkObj p a len cap)) q a2 len2 cap2; rw [World.size_alloc] at this; exact this
  have KS := rsame_any p q a a2 len cap len2 cap2 _ R0 Q0
  rw [hbS] at KS
  have KFp := fun X (R' : RowI X a len cap p.items) => rfit_any p a len cap X R'
  have KFq := fun X (R' : RowI X a2 len2 cap2 q.items) => rfit_any q a2 len2 cap2 X R'
  clear R R2
  rw [hf] at KFp
  go_enter Tryd.func3, Tryd.ntmps3
  go_wp2_with (go_at_call 4; refine KS.mono ?_; rintro e w1 ⟨rfl, hb1⟩)
  obtain ⟨wd, hwd⟩ : ∃ wd, World.drew w1 = wd := ⟨_, rfl⟩
  have B01 : Below w.heap.size w w1 := B0.trans (hb1.mono (by simp; omega))
  have Kp : PkAt wd w.heap.size p a len cap := by rw [← hwd]; exact (P0.below hb1).of_block rfl
  have Kq : PkAt wd (w.heap.size + 1) q a2 len2 cap2 := by rw [← hwd]; exact (P1.below hb1).of_block rfl
  have Rp : RowI wd a len cap p.items := by rw [← hwd]; exact (R0.below hb1).below ((Below.refl _ _).drew)
  have Rq : RowI wd a2 len2 cap2 q.items := by rw [← hwd]; exact (Q0.below hb1).below ((Below.refl _ _).drew)
  have Bd : Below w.heap.size w wd := by rw [← hwd]; exact B01.drew
  clear KS P0 P1 R0 Q0 hb1 B01
  refine wp_region_any (by kernel_rfl) ?_
  change wpAny _ _ _ _ _ _ _ (World.drew _)
  rw [hwd]
  refine S.wpAny_narrow (fun X => Below wd.heap.size wd X) _ _ _ _ ?_
  refine S.anyH_take 0 9 (pkv p a len cap) rfl rfl (by kernel_rfl) (by kernel_rfl) (by kernel_rfl) (fun _ _ _ h => h) (Or.inl ⟨by rfl, by intro w' hSw; exact exec_load24 rfl rfl (Kp.below hSw)⟩) (Below.refl _ _) ?_
  try simp only [Act.put, List.setIfInBounds_toArray, List.set_cons_zero, List.set_cons_succ]
  refine S.anyH_take 1 10 (pkv q a2 len2 cap2) rfl rfl (by kernel_rfl) (by kernel_rfl) (by kernel_rfl) (fun _ _ _ h => h) (Or.inl ⟨by rfl, by intro w' hSw; exact exec_load24 rfl rfl (Kq.below hSw)⟩) (Below.refl _ _) ?_
  try simp only [Act.put, List.setIfInBounds_toArray, List.set_cons_zero, List.set_cons_succ]
  refine S.anyH_take 3 12 (.bool bS) rfl rfl (by kernel_rfl) (by kernel_rfl) (by kernel_rfl) (fun _ _ _ h => h) (Or.inl ⟨by rfl, by intro w hSw; go_simp⟩) (Below.refl _ _) ?_
  try simp only [Act.put, List.setIfInBounds_toArray, List.set_cons_zero, List.set_cons_succ]
  refine wpAnyH_ready (rs := [2]) (by kernel_rfl) (by simp) ?_
  refine AllReadyH.cons rfl (fun K hK => ?_) AllReadyH.nil
  go_simp
  go_wp2_with (go_at_call 5; refine (wsame_any p q a a2 len cap len2 cap2 _ Rp Rq).mono ?_; rintro e w2 ⟨rfl, b2⟩; rw [hbS])
  refine hK.out _ _ (b2) (fun hS => ?_)
  clear hK
  refine S.anyH_take 4 13 (.bool false) rfl rfl (by kernel_rfl) (by kernel_rfl) (by kernel_rfl) (fun _ _ _ h => h) (Or.inl ⟨by rfl, by intro w hSw; go_simp⟩) (b2) ?_
  try simp only [Act.put, List.setIfInBounds_toArray, List.set_cons_zero, List.set_cons_succ]
  refine S.anyH_take 5 14 (.bool false) rfl rfl (by kernel_rfl) (by kernel_rfl) (by kernel_rfl) (fun _ _ _ h => h) (Or.inl ⟨by rfl, by intro w hSw; go_simp⟩) (b2) ?_
  try simp only [Act.put, List.setIfInBounds_toArray, List.set_cons_zero, List.set_cons_succ]
  refine S.anyH_take 6 15 (pkv p a len cap) rfl rfl (by kernel_rfl) (by kernel_rfl) (by kernel_rfl) (fun _ _ _ h => h) (Or.inl ⟨by rfl, by intro w' hSw; exact exec_load24 rfl rfl (Kp.below hSw)⟩) (b2) ?_
  try simp only [Act.put, List.setIfInBounds_toArray, List.set_cons_zero, List.set_cons_succ]
  refine S.anyH_take 7 16 (pkv p a len cap) rfl rfl (by kernel_rfl) (by kernel_rfl) (by kernel_rfl) (fun _ _ _ h => h) (Or.inl ⟨by rfl, by intro w' hSw; exact exec_load24 rfl rfl (Kp.below hSw)⟩) (b2) ?_
  try simp only [Act.put, List.setIfInBounds_toArray, List.set_cons_zero, List.set_cons_succ]
  refine wpAnyH_ready (rs := [8]) (by kernel_rfl) (by simp) ?_
  refine AllReadyH.cons rfl (fun K hK => ?_) AllReadyH.nil
  go_simp
  go_wp2_with (go_at_call 6; refine (copied_any p a len cap _ (Rp.below b2) hb).mono ?_; rintro e w3 ⟨a3, c3, rfl, R3, d3⟩; have b3 : Below wd.heap.size wd w3 := b2.trans (d3.mono b2.size))
  refine hK.out _ _ (b3) (fun hS => ?_)
  clear hK
  refine wpAnyH_ready (rs := [9]) (by kernel_rfl) (by simp) ?_
  refine AllReadyH.cons rfl (fun K hK => ?_) AllReadyH.nil
  go_simp
  go_wp2_with (go_at_call 5; refine (wsame_any p p a a3 len cap len c3 _ (Rp.below b3) R3).mono ?_; rintro e w4 ⟨rfl, d4⟩; rw [sameP_self]; have b4 : Below wd.heap.size wd w4 := b3.trans (d4.mono b3.size))
  refine hK.out _ _ (b4) (fun hS => ?_)
  clear hK
  refine S.anyH_take 10 19 (.bool false) rfl rfl (by kernel_rfl) (by kernel_rfl) (by kernel_rfl) (fun _ _ _ h => h) (Or.inl ⟨by rfl, by intro w hSw; go_simp⟩) (b4) ?_
  try simp only [Act.put, List.setIfInBounds_toArray, List.set_cons_zero, List.set_cons_succ]
  refine S.anyH_take 11 20 (.bool false) rfl rfl (by kernel_rfl) (by kernel_rfl) (by kernel_rfl) (fun _ _ _ h => h) (Or.inl ⟨by rfl, by intro w hSw; go_simp⟩) (b4) ?_
  try simp only [Act.put, List.setIfInBounds_toArray, List.set_cons_zero, List.set_cons_succ]
  refine wpAnyH_done (by kernel_rfl) ?_ _
  have B4 : Below w.heap.size w w4 := Bd.trans (b4.mono Bd.size)
  have PKp := Kp.below b4
  have PKq := Kq.below b4
  have Sp := Rp.below b4
  have Sq := Rq.below b4
  have T4 := Tw.below B4
  clear Kp Kq Rp Rq R3 b2 d3 b3 d4
  go_wp2_with (first
    | (go_at_call 7; refine (KFp _ Sp).mono ?_; rintro e w5 ⟨rfl, d5⟩; clear KFp; have B5 : Below w.heap.size w w5 := B4.trans (d5.mono B4.size))
    | (go_at_call 8; refine (awake_any _ (T4.below d5)).mono ?_; rintro e w6 ⟨rfl, d6⟩)
    | ((with_reducible show wpList _ _ _ (Oper.mk _ (Op.load 24 _) _ _ _ _ :: _) _ _); refine wpList_loadPk _ rfl rfl _ _ _ _ _ PKp rfl ?_)
    | ((with_reducible show wpList _ _ _ (Oper.mk _ (Op.load 24 _) _ _ _ _ :: _) _ _); refine wpList_loadPk _ rfl rfl _ _ _ _ _ PKq rfl ?_))
  go_ret
  exact ⟨rfl, B5.trans (d6.mono B5.size)⟩

set_option maxRecDepth 100000 in
set_option maxHeartbeats 8000000 in
theorem two_no2 (p q : Pkt) (a a2 : Option Addr) (len cap len2 cap2 : Nat) (w : World) (R : RowI w a len cap p.items) (R2 : RowI w a2 len2 cap2 q.items) (hb : len * 160 ≤ 140737488355328) (Tw : Tab w) (hf : fitP p = true) (hg : fitP q = false) :
    Calls Tryd.prog 3 #[pkv p a len cap, pkv q a2 len2 cap2] w fun e w' => e = .returned (.bool true) ∧ Below w.heap.size w w' := by
  haveI : DecidableEq Pkt := fun a b => Classical.propDecidable (a = b)
  obtain ⟨bS, hbS⟩ : ∃ b, sameP p q = b := ⟨_, rfl⟩
  have hnS : (bS != bS) = false := by simp
  have heS : (bS == bS) = true := by simp
  have B0 : Below w.heap.size w ((w.alloc (pkObj p a len cap)).alloc (pkObj q a2 len2 cap2)) := ((Below.refl _ _).alloc (Nat.le_refl _) _).alloc (by simp) _
  have R0 := (R.alloc (pkObj p a len cap)).alloc (pkObj q a2 len2 cap2)
  have Q0 := (R2.alloc (pkObj p a len cap)).alloc (pkObj q a2 len2 cap2)
  have P0 : PkAt ((w.alloc (pkObj p a len cap)).alloc (pkObj q a2 len2 cap2)) w.heap.size p a len cap := (pkAt_new w p a len cap).below ((Below.refl _ _).alloc (Nat.le_refl _) _)
  have P1 : PkAt ((w.alloc (pkObj p a len cap)).alloc (pkObj q a2 len2 cap2)) (w.heap.size + 1) q a2 len2 cap2 := by have := pkAt_new (w.alloc (pkObj p a len cap)) q a2 len2 cap2; rw [World.size_alloc] at this; exact this
  have KS := rsame_any p q a a2 len cap len2 cap2 _ R0 Q0
  rw [hbS] at KS
  have KFp := fun X (R' : RowI X a len cap p.items) => rfit_any p a len cap X R'
  have KFq := fun X (R' : RowI X a2 len2 cap2 q.items) => rfit_any q a2 len2 cap2 X R'
  clear R R2
  rw [hf] at KFp
  rw [hg] at KFq
  go_enter Tryd.func3, Tryd.ntmps3
  go_wp2_with (go_at_call 4; refine KS.mono ?_; rintro e w1 ⟨rfl, hb1⟩)
  obtain ⟨wd, hwd⟩ : ∃ wd, World.drew w1 = wd := ⟨_, rfl⟩
  have B01 : Below w.heap.size w w1 := B0.trans (hb1.mono (by simp; omega))
  have Kp : PkAt wd w.heap.size p a len cap := by rw [← hwd]; exact (P0.below hb1).of_block rfl
  have Kq : PkAt wd (w.heap.size + 1) q a2 len2 cap2 := by rw [← hwd]; exact (P1.below hb1).of_block rfl
  have Rp : RowI wd a len cap p.items := by rw [← hwd]; exact (R0.below hb1).below ((Below.refl _ _).drew)
  have Rq : RowI wd a2 len2 cap2 q.items := by rw [← hwd]; exact (Q0.below hb1).below ((Below.refl _ _).drew)
  have Bd : Below w.heap.size w wd := by rw [← hwd]; exact B01.drew
  clear KS P0 P1 R0 Q0 hb1 B01
  refine wp_region_any (by kernel_rfl) ?_
  change wpAny _ _ _ _ _ _ _ (World.drew _)
  rw [hwd]
  refine S.wpAny_narrow (fun X => Below wd.heap.size wd X) _ _ _ _ ?_
  refine S.anyH_take 0 9 (pkv p a len cap) rfl rfl (by kernel_rfl) (by kernel_rfl) (by kernel_rfl) (fun _ _ _ h => h) (Or.inl ⟨by rfl, by intro w' hSw; exact exec_load24 rfl rfl (Kp.below hSw)⟩) (Below.refl _ _) ?_
  try simp only [Act.put, List.setIfInBounds_toArray, List.set_cons_zero, List.set_cons_succ]
  refine S.anyH_take 1 10 (pkv q a2 len2 cap2) rfl rfl (by kernel_rfl) (by kernel_rfl) (by kernel_rfl) (fun _ _ _ h => h) (Or.inl ⟨by rfl, by intro w' hSw; exact exec_load24 rfl rfl (Kq.below hSw)⟩) (Below.refl _ _) ?_
  try simp only [Act.put, List.setIfInBounds_toArray, List.set_cons_zero, List.set_cons_succ]
  refine S.anyH_take 3 12 (.bool bS) rfl rfl (by kernel_rfl) (by kernel_rfl) (by kernel_rfl) (fun _ _ _ h => h) (Or.inl ⟨by rfl, by intro w hSw; go_simp⟩) (Below.refl _ _) ?_
  try simp only [Act.put, List.setIfInBounds_toArray, List.set_cons_zero, List.set_cons_succ]
  refine wpAnyH_ready (rs := [2]) (by kernel_rfl) (by simp) ?_
  refine AllReadyH.cons rfl (fun K hK => ?_) AllReadyH.nil
  go_simp
  go_wp2_with (go_at_call 5; refine (wsame_any p q a a2 len cap len2 cap2 _ Rp Rq).mono ?_; rintro e w2 ⟨rfl, b2⟩; rw [hbS])
  refine hK.out _ _ (b2) (fun hS => ?_)
  clear hK
  refine S.anyH_take 4 13 (.bool false) rfl rfl (by kernel_rfl) (by kernel_rfl) (by kernel_rfl) (fun _ _ _ h => h) (Or.inl ⟨by rfl, by intro w hSw; go_simp⟩) (b2) ?_
  try simp only [Act.put, List.setIfInBounds_toArray, List.set_cons_zero, List.set_cons_succ]
  refine S.anyH_take 5 14 (.bool false) rfl rfl (by kernel_rfl) (by kernel_rfl) (by kernel_rfl) (fun _ _ _ h => h) (Or.inl ⟨by rfl, by intro w hSw; go_simp⟩) (b2) ?_
  try simp only [Act.put, List.setIfInBounds_toArray, List.set_cons_zero, List.set_cons_succ]
  refine S.anyH_take 6 15 (pkv p a len cap) rfl rfl (by kernel_rfl) (by kernel_rfl) (by kernel_rfl) (fun _ _ _ h => h) (Or.inl ⟨by rfl, by intro w' hSw; exact exec_load24 rfl rfl (Kp.below hSw)⟩) (b2) ?_
  try simp only [Act.put, List.setIfInBounds_toArray, List.set_cons_zero, List.set_cons_succ]
  refine S.anyH_take 7 16 (pkv p a len cap) rfl rfl (by kernel_rfl) (by kernel_rfl) (by kernel_rfl) (fun _ _ _ h => h) (Or.inl ⟨by rfl, by intro w' hSw; exact exec_load24 rfl rfl (Kp.below hSw)⟩) (b2) ?_
  try simp only [Act.put, List.setIfInBounds_toArray, List.set_cons_zero, List.set_cons_succ]
  refine wpAnyH_ready (rs := [8]) (by kernel_rfl) (by simp) ?_
  refine AllReadyH.cons rfl (fun K hK => ?_) AllReadyH.nil
  go_simp
  go_wp2_with (go_at_call 6; refine (copied_any p a len cap _ (Rp.below b2) hb).mono ?_; rintro e w3 ⟨a3, c3, rfl, R3, d3⟩; have b3 : Below wd.heap.size wd w3 := b2.trans (d3.mono b2.size))
  refine hK.out _ _ (b3) (fun hS => ?_)
  clear hK
  refine wpAnyH_ready (rs := [9]) (by kernel_rfl) (by simp) ?_
  refine AllReadyH.cons rfl (fun K hK => ?_) AllReadyH.nil
  go_simp
  go_wp2_with (go_at_call 5; refine (wsame_any p p a a3 len cap len c3 _ (Rp.below b3) R3).mono ?_; rintro e w4 ⟨rfl, d4⟩; rw [sameP_self]; have b4 : Below wd.heap.size wd w4 := b3.trans (d4.mono b3.size))
  refine hK.out _ _ (b4) (fun hS => ?_)
  clear hK
  refine S.anyH_take 10 19 (.bool false) rfl rfl (by kernel_rfl) (by kernel_rfl) (by kernel_rfl) (fun _ _ _ h => h) (Or.inl ⟨by rfl, by intro w hSw; go_simp⟩) (b4) ?_
  try simp only [Act.put, List.setIfInBounds_toArray, List.set_cons_zero, List.set_cons_succ]
  refine S.anyH_take 11 20 (.bool false) rfl rfl (by kernel_rfl) (by kernel_rfl) (by kernel_rfl) (fun _ _ _ h => h) (Or.inl ⟨by rfl, by intro w hSw; go_simp⟩) (b4) ?_
  try simp only [Act.put, List.setIfInBounds_toArray, List.set_cons_zero, List.set_cons_succ]
  refine wpAnyH_done (by kernel_rfl) ?_ _
  have B4 : Below w.heap.size w w4 := Bd.trans (b4.mono Bd.size)
  have PKp := Kp.below b4
  have PKq := Kq.below b4
  have Sp := Rp.below b4
  have Sq := Rq.below b4
  have T4 := Tw.below B4
  clear Kp Kq Rp Rq R3 b2 d3 b3 d4
  go_wp2_with (first
    | (go_at_call 7; refine (KFp _ Sp).mono ?_; rintro e w5 ⟨rfl, d5⟩; clear KFp; have B5 : Below w.heap.size w w5 := B4.trans (d5.mono B4.size); replace PKq := PKq.below d5; replace PKp := PKp.below d5)
    | (go_at_call 7; refine (KFq _ (Sq.below d5)).mono ?_; rintro e w6 ⟨rfl, d6⟩; clear KFq; have B6 : Below w.heap.size w w6 := B5.trans (d6.mono B5.size))
    | (go_at_call 8; refine (awake_any _ ((T4.below d5).below d6)).mono ?_; rintro e w7 ⟨rfl, d7⟩)
    | ((with_reducible show wpList _ _ _ (Oper.mk _ (Op.load 24 _) _ _ _ _ :: _) _ _); refine wpList_loadPk _ rfl rfl _ _ _ _ _ PKp rfl ?_)
    | ((with_reducible show wpList _ _ _ (Oper.mk _ (Op.load 24 _) _ _ _ _ :: _) _ _); refine wpList_loadPk _ rfl rfl _ _ _ _ _ PKq rfl ?_))
  go_ret
  exact ⟨rfl, B6.trans (d7.mono B6.size)⟩

set_option maxRecDepth 100000 in
set_option maxHeartbeats 8000000 in
theorem two_yes (p q : Pkt) (a a2 : Option Addr) (len cap len2 cap2 : Nat) (w : World) (R : RowI w a len cap p.items) (R2 : RowI w a2 len2 cap2 q.items) (hb : len * 160 ≤ 140737488355328) (Tw : Tab w) (hf : fitP p = true) (hg : fitP q = true) :
    Calls Tryd.prog 3 #[pkv p a len cap, pkv q a2 len2 cap2] w fun e w' => e = .returned (.bool true) ∧ Below w.heap.size w w' := by
  haveI : DecidableEq Pkt := fun a b => Classical.propDecidable (a = b)
  have hcmp0 := enc_same hf hg
  have hbyp := enc_byt hf
  have hbyq := enc_byt hg
  obtain ⟨bS, hbS⟩ : ∃ b, sameP p q = b := ⟨_, rfl⟩
  have hnS : (bS != bS) = false := by simp
  have heS : (bS == bS) = true := by simp
  have B0 : Below w.heap.size w ((w.alloc (pkObj p a len cap)).alloc (pkObj q a2 len2 cap2)) := ((Below.refl _ _).alloc (Nat.le_refl _) _).alloc (by simp) _
  have R0 := (R.alloc (pkObj p a len cap)).alloc (pkObj q a2 len2 cap2)
  have Q0 := (R2.alloc (pkObj p a len cap)).alloc (pkObj q a2 len2 cap2)
  have P0 : PkAt ((w.alloc (pkObj p a len cap)).alloc (pkObj q a2 len2 cap2)) w.heap.size p a len cap := (pkAt_new w p a len cap).below ((Below.refl _ _).alloc (Nat.le_refl _) _)
  have P1 : PkAt ((w.alloc (pkObj p a len cap)).alloc (pkObj q a2 len2 cap2)) (w.heap.size + 1) q a2 len2 cap2 := by have := pkAt_new (w.alloc (pkObj p a len cap)) q a2 len2 cap2; rw [World.size_alloc] at this; exact this
  have KS := rsame_any p q a a2 len cap len2 cap2 _ R0 Q0
  rw [hbS] at KS
  have KFp := fun X (R' : RowI X a len cap p.items) => rfit_any p a len cap X R'
  have KFq := fun X (R' : RowI X a2 len2 cap2 q.items) => rfit_any q a2 len2 cap2 X R'
  clear R R2
  rw [hf] at KFp
  rw [hg] at KFq
  rw [hbS] at hcmp0
  obtain ⟨es, hes⟩ : ∃ s, strOfNums (encP p) = s := ⟨_, rfl⟩
  obtain ⟨et, het⟩ : ∃ s, strOfNums (encP q) = s := ⟨_, rfl⟩
  have hcmp : (es.toList == et.toList) = bS := by rw [← hes, ← het]; exact hcmp0
  clear hcmp0
  go_enter Tryd.func3, Tryd.ntmps3
  go_wp2_with (go_at_call 4; refine KS.mono ?_; rintro e w1 ⟨rfl, hb1⟩)
  obtain ⟨wd, hwd⟩ : ∃ wd, World.drew w1 = wd := ⟨_, rfl⟩
  have B01 : Below w.heap.size w w1 := B0.trans (hb1.mono (by simp; omega))
  have Kp : PkAt wd w.heap.size p a len cap := by rw [← hwd]; exact (P0.below hb1).of_block rfl
  have Kq : PkAt wd (w.heap.size + 1) q a2 len2 cap2 := by rw [← hwd]; exact (P1.below hb1).of_block rfl
  have Rp : RowI wd a len cap p.items := by rw [← hwd]; exact (R0.below hb1).below ((Below.refl _ _).drew)
  have Rq : RowI wd a2 len2 cap2 q.items := by rw [← hwd]; exact (Q0.below hb1).below ((Below.refl _ _).drew)
  have Bd : Below w.heap.size w wd := by rw [← hwd]; exact B01.drew
  clear KS P0 P1 R0 Q0 hb1 B01
  refine wp_region_any (by kernel_rfl) ?_
  change wpAny _ _ _ _ _ _ _ (World.drew _)
  rw [hwd]
  refine S.wpAny_narrow (fun X => Below wd.heap.size wd X) _ _ _ _ ?_
  refine S.anyH_take 0 9 (pkv p a len cap) rfl rfl (by kernel_rfl) (by kernel_rfl) (by kernel_rfl) (fun _ _ _ h => h) (Or.inl ⟨by rfl, by intro w' hSw; exact exec_load24 rfl rfl (Kp.below hSw)⟩) (Below.refl _ _) ?_
  try simp only [Act.put, List.setIfInBounds_toArray, List.set_cons_zero, List.set_cons_succ]
  refine S.anyH_take 1 10 (pkv q a2 len2 cap2) rfl rfl (by kernel_rfl) (by kernel_rfl) (by kernel_rfl) (fun _ _ _ h => h) (Or.inl ⟨by rfl, by intro w' hSw; exact exec_load24 rfl rfl (Kq.below hSw)⟩) (Below.refl _ _) ?_
  try simp only [Act.put, List.setIfInBounds_toArray, List.set_cons_zero, List.set_cons_succ]
  refine S.anyH_take 3 12 (.bool bS) rfl rfl (by kernel_rfl) (by kernel_rfl) (by kernel_rfl) (fun _ _ _ h => h) (Or.inl ⟨by rfl, by intro w hSw; go_simp⟩) (Below.refl _ _) ?_
  try simp only [Act.put, List.setIfInBounds_toArray, List.set_cons_zero, List.set_cons_succ]
  refine wpAnyH_ready (rs := [2]) (by kernel_rfl) (by simp) ?_
  refine AllReadyH.cons rfl (fun K hK => ?_) AllReadyH.nil
  go_simp
  go_wp2_with (go_at_call 5; refine (wsame_any p q a a2 len cap len2 cap2 _ Rp Rq).mono ?_; rintro e w2 ⟨rfl, b2⟩; rw [hbS])
  refine hK.out _ _ (b2) (fun hS => ?_)
  clear hK
  refine S.anyH_take 4 13 (.bool false) rfl rfl (by kernel_rfl) (by kernel_rfl) (by kernel_rfl) (fun _ _ _ h => h) (Or.inl ⟨by rfl, by intro w hSw; go_simp⟩) (b2) ?_
  try simp only [Act.put, List.setIfInBounds_toArray, List.set_cons_zero, List.set_cons_succ]
  refine S.anyH_take 5 14 (.bool false) rfl rfl (by kernel_rfl) (by kernel_rfl) (by kernel_rfl) (fun _ _ _ h => h) (Or.inl ⟨by rfl, by intro w hSw; go_simp⟩) (b2) ?_
  try simp only [Act.put, List.setIfInBounds_toArray, List.set_cons_zero, List.set_cons_succ]
  refine S.anyH_take 6 15 (pkv p a len cap) rfl rfl (by kernel_rfl) (by kernel_rfl) (by kernel_rfl) (fun _ _ _ h => h) (Or.inl ⟨by rfl, by intro w' hSw; exact exec_load24 rfl rfl (Kp.below hSw)⟩) (b2) ?_
  try simp only [Act.put, List.setIfInBounds_toArray, List.set_cons_zero, List.set_cons_succ]
  refine S.anyH_take 7 16 (pkv p a len cap) rfl rfl (by kernel_rfl) (by kernel_rfl) (by kernel_rfl) (fun _ _ _ h => h) (Or.inl ⟨by rfl, by intro w' hSw; exact exec_load24 rfl rfl (Kp.below hSw)⟩) (b2) ?_
  try simp only [Act.put, List.setIfInBounds_toArray, List.set_cons_zero, List.set_cons_succ]
  refine wpAnyH_ready (rs := [8]) (by kernel_rfl) (by simp) ?_
  refine AllReadyH.cons rfl (fun K hK => ?_) AllReadyH.nil
  go_simp
  go_wp2_with (go_at_call 6; refine (copied_any p a len cap _ (Rp.below b2) hb).mono ?_; rintro e w3 ⟨a3, c3, rfl, R3, d3⟩; have b3 : Below wd.heap.size wd w3 := b2.trans (d3.mono b2.size))
  refine hK.out _ _ (b3) (fun hS => ?_)
  clear hK
  refine wpAnyH_ready (rs := [9]) (by kernel_rfl) (by simp) ?_
  refine AllReadyH.cons rfl (fun K hK => ?_) AllReadyH.nil
  go_simp
  go_wp2_with (go_at_call 5; refine (wsame_any p p a a3 len cap len c3 _ (Rp.below b3) R3).mono ?_; rintro e w4 ⟨rfl, d4⟩; rw [sameP_self]; have b4 : Below wd.heap.size wd w4 := b3.trans (d4.mono b3.size))
  refine hK.out _ _ (b4) (fun hS => ?_)
  clear hK
  refine S.anyH_take 10 19 (.bool false) rfl rfl (by kernel_rfl) (by kernel_rfl) (by kernel_rfl) (fun _ _ _ h => h) (Or.inl ⟨by rfl, by intro w hSw; go_simp⟩) (b4) ?_
  try simp only [Act.put, List.setIfInBounds_toArray, List.set_cons_zero, List.set_cons_succ]
  refine S.anyH_take 11 20 (.bool false) rfl rfl (by kernel_rfl) (by kernel_rfl) (by kernel_rfl) (fun _ _ _ h => h) (Or.inl ⟨by rfl, by intro w hSw; go_simp⟩) (b4) ?_
  try simp only [Act.put, List.setIfInBounds_toArray, List.set_cons_zero, List.set_cons_succ]
  refine wpAnyH_done (by kernel_rfl) ?_ _
  have B4 : Below w.heap.size w w4 := Bd.trans (b4.mono Bd.size)
  have PKp := Kp.below b4
  have PKq := Kq.below b4
  have Sp := Rp.below b4
  have Sq := Rq.below b4
  have T4 := Tw.below B4
  clear Kp Kq Rp Rq R3 b2 d3 b3 d4
  go_wp2_with (first
    | (go_at_call 7; refine (KFp _ Sp).mono ?_; rintro e w5 ⟨rfl, d5⟩; clear KFp; have B5 : Below w.heap.size w w5 := B4.trans (d5.mono B4.size); replace PKq := PKq.below d5; replace PKp := PKp.below d5)
    | (go_at_call 7; refine (KFq _ (Sq.below d5)).mono ?_; rintro e w6 ⟨rfl, d6⟩; clear KFq; have B6 : Below w.heap.size w w6 := B5.trans (d6.mono B5.size))
    | ((with_reducible show wpList _ _ _ (Oper.mk _ (Op.load 24 _) _ _ _ _ :: _) _ _); refine wpList_loadPk _ rfl rfl _ _ _ _ _ PKp rfl ?_)
    | ((with_reducible show wpList _ _ _ (Oper.mk _ (Op.load 24 _) _ _ _ _ :: _) _ _); refine wpList_loadPk _ rfl rfl _ _ _ _ _ PKq rfl ?_))
  obtain ⟨we, hwe⟩ : ∃ we, World.drew w6 = we := ⟨_, rfl⟩
  have Mp : PkAt we w.heap.size p a len cap := by rw [← hwe]; exact (PKp.below d6).of_block rfl
  have Mq : PkAt we (w.heap.size + 1) q a2 len2 cap2 := by rw [← hwe]; exact (PKq.below d6).of_block rfl
  have Qp : RowI we a len cap p.items := by rw [← hwe]; exact ((Sp.below d5).below d6).below ((Below.refl _ _).drew)
  have Qq : RowI we a2 len2 cap2 q.items := by rw [← hwe]; exact ((Sq.below d5).below d6).below ((Below.refl _ _).drew)
  have Be : Below w.heap.size w we := by rw [← hwe]; exact B6.drew
  have Te := Tw.below Be
  clear PKp PKq Sp Sq T4 d5 d6 B5 B6
  refine wp_region_any (by kernel_rfl) ?_
  change wpAny _ _ _ _ _ _ _ (World.drew _)
  rw [hwe]
  refine S.wpAny_narrow (fun X => Below we.heap.size we X) _ _ _ _ ?_
  refine S.anyH_take 0 30 (pkv p a len cap) rfl rfl (by kernel_rfl) (by kernel_rfl) (by kernel_rfl) (fun _ _ _ h => h) (Or.inl ⟨by rfl, by intro w' hSw; exact exec_load24 rfl rfl (Mp.below hSw)⟩) (Below.refl _ _) ?_
  try simp only [Act.put, List.setIfInBounds_toArray, List.set_cons_zero, List.set_cons_succ]
  refine S.anyH_take 3 33 (pkv q a2 len2 cap2) rfl rfl (by kernel_rfl) (by kernel_rfl) (by kernel_rfl) (fun _ _ _ h => h) (Or.inl ⟨by rfl, by intro w' hSw; exact exec_load24 rfl rfl (Mq.below hSw)⟩) (Below.refl _ _) ?_
  try simp only [Act.put, List.setIfInBounds_toArray, List.set_cons_zero, List.set_cons_succ]
  refine S.anyH_take 7 37 (.bool bS) rfl rfl (by kernel_rfl) (by kernel_rfl) (by kernel_rfl) (fun _ _ _ h => h) (Or.inl ⟨by rfl, by intro w hSw; go_simp⟩) (Below.refl _ _) ?_
  try simp only [Act.put, List.setIfInBounds_toArray, List.set_cons_zero, List.set_cons_succ]
  refine wpAnyH_ready (rs := [1]) (by kernel_rfl) (by simp) ?_
  refine AllReadyH.cons rfl (fun K hK => ?_) AllReadyH.nil
  go_simp
  go_wp2_with (go_at_call 9; refine (encode_any p a len cap _ Qp Te).mono ?_; rintro e w7 ⟨v7, rfl, o7, d7⟩; obtain ⟨a7, n7, c7, rfl, r7, hn7⟩ := o7.row' hbyp; clear hn7)
  refine hK.out _ _ (d7) (fun hS => ?_)
  clear hK
  refine S.wpAnyH_narrow (fun X => Below w7.heap.size w7 X) (fun _ h => d7.trans (h.mono d7.size)) _ _ _ _ ?_
  refine S.anyH_take 2 32 (.string es) rfl rfl (by kernel_rfl) (by kernel_rfl) (by kernel_rfl) (fun _ _ _ h => h) (Or.inl ⟨by rfl, by intro w hSw; have kk := S.conv_row (r7.below hSw); rw [hes] at kk; go_simp⟩) (Below.refl _ _) ?_
  try simp only [Act.put, List.setIfInBounds_toArray, List.set_cons_zero, List.set_cons_succ]
  refine wpAnyH_ready (rs := [4]) (by kernel_rfl) (by simp) ?_
  refine AllReadyH.cons rfl (fun K hK => ?_) AllReadyH.nil
  go_simp
  go_wp2_with (go_at_call 9; refine (encode_any q a2 len2 cap2 _ (Qq.below d7) (Te.below d7)).mono ?_; rintro e w8 ⟨v8, rfl, o8, d8⟩; obtain ⟨a8, n8, c8, rfl, r8, hn8⟩ := o8.row' hbyq; clear hn8)
  refine hK.out _ _ (d8) (fun hS => ?_)
  clear hK
  refine S.wpAnyH_narrow (fun X => Below w8.heap.size w8 X) (fun _ h => d8.trans (h.mono d8.size)) _ _ _ _ ?_
  refine S.anyH_take 5 35 (.string et) rfl rfl (by kernel_rfl) (by kernel_rfl) (by kernel_rfl) (fun _ _ _ h => h) (Or.inl ⟨by rfl, by intro w hSw; have kk := S.conv_row (r8.below hSw); rw [het] at kk; go_simp⟩) (Below.refl _ _) ?_
  try simp only [Act.put, List.setIfInBounds_toArray, List.set_cons_zero, List.set_cons_succ]
  refine S.anyH_take 6 36 (.bool bS) rfl rfl (by kernel_rfl) (by kernel_rfl) (by kernel_rfl) (fun _ _ _ h => h) (Or.inl ⟨by rfl, by intro w hSw; go_simp⟩) (Below.refl _ _) ?_
  try simp only [Act.put, List.setIfInBounds_toArray, List.set_cons_zero, List.set_cons_succ]
  refine S.anyH_take 8 38 (.bool true) rfl rfl (by kernel_rfl) (by kernel_rfl) (by kernel_rfl) (fun _ _ _ h => h) (Or.inl ⟨by rfl, by intro w hSw; go_simp⟩) (Below.refl _ _) ?_
  try simp only [Act.put, List.setIfInBounds_toArray, List.set_cons_zero, List.set_cons_succ]
  refine S.anyH_take 9 39 (.bool true) rfl rfl (by kernel_rfl) (by kernel_rfl) (by kernel_rfl) (fun _ _ _ h => h) (Or.inl ⟨by rfl, by intro w hSw; go_simp⟩) (Below.refl _ _) ?_
  try simp only [Act.put, List.setIfInBounds_toArray, List.set_cons_zero, List.set_cons_succ]
  refine wpAnyH_ready (rs := [10]) (by kernel_rfl) (by simp) ?_
  refine AllReadyH.cons rfl (fun K hK => ?_) AllReadyH.nil
  go_simp
  go_wp2_with (go_at_call 8; refine (awake_any _ ((Te.below d7).below d8)).mono ?_; rintro e w9 ⟨rfl, d9⟩)
  refine hK.out _ _ (d9) (fun hS => ?_)
  clear hK
  refine S.anyH_take 11 41 (.bool true) rfl rfl (by kernel_rfl) (by kernel_rfl) (by kernel_rfl) (fun _ _ _ h => h) (Or.inl ⟨by rfl, by intro w hSw; go_simp⟩) (d9) ?_
  try simp only [Act.put, List.setIfInBounds_toArray, List.set_cons_zero, List.set_cons_succ]
  refine S.anyH_take 12 4 (.bool true) rfl rfl (by kernel_rfl) (by kernel_rfl) (by kernel_rfl) (fun _ _ _ h => h) (Or.inl ⟨by rfl, by intro w hSw; go_simp⟩) (d9) ?_
  try simp only [Act.put, List.setIfInBounds_toArray, List.set_cons_zero, List.set_cons_succ]
  refine wpAnyH_done (by kernel_rfl) ?_ _
  go_wp2
  go_ret
  have b78 : Below we.heap.size we w8 := d7.trans (d8.mono d7.size)
  have b89 : Below we.heap.size we w9 := b78.trans (d9.mono b78.size)
  exact ⟨rfl, Be.trans (b89.mono Be.size)⟩
theorem two_walk (p q : Pkt) (a a2 : Option Addr) (len cap len2 cap2 : Nat) (w : World) (R : RowI w a len cap p.items) (R2 : RowI w a2 len2 cap2 q.items) (hb : len * 160 ≤ 140737488355328) (Tw : Tab w) :
    Calls Tryd.prog 3 #[pkv p a len cap, pkv q a2 len2 cap2] w fun e w' => e = .returned (.bool true) ∧ Below w.heap.size w w' := by
  cases hf : fitP p with
  | false => exact two_no p q a a2 len cap len2 cap2 w R R2 hb Tw hf
  | true =>
    cases hg : fitP q with
    | false => exact two_no2 p q a a2 len cap len2 cap2 w R R2 hb Tw hf hg
    | true => exact two_yes p q a a2 len cap len2 cap2 w R R2 hb Tw hf hg

end Go.Proofs.YticmjlnpjopfbabDoor

namespace Go.Proofs.YticmjlnpjopfbabDoor
structure itRg (x : Itm) : Prop where
  flow : -9223372036854775808 ≤ x.flow ∧ x.flow ≤ 9223372036854775807
  rest : -9223372036854775808 ≤ x.rest ∧ x.rest ≤ 9223372036854775807
  mn : -9223372036854775808 ≤ x.mn.value ∧ x.mn.value ≤ 9223372036854775807
  mx : -9223372036854775808 ≤ x.mx.value ∧ x.mx.value ≤ 9223372036854775807
end Go.Proofs.YticmjlnpjopfbabDoor

namespace Go.Proofs.YticmjlnpjopfbabDoor
open Go.ChangeShapes Go.WideShapes Go.ChangeAt Go.RowKit
set_option linter.unusedVariables false

theorem cell_int {P : Program} {w : World} {r : Reach} {b t : Nat} {k : IntKind} {v : Value} (ht : P.underlying t = some (.int k)) (h : Cell.okWide P w r b t v) : ∃ n, v = .int k n ∧ k.has n := by
  simp only [Cell.okWide, Cell.ok, ht] at h
  cases v <;> simp_all
theorem cell_bool {P : Program} {w : World} {r : Reach} {b t : Nat} {v : Value} (ht : P.underlying t = some .bool) (h : Cell.okWide P w r b t v) : ∃ n, v = .bool n := by
  simp only [Cell.okWide, Cell.ok, ht] at h
  cases v <;> simp_all
theorem cell_string {P : Program} {w : World} {r : Reach} {b t : Nat} {v : Value} (ht : P.underlying t = some .string) (h : Cell.okWide P w r b t v) : ∃ n, v = .string n ∧ (n.size : Int) ≤ IntKind.i64.max := by
  simp only [Cell.okWide, Cell.ok, ht] at h
  cases v <;> simp_all
theorem okWide_cell {P : Program} {w : World} {r : Reach} {b t : Nat} {v : Value} (h : Value.okWide P w r b t v) (ht : (match P.underlying t with | some (.struct _) => false | some (.array _ _) => false | _ => true) = true) : Cell.okWide P w r b t v := by
  unfold Value.okWide at h
  split at h <;> simp_all

/-- The numbers of an item are 64 bits wide. -/
structure itWf (x : Itm) : Prop where
  name : (x.name.size : Int) ≤ IntKind.i64.max
  epoch : IntKind.i64.has x.epoch
  maker : IntKind.i64.has x.maker
  kind : IntKind.i64.has x.kind
  scale : IntKind.i64.has x.scale
  ver : IntKind.i64.has x.ver
  writer : IntKind.i64.has x.writer
  flow : IntKind.i64.has x.flow
  rest : IntKind.i64.has x.rest
  mnv : IntKind.i64.has x.mn.value
  mno : IntKind.i64.has x.mn.origin
  mna : IntKind.i64.has x.mn.age
  mxv : IntKind.i64.has x.mx.value
  mxo : IntKind.i64.has x.mx.origin
  mxa : IntKind.i64.has x.mx.age
theorem cells38 : Tryd.prog.cellsOf 38 = 19 := by kernel_rfl
theorem types38 : Tryd.prog.cellTypes Tryd.prog.depth 38 = some [9, 2, 3, 4, 3, 2, 2, 3, 2, 4, 2, 4, 2, 3, 2, 4, 2, 3, 2] := by kernel_rfl
set_option maxRecDepth 100000 in
theorem open_item {w : World} {r : Reach} {b : Nat} {v : Value} (h : Value.okWide Tryd.prog w r b 38 v) : ∃ x : Itm, v = itv x ∧ itWf x := by
  simp only [Value.okWide, Tryd.underlying38] at h
  obtain ⟨cs, rfl, hsz, ts, hts, _, hc⟩ := h
  rw [cells38] at hsz
  rw [types38] at hts
  cases hts
  have key : ∀ (i : Nat) (t : Nat), i < 19 → [9, 2, 3, 4, 3, 2, 2, 3, 2, 4, 2, 4, 2, 3, 2, 4, 2, 3, 2][i]? = some t → ∃ v, cs[i]? = some v ∧ Cell.okWide Tryd.prog w r b t v := by
    intro i t hi ht
    have hlt : i < cs.size := by rw [hsz]; exact hi
    obtain ⟨u, hu, hk⟩ := hc i (cs[i]'hlt) (Array.getElem?_eq_getElem hlt)
    rw [show ([9, 2, 3, 4, 3, 2, 2, 3, 2, 4, 2, 4, 2, 3, 2, 4, 2, 3, 2] : List Nat).length = 19 from rfl, Nat.mod_eq_of_lt hi, ht] at hu
    cases hu
    exact ⟨_, Array.getElem?_eq_getElem hlt, hk⟩
  obtain ⟨v0, c0, k0⟩ := key 0 9 (by omega) rfl
  obtain ⟨v1, c1, k1⟩ := key 1 2 (by omega) rfl
  obtain ⟨v2, c2, k2⟩ := key 2 3 (by omega) rfl
  obtain ⟨v3, c3, k3⟩ := key 3 4 (by omega) rfl
  obtain ⟨v4, c4, k4⟩ := key 4 3 (by omega) rfl
  obtain ⟨v5, c5, k5⟩ := key 5 2 (by omega) rfl
  obtain ⟨v6, c6, k6⟩ := key 6 2 (by omega) rfl
  obtain ⟨v7, c7, k7⟩ := key 7 3 (by omega) rfl
  obtain ⟨v8, c8, k8⟩ := key 8 2 (by omega) rfl
  obtain ⟨v9, c9, k9⟩ := key 9 4 (by omega) rfl
  obtain ⟨v10, c10, k10⟩ := key 10 2 (by omega) rfl
  obtain ⟨v11, c11, k11⟩ := key 11 4 (by omega) rfl
  obtain ⟨v12, c12, k12⟩ := key 12 2 (by omega) rfl
  obtain ⟨v13, c13, k13⟩ := key 13 3 (by omega) rfl
  obtain ⟨v14, c14, k14⟩ := key 14 2 (by omega) rfl
  obtain ⟨v15, c15, k15⟩ := key 15 4 (by omega) rfl
  obtain ⟨v16, c16, k16⟩ := key 16 2 (by omega) rfl
  obtain ⟨v17, c17, k17⟩ := key 17 3 (by omega) rfl
  obtain ⟨v18, c18, k18⟩ := key 18 2 (by omega) rfl
  obtain ⟨x0, rfl, h0⟩ := cell_string Tryd.underlying9 k0
  obtain ⟨x1, rfl, h1⟩ := cell_int Tryd.underlying2 k1
  obtain ⟨x2, rfl, h2⟩ := cell_int Tryd.underlying3 k2
  obtain ⟨x3, rfl⟩ := cell_bool Tryd.underlying4 k3
  obtain ⟨x4, rfl, h4⟩ := cell_int Tryd.underlying3 k4
  obtain ⟨x5, rfl, h5⟩ := cell_int Tryd.underlying2 k5
  obtain ⟨x6, rfl, h6⟩ := cell_int Tryd.underlying2 k6
  obtain ⟨x7, rfl, h7⟩ := cell_int Tryd.underlying3 k7
  obtain ⟨x8, rfl, h8⟩ := cell_int Tryd.underlying2 k8
  obtain ⟨x9, rfl⟩ := cell_bool Tryd.underlying4 k9
  obtain ⟨x10, rfl, h10⟩ := cell_int Tryd.underlying2 k10
  obtain ⟨x11, rfl⟩ := cell_bool Tryd.underlying4 k11
  obtain ⟨x12, rfl, h12⟩ := cell_int Tryd.underlying2 k12
  obtain ⟨x13, rfl, h13⟩ := cell_int Tryd.underlying3 k13
  obtain ⟨x14, rfl, h14⟩ := cell_int Tryd.underlying2 k14
  obtain ⟨x15, rfl⟩ := cell_bool Tryd.underlying4 k15
  obtain ⟨x16, rfl, h16⟩ := cell_int Tryd.underlying2 k16
  obtain ⟨x17, rfl, h17⟩ := cell_int Tryd.underlying3 k17
  obtain ⟨x18, rfl, h18⟩ := cell_int Tryd.underlying2 k18
  refine ⟨⟨x0, x1, x2, x3, x4, x5, x6, x7, x8, x9, x10, ⟨x11, x12, x13, x14⟩, ⟨x15, x16, x17, x18⟩⟩, ?_, ⟨h0, h1, h2, h4, h5, h6, h7, h8, h10, h12, h13, h14, h16, h17, h18⟩⟩
  have e : cs = (itc ⟨x0, x1, x2, x3, x4, x5, x6, x7, x8, x9, x10, ⟨x11, x12, x13, x14⟩, ⟨x15, x16, x17, x18⟩⟩).toArray := by
    apply Array.ext_getElem?
    intro i
    by_cases hi : i < 19
    · match i, hi with
      | 0, _ => exact c0
      | 1, _ => exact c1
      | 2, _ => exact c2
      | 3, _ => exact c3
      | 4, _ => exact c4
      | 5, _ => exact c5
      | 6, _ => exact c6
      | 7, _ => exact c7
      | 8, _ => exact c8
      | 9, _ => exact c9
      | 10, _ => exact c10
      | 11, _ => exact c11
      | 12, _ => exact c12
      | 13, _ => exact c13
      | 14, _ => exact c14
      | 15, _ => exact c15
      | 16, _ => exact c16
      | 17, _ => exact c17
      | 18, _ => exact c18
      | n + 19, h => exact absurd h (by omega)
    · rw [Array.getElem?_eq_none (by omega), Array.getElem?_eq_none (by simp [itc]; omega)]
  rw [e]
  rfl

end Go.Proofs.YticmjlnpjopfbabDoor

namespace Go.Proofs.YticmjlnpjopfbabDoor
open Go.ChangeShapes Go.WideShapes Go.ChangeAt Go.RowKit Go.Deep
set_option linter.unusedVariables false
set_option linter.unusedSimpArgs false
set_option maxRecDepth 100000

theorem cn2 : Tryd.prog.cellsOf 2 = 1 := by kernel_rfl
theorem cn3 : Tryd.prog.cellsOf 3 = 1 := by kernel_rfl
theorem cn4 : Tryd.prog.cellsOf 4 = 1 := by kernel_rfl
theorem cn9 : Tryd.prog.cellsOf 9 = 1 := by kernel_rfl
theorem cn32 : Tryd.prog.cellsOf 32 = 6 := by kernel_rfl
theorem cn34 : Tryd.prog.cellsOf 34 = 3 := by kernel_rfl
theorem cn36 : Tryd.prog.cellsOf 36 = 4 := by kernel_rfl
theorem cn38 : Tryd.prog.cellsOf 38 = 19 := by kernel_rfl
theorem wf_bd {n : Int} (h : (Lit.int .i64 n).wf = true) : -9223372036854775808 ≤ n ∧ n ≤ 9223372036854775807 := by
  have h2 : IntKind.i64.max = 9223372036854775807 := rfl
  have h3 : IntKind.i64.min = -9223372036854775808 := rfl
  simp only [Lit.wf, Bool.and_eq_true, decide_eq_true_eq, h2, h3] at h
  exact h

section
variable {H : Type} {enc : TypeId × Value → H} {W : World} {base n : Nat} {sp : Nat → Bool} {held : Bool} {x : DataW H × List MemPlace}
theorem open_chan {v0 v1 v2 v3 v4 v5 : Value} (h : DataW.trod enc Tryd.prog W base sp held n 32 [v0, v1, v2, v3, v4, v5] = some x) :
    ∃ (x0 : ByteArray) (x1 : Int) (x2 : Int) (x3 : Bool) (x4 : Int) (x5 : Int), (v0 = .string x0 ∧ v1 = .int .i64 x1 ∧ v2 = .int .i64 x2 ∧ v3 = .bool x3 ∧ v4 = .int .i64 x4 ∧ v5 = .int .i64 x5) ∧ ((-9223372036854775808 ≤ x1 ∧ x1 ≤ 9223372036854775807) ∧ (-9223372036854775808 ≤ x2 ∧ x2 ≤ 9223372036854775807) ∧ (-9223372036854775808 ≤ x4 ∧ x4 ≤ 9223372036854775807) ∧ (-9223372036854775808 ≤ x5 ∧ x5 ≤ 9223372036854775807)) := by
  obtain ⟨xs, k, hk, hxy, _, hxl, hf⟩ := DataW.trod_struct Tryd.underlying32 h
  match xs, hxl with
  | [y0, y1, y2, y3, y4, y5], _ =>
  have e0 := hf 0 _ rfl
  have e1 := hf 1 _ rfl
  have e2 := hf 2 _ rfl
  have e3 := hf 3 _ rfl
  have e4 := hf 4 _ rfl
  have e5 := hf 5 _ rfl
  simp [cn9] at e0
  simp [cn2] at e1
  simp [cn3] at e2
  simp [cn4] at e3
  simp [cn3] at e4
  simp [cn2] at e5
  obtain ⟨x0, q0, _, w0⟩ := DataW.trod_string Tryd.underlying9 e0
  obtain ⟨x1, q1, _, w1⟩ := DataW.trod_int Tryd.underlying2 e1
  obtain ⟨x2, q2, _, w2⟩ := DataW.trod_int Tryd.underlying3 e2
  obtain ⟨x3, q3, _⟩ := DataW.trod_bool Tryd.underlying4 e3
  obtain ⟨x4, q4, _, w4⟩ := DataW.trod_int Tryd.underlying3 e4
  obtain ⟨x5, q5, _, w5⟩ := DataW.trod_int Tryd.underlying2 e5
  simp at q0 q1 q2 q3 q4 q5
  exact ⟨x0, x1, x2, x3, x4, x5, ⟨q0, q1, q2, q3, q4, q5⟩, wf_bd w1, wf_bd w2, wf_bd w4, wf_bd w5⟩
theorem open_reg {v0 v1 v2 : Value} (h : DataW.trod enc Tryd.prog W base sp held n 34 [v0, v1, v2] = some x) :
    ∃ (x0 : Int) (x1 : Int) (x2 : Int), (v0 = .int .i64 x0 ∧ v1 = .int .i64 x1 ∧ v2 = .int .i64 x2) ∧ ((-9223372036854775808 ≤ x0 ∧ x0 ≤ 9223372036854775807) ∧ (-9223372036854775808 ≤ x1 ∧ x1 ≤ 9223372036854775807) ∧ (-9223372036854775808 ≤ x2 ∧ x2 ≤ 9223372036854775807)) := by
  obtain ⟨xs, k, hk, hxy, _, hxl, hf⟩ := DataW.trod_struct Tryd.underlying34 h
  match xs, hxl with
  | [y0, y1, y2], _ =>
  have e0 := hf 0 _ rfl
  have e1 := hf 1 _ rfl
  have e2 := hf 2 _ rfl
  simp [cn2] at e0
  simp [cn3] at e1
  simp [cn2] at e2
  obtain ⟨x0, q0, _, w0⟩ := DataW.trod_int Tryd.underlying2 e0
  obtain ⟨x1, q1, _, w1⟩ := DataW.trod_int Tryd.underlying3 e1
  obtain ⟨x2, q2, _, w2⟩ := DataW.trod_int Tryd.underlying2 e2
  simp at q0 q1 q2
  exact ⟨x0, x1, x2, ⟨q0, q1, q2⟩, wf_bd w0, wf_bd w1, wf_bd w2⟩
theorem open_ext {v0 v1 v2 v3 : Value} (h : DataW.trod enc Tryd.prog W base sp held n 36 [v0, v1, v2, v3] = some x) :
    ∃ (x0 : Bool) (x1 : Int) (x2 : Int) (x3 : Int), (v0 = .bool x0 ∧ v1 = .int .i64 x1 ∧ v2 = .int .i64 x2 ∧ v3 = .int .i64 x3) ∧ ((-9223372036854775808 ≤ x1 ∧ x1 ≤ 9223372036854775807) ∧ (-9223372036854775808 ≤ x2 ∧ x2 ≤ 9223372036854775807) ∧ (-9223372036854775808 ≤ x3 ∧ x3 ≤ 9223372036854775807)) := by
  obtain ⟨xs, k, hk, hxy, _, hxl, hf⟩ := DataW.trod_struct Tryd.underlying36 h
  match xs, hxl with
  | [y0, y1, y2, y3], _ =>
  have e0 := hf 0 _ rfl
  have e1 := hf 1 _ rfl
  have e2 := hf 2 _ rfl
  have e3 := hf 3 _ rfl
  simp [cn4] at e0
  simp [cn2] at e1
  simp [cn3] at e2
  simp [cn2] at e3
  obtain ⟨x0, q0, _⟩ := DataW.trod_bool Tryd.underlying4 e0
  obtain ⟨x1, q1, _, w1⟩ := DataW.trod_int Tryd.underlying2 e1
  obtain ⟨x2, q2, _, w2⟩ := DataW.trod_int Tryd.underlying3 e2
  obtain ⟨x3, q3, _, w3⟩ := DataW.trod_int Tryd.underlying2 e3
  simp at q0 q1 q2 q3
  exact ⟨x0, x1, x2, x3, ⟨q0, q1, q2, q3⟩, wf_bd w1, wf_bd w2, wf_bd w3⟩
structure itBd (x : Itm) : Prop where
  epoch : -9223372036854775808 ≤ x.epoch ∧ x.epoch ≤ 9223372036854775807
  rg : itRg x
theorem open_itm {v0 v1 v2 v3 v4 v5 v6 v7 v8 v9 v10 v11 v12 v13 v14 v15 v16 v17 v18 : Value} (h : DataW.trod enc Tryd.prog W base sp held n 38 [v0, v1, v2, v3, v4, v5, v6, v7, v8, v9, v10, v11, v12, v13, v14, v15, v16, v17, v18] = some x) : ∃ y : Itm, [v0, v1, v2, v3, v4, v5, v6, v7, v8, v9, v10, v11, v12, v13, v14, v15, v16, v17, v18] = itc y ∧ itRg y := by
  obtain ⟨xs, k, hk, hxy, _, hxl, hf⟩ := DataW.trod_struct Tryd.underlying38 h
  match xs, hxl with
  | [y0, y1, y2, y3, y4, y5], _ =>
  have e0 := hf 0 _ rfl
  have e1 := hf 1 _ rfl
  have e2 := hf 2 _ rfl
  have e3 := hf 3 _ rfl
  have e4 := hf 4 _ rfl
  have e5 := hf 5 _ rfl
  simp [cn32] at e0
  simp [cn34] at e1
  simp [cn4] at e2
  simp [cn2] at e3
  simp [cn36] at e4
  simp [cn36] at e5
  obtain ⟨c0, c1, c2, c3, c4, c5, ⟨rfl, rfl, rfl, rfl, rfl, rfl⟩, _⟩ := open_chan e0
  obtain ⟨r0, r1, r2, ⟨rfl, rfl, rfl⟩, _, _, hr2⟩ := open_reg e1
  obtain ⟨hr, q2, _⟩ := DataW.trod_bool Tryd.underlying4 e2
  obtain ⟨re, q3, _, w3⟩ := DataW.trod_int Tryd.underlying2 e3
  obtain ⟨m0, m1, m2, m3, ⟨rfl, rfl, rfl, rfl⟩, hm1, _⟩ := open_ext e4
  obtain ⟨k0, k1, k2, k3, ⟨rfl, rfl, rfl, rfl⟩, hk1, _⟩ := open_ext e5
  simp at q2 q3
  subst q2 q3
  exact ⟨⟨c0, c1, c2, c3, c4, c5, r0, r1, r2, hr, re, ⟨m0, m1, m2, m3⟩, ⟨k0, k1, k2, k3⟩⟩, rfl, ⟨hr2, wf_bd w3, hm1, hk1⟩⟩
theorem list19 {α : Type} {l : List α} (h : l.length = 19) : ∃ v0 v1 v2 v3 v4 v5 v6 v7 v8 v9 v10 v11 v12 v13 v14 v15 v16 v17 v18, l = [v0, v1, v2, v3, v4, v5, v6, v7, v8, v9, v10, v11, v12, v13, v14, v15, v16, v17, v18] := by
  match l, h with
  | [v0, v1, v2, v3, v4, v5, v6, v7, v8, v9, v10, v11, v12, v13, v14, v15, v16, v17, v18], _ => exact ⟨v0, v1, v2, v3, v4, v5, v6, v7, v8, v9, v10, v11, v12, v13, v14, v15, v16, v17, v18, rfl⟩
end

/-- The items of a packet that came in; sl: what the bound on all that came in says of them. -/
theorem open_its {H : Type} {enc : TypeId × Value → H} {W : World} {fuel : Nat} {v : Value} {x : DataW H × List MemPlace}
    (hf : DataW.trod enc Tryd.prog W 0 (fun _ => true) true fuel 22 [v] = some x) : ∃ (a : Option Addr) (len cap : Nat) (its : List Itm), v = .slice a len cap ∧ RowI W a len cap its ∧ (∀ y ∈ its, itRg y) ∧ (cap = 0 ∨ cap * 160 ∈ x.1.weights Tryd.prog 22) := by
  rcases open_slice Tryd.underlying22 hf with ⟨hcs, hx⟩ | ⟨ad, l, c, m, n, D, Pl, hcs, _, hl, hm, hmm, hx, hel⟩
  · simp at hcs
    subst hcs
    exact ⟨none, 0, 0, [], rfl, rowI_nil W, fun y hy => (by simp at hy), .inl rfl⟩
  · simp at hcs
    subst hcs
    have hmc : m = c := by simpa using hmm
    subst hmc
    rw [cn38] at hel
    have each : ∀ i, i < m → ∃ y : Itm, (∀ j v, (itc y)[j]? = some v → W.cell? ((ad.add (i * 19)).add j) = some v) ∧ itRg y := by
      intro i hi
      obtain ⟨cs', h1, h2⟩ := hel i hi
      obtain ⟨_, hlen, hcell⟩ := World.cells?_some h1
      obtain ⟨v0, v1, v2, v3, v4, v5, v6, v7, v8, v9, v10, v11, v12, v13, v14, v15, v16, v17, v18, rfl⟩ := list19 hlen
      obtain ⟨y, hy, hg⟩ := open_itm h2
      refine ⟨y, fun j v hj => ?_, hg⟩
      have hjl : j < 19 := (List.getElem?_eq_some_iff.1 hj).1
      have hc := hcell j hjl
      rw [hy] at hc
      rw [hc]
      exact hj
    haveI : Inhabited Itm := ⟨itZ⟩
    obtain ⟨F, hF⟩ := choose_lt each
    refine ⟨some ad, l, m, (List.range l).map F, rfl, ⟨by simp, hl, by unfold maxLen at hm; omega, fun h => (by cases h), ?_⟩, ?_, .inr ?_⟩
    · by_cases h0 : l = 0
      · exact .inl h0
      · obtain ⟨b, off, spot⟩ := ad
        have hc := (hF 0 (by omega)).1 0 _ rfl
        have hspot : spot = none := by simpa [Addr.add] using World.cell?_spot hc
        subst hspot
        refine .inr ⟨b, off, rfl, World.block_lt_of_cell? _ _ hc, fun j hj => ?_⟩
        have hget : ((List.range l).map F).getD j itZ = F j := by simp [List.getD, hj]
        rw [hget]
        intro i v hv
        have := (hF j (by omega)).1 i v hv
        rw [add_plain, add_plain] at this
        exact this
    · intro y hy
      obtain ⟨i, hi, rfl⟩ := List.mem_map.1 hy
      exact (hF i (by have := List.mem_range.1 hi; omega)).2
    · rw [hx]
      simp only [DataW.weights, Tryd.underlying22, List.length_map, List.length_range]
      rw [show Tryd.prog.bytesOf 38 = 160 by kernel_rfl, show l + (m - l) = m by omega]
      exact List.mem_cons_self
theorem list8 {α : Type} {l : List α} (h : l.length = 8) : ∃ v0 v1 v2 v3 v4 v5 v6 v7, l = [v0, v1, v2, v3, v4, v5, v6, v7] := by
  match l, h with
  | [v0, v1, v2, v3, v4, v5, v6, v7], _ => exact ⟨v0, v1, v2, v3, v4, v5, v6, v7, rfl⟩
/-- A packet that came in. -/
theorem open_pkc {H : Type} {enc : TypeId × Value → H} {W : World} {fuel : Nat} {cs : List Value} {x : DataW H × List MemPlace} (hl : cs.length = 8)
    (hf : DataW.trod enc Tryd.prog W 0 (fun _ => true) true fuel 24 cs = some x) : ∃ (p : Pkt) (a : Option Addr) (len cap : Nat), cs = [.int .i64 p.kind, .int .i64 p.src, .int .i64 p.dst, .int .i64 p.boot, .int .i64 p.life, .int .i64 p.echo, .int .i64 p.echoLife, .slice a len cap] ∧ RowI W a len cap p.items ∧ (∀ y ∈ p.items, itRg y) ∧ (cap = 0 ∨ cap * 160 ∈ x.1.weights Tryd.prog 24) := by
  obtain ⟨v0, v1, v2, v3, v4, v5, v6, v7, rfl⟩ := list8 hl
  obtain ⟨xs, k, hk, hxy, _, hxl, hg⟩ := DataW.trod_struct Tryd.underlying24 hf
  match xs, hxl with
  | [y0, y1, y2, y3, y4, y5, y6, y7], _ =>
  have e0 := hg 0 _ rfl
  have e1 := hg 1 _ rfl
  have e2 := hg 2 _ rfl
  have e3 := hg 3 _ rfl
  have e4 := hg 4 _ rfl
  have e5 := hg 5 _ rfl
  have e6 := hg 6 _ rfl
  have e7 := hg 7 _ rfl
  simp [cn3] at e0 e1 e2
  simp [cn2] at e3 e4 e5 e6
  simp [show Tryd.prog.cellsOf 22 = 1 by kernel_rfl] at e7
  obtain ⟨x0, q0, _, _⟩ := DataW.trod_int Tryd.underlying3 e0
  obtain ⟨x1, q1, _, _⟩ := DataW.trod_int Tryd.underlying3 e1
  obtain ⟨x2, q2, _, _⟩ := DataW.trod_int Tryd.underlying3 e2
  obtain ⟨x3, q3, _, _⟩ := DataW.trod_int Tryd.underlying2 e3
  obtain ⟨x4, q4, _, _⟩ := DataW.trod_int Tryd.underlying2 e4
  obtain ⟨x5, q5, _, _⟩ := DataW.trod_int Tryd.underlying2 e5
  obtain ⟨x6, q6, _, _⟩ := DataW.trod_int Tryd.underlying2 e6
  simp at q0 q1 q2 q3 q4 q5 q6
  subst q0 q1 q2 q3 q4 q5 q6
  obtain ⟨a, len, cap, its, rfl, R, hr, hw⟩ := open_its e7
  refine ⟨⟨x0, x1, x2, x3, x4, x5, x6, its⟩, a, len, cap, rfl, R, hr, hw.imp id fun h => ?_⟩
  rw [hxy]
  simp only [DataW.weights, Tryd.underlying24, List.map_cons, List.map_nil, DataW.weightsEach, List.mem_append]
  simp only [h, or_true, true_or]
set_option maxRecDepth 100000 in
theorem open_pkt {H : Type} {enc : TypeId × Value → H} {W : World} {r : Reach} {b : Nat} {v : Value} {d : DataW H} {ps : List MemPlace} (hv : Value.okWide Tryd.prog W r b 24 v) (h : DataW.Trod enc Tryd.prog W 0 (fun _ => true) true 24 v d ps) :
    ∃ (p : Pkt) (a : Option Addr) (len cap : Nat), v = pkv p a len cap ∧ RowI W a len cap p.items ∧ (∀ y ∈ p.items, itRg y) ∧ (cap = 0 ∨ cap * 160 ∈ d.weights Tryd.prog 24) := by
  simp only [Value.okWide, Tryd.underlying24] at hv
  obtain ⟨cs, rfl, hsz, _⟩ := hv
  rw [show Tryd.prog.cellsOf 24 = 8 by kernel_rfl] at hsz
  obtain ⟨fuel, hf⟩ := h
  obtain ⟨p, a, len, cap, hcs, R, hr, hw⟩ := open_pkc (x := (d, ps)) (by simpa [Value.cells] using hsz) hf
  refine ⟨p, a, len, cap, ?_, R, hr, hw⟩
  have : cs = (cs.toList).toArray := by simp
  rw [this, show cs.toList = _ from hcs]

end Go.Proofs.YticmjlnpjopfbabDoor

namespace Go.Proofs.YticmjlnpjopfbabDoor.wireTwo
open Go.ChangeShapes Go.WideShapes Go.ChangeAt Go.RowKit
open S (Tab leaf Row)
set_option linter.unusedVariables false

theorem own : ownKnob Tryd.prog.godebug = none := by kernel_rfl
theorem laidOut : laidOutB Tryd.prog = true := by kernel_rfl
theorem gTab : Tryd.prog.globalNamed "eddy/seal.leaves" = some 0 := by kernel_rfl
theorem gTabType : (Tryd.prog.globals[0]?).map (·.type) = some 108 := by kernel_rfl
theorem cellsT : Tryd.prog.cellsOf 108 = 16 := by kernel_rfl
theorem cellsU : Tryd.prog.cellsOf 78 = 1 := by kernel_rfl
def leafI : List Int := [0, 498536548, 997073096, 651767980, 1994146192, 1802195444, 1303535960, 1342533948, 3988292384, 4027552580, 3604390888, 3412177804, 2607071920, 2262029012, 2685067896, 3183342108]
theorem leaf_int : ∀ i : Fin 16, leafI.getD i.val 0 = ((leaf i.val : Nat) : Int) := by decide +kernel
theorem table {W : World} (h : laidMetH Tryd.prog Rows.wireTwoRow.laid W) : Tab W := by
  have t : Lib.TabIs Tryd.prog W "eddy/seal.leaves" .u32 leafI := Lib.tabIs_of_head (rest := []) gTab gTabType Tryd.underlying108 Tryd.underlying78 cellsU cellsT h
  intro i hi
  have := t.cell gTab i (by show i < 16; exact hi)
  rw [leaf_int ⟨i, hi⟩] at this
  exact this

set_option maxRecDepth 100000 in
theorem contract (H : Type) (enc : TypeId × Value → H) (W : World) (base : Nat) (args : Array Value) (ds gs : List (DataW H)) (before : List MemPlace)
    (hval0 : ∀ (j : Nat) t v, Tryd.f3.params[j]? = some t → args[j]? = some v → Value.okWide Tryd.prog W .any base t v)
    (hW : DataW.Whole enc Tryd.prog Tryd.f3.params.toList Rows.wireTwoSpec.vars false W args.toList ds gs before) (hL : laidMetH Tryd.prog Rows.wireTwoRow.laid W)
    (hsz : (DataW.weightsEach Tryd.prog (Tryd.f3.params.toList ++ Rows.wireTwoSpec.plain.varTypes Tryd.prog) (ds ++ gs)).all (· ≤ reachBytes) = true) :
    Calls Tryd.prog 3 args W fun e W' => ∃ v, e = .returned v ∧ Rows.wireTwoSpec.post enc Tryd.prog Tryd.f3 false true false false W args v W' := by
  have hval : ∀ (j : Nat) t v, Tryd.f3.params[j]? = some t → args[j]? = some v → Value.okWide Tryd.prog W .any base t v := hval0
  have hW' := hW
  obtain ⟨p, q, hA0, hV, rfl, hfz, hnd⟩ := hW
  have hA : DataW.TrodAll enc Tryd.prog W 0 (fun _ => true) true Tryd.f3.params.toList args.toList ds p := hA0
  rw [Tryd.params3] at hA hval hsz
  have htab : Tab W := table hL
  obtain ⟨v0, vs0, d0, ds0, p0, q0, hargs, rfl, rfl, h0, r0⟩ := trodAll_cons hA
  obtain ⟨v1, vs1, d1, ds1, p1, q1, rfl, rfl, rfl, h1, r1⟩ := trodAll_cons r0
  obtain ⟨rfl, rfl, rfl⟩ := trodAll_nil r1
  obtain rfl : args = #[v0, v1] := by cases args; simp_all
  obtain ⟨rfl, rfl⟩ := trodVars_none hV
  have k0 := h0
  have lt0 : ∀ x ∈ p0, x.block < W.heap.size := by obtain ⟨m, hm⟩ := k0; exact DataW.trod_lt m _ _ _ hm
  obtain ⟨x0, a0, len0, cap0, rfl, R0, g0, s0⟩ := open_pkt (hval 0 24 v0 rfl rfl) k0
  have hb0 : len0 * 160 ≤ 140737488355328 := by
    have hle := R0.le
    rcases s0 with h | h
    · omega
    · have := List.all_eq_true.1 hsz _ (DataW.weights_mem_each (j := 0) rfl rfl _ h)
      have h2 : cap0 * 160 ≤ reachBytes := by simpa using this
      unfold reachBytes at h2
      omega
  have k1 := h1
  have lt1 : ∀ x ∈ p1, x.block < W.heap.size := by obtain ⟨m, hm⟩ := k1; exact DataW.trod_lt m _ _ _ hm
  obtain ⟨x1, a1, len1, cap1, rfl, R1, g1, s1⟩ := open_pkt (hval 1 24 v1 rfl rfl) k1
  have hb1 : len1 * 160 ≤ 140737488355328 := by
    have hle := R1.le
    rcases s1 with h | h
    · omega
    · have := List.all_eq_true.1 hsz _ (DataW.weights_mem_each (j := 1) rfl rfl _ h)
      have h2 : cap1 * 160 ≤ reachBytes := by simpa using this
      unfold reachBytes at h2
      omega
  clear hA0 hval0
  refine (two_walk x0 x1 a0 a1 len0 cap0 len1 cap1 W R0 R1 hb0 htab).mono fun e W' ⟨he, bel⟩ => ?_
  subst he
  exact ⟨_, rfl, _, _, _, [], _, [], hW', trodAll_mk1 (shut_bool Tryd.underlying4 _), (trodAll_cons_mk (Below.trod laidOut (by kernel_rfl) (of_decide_eq_true (by kernel_rfl)) k0 bel lt0) (trodAll_cons_mk (Below.trod laidOut (by kernel_rfl) (of_decide_eq_true (by kernel_rfl)) k1 bel lt1) trodAll_mk0)), rfl, bel.frame _, fun h => by cases h⟩

/-- A world for the witness: the settled one, the table holding what its initialiser lays. -/
def laidObj : Obj → Obj
  | .cells _ t frozen => .cells #[.int .u32 0, .int .u32 498536548, .int .u32 997073096, .int .u32 651767980, .int .u32 1994146192, .int .u32 1802195444, .int .u32 1303535960, .int .u32 1342533948, .int .u32 3988292384, .int .u32 4027552580, .int .u32 3604390888, .int .u32 3412177804, .int .u32 2607071920, .int .u32 2262029012, .int .u32 2685067896, .int .u32 3183342108] t frozen
  | o => o
theorem laid_met (os : Os) : laidMet Tryd.prog Rows.wireTwoRow.laid (({ World.holding Tryd.prog os ⟨#[], #[], []⟩ with heap := (World.holding Tryd.prog os ⟨#[], #[], []⟩).heap.modify 0 laidObj } : World).forCall (fun _ _ => 0) ⟨#[], #[.agg #[.int .i64 0, .int .i64 0, .int .i64 0, .int .i64 0, .int .i64 0, .int .i64 0, .int .i64 0, .slice none 0 0], .agg #[.int .i64 0, .int .i64 0, .int .i64 0, .int .i64 0, .int .i64 0, .int .i64 0, .int .i64 0, .slice none 0 0]], []⟩).memory :=
  laidMet_of_run' 8 (by kernel_rfl) (by kernel_rfl)
theorem reads (os : Os) {H : Type} (enc : TypeId × Value → H) : ∃ places, DataW.whole enc Tryd.prog (({ World.holding Tryd.prog os ⟨#[], #[], []⟩ with heap := (World.holding Tryd.prog os ⟨#[], #[], []⟩).heap.modify 0 laidObj } : World).forCall (fun _ _ => 0) ⟨#[], #[.agg #[.int .i64 0, .int .i64 0, .int .i64 0, .int .i64 0, .int .i64 0, .int .i64 0, .int .i64 0, .slice none 0 0], .agg #[.int .i64 0, .int .i64 0, .int .i64 0, .int .i64 0, .int .i64 0, .int .i64 0, .int .i64 0, .slice none 0 0]], []⟩).memory Tryd.f3.params.toList Rows.wireTwoSpec.vars false (#[.agg #[.int .i64 0, .int .i64 0, .int .i64 0, .int .i64 0, .int .i64 0, .int .i64 0, .int .i64 0, .slice none 0 0], .agg #[.int .i64 0, .int .i64 0, .int .i64 0, .int .i64 0, .int .i64 0, .int .i64 0, .int .i64 0, .slice none 0 0]] : Array Value).toList 8 = some ([.agg [.lit (.int .i64 0), .lit (.int .i64 0), .lit (.int .i64 0), .lit (.int .i64 0), .lit (.int .i64 0), .lit (.int .i64 0), .lit (.int .i64 0), .nil], .agg [.lit (.int .i64 0), .lit (.int .i64 0), .lit (.int .i64 0), .lit (.int .i64 0), .lit (.int .i64 0), .lit (.int .i64 0), .lit (.int .i64 0), .nil]], [], places) :=
  ⟨[], by kernel_rfl⟩

set_option maxRecDepth 100000 in
theorem lifted (os : Os) (started : os.Started) (H : Type) (enc : TypeId × Value → H) (F : Stop.Interp) :
    ReturnsInHanded {} Tryd.checked os 3 .any ((OpenSpec.ofChange Rows.wireTwoSpec).preRow enc Tryd.prog Tryd.f3 Rows.wireTwoRow.domain false Rows.wireTwoRow.laid) (((OpenSpec.ofChange Rows.wireTwoSpec).at F).post enc Tryd.prog Tryd.f3 false true false false) := by
  obtain ⟨places, hx⟩ := reads os enc
  refine returnsInHanded_of_row (C := Tryd.checked) (s := (OpenSpec.ofChange Rows.wireTwoSpec)) own started (by kernel_rfl) Tryd.func3
    (witness_row_at (enc := enc) (C := Tryd.checked) false ({ World.holding Tryd.prog os ⟨#[], #[], []⟩ with heap := (World.holding Tryd.prog os ⟨#[], #[], []⟩).heap.modify 0 laidObj } : World) #[.agg #[.int .i64 0, .int .i64 0, .int .i64 0, .int .i64 0, .int .i64 0, .int .i64 0, .int .i64 0, .slice none 0 0], .agg #[.int .i64 0, .int .i64 0, .int .i64 0, .int .i64 0, .int .i64 0, .int .i64 0, .int .i64 0, .slice none 0 0]] rfl (by kernel_rfl) (by kernel_rfl) (by kernel_rfl)
      (OpenSpec.preRow_of_cond 8 hx (by kernel_rfl) (fun k hk => by cases hk) (by kernel_rfl) (laid_met os))) ?_
  intro W base args ds gs before hval hW _ hcond hsz hL _ _
  exact contract H enc W base args ds gs before hval hW hL hsz

theorem over : Rows.WireTwoSaid :=
  OpenClaim.holds_of_cond 3 Tryd.f3 rfl rfl rfl rfl rfl rfl rfl ⟨rfl, rfl, rfl, rfl, rfl⟩ rfl rfl rfl rfl rfl (by kernel_rfl) Tryd.func3 (by kernel_rfl)
    (of_decide_eq_true (by kernel_rfl)) (by unfold Func.isWrapper; first | (rw [if_pos (by decide +kernel)]; kernel_rfl) | (rw [if_neg (by decide +kernel)]; exact ⟨rfl, rfl⟩))
    (fun os started H enc _ F => by rw [OpenClaim.pre_eq_preRow]; exact lifted os started H enc F)

theorem plain (f : FuncId) (fn : Func) (hf : Tryd.pinned.checked.prog.funcNamed "eddy/eddylaw05.WireTwo" = some f) (hfn : Tryd.pinned.checked.prog.funcs[f]? = some fn) :
    true = Tryd.pinned.checked.prog.looks [] ∧ ∀ (j : Nat) t, fn.params[j]? = some t → Tryd.pinned.checked.prog.wantsStandIn t = false := by
  obtain rfl : f = 3 := Option.some.inj ((show Tryd.prog.funcNamed "eddy/eddylaw05.WireTwo" = some 3 by kernel_rfl).symm.trans hf) |>.symm
  obtain rfl : fn = Tryd.f3 := (Option.some.inj (Tryd.func3.symm.trans hfn)).symm
  refine ⟨by kernel_rfl, fun j t ht => ?_⟩
  rw [Tryd.params3] at ht
  have h3 : t ∈ [24, 24] := List.mem_of_getElem? (by simpa using ht)
  simp only [List.mem_cons, List.not_mem_nil, or_false] at h3
  rcases h3 with rfl | rfl
  · exact (show Tryd.prog.wantsStandIn 24 = false by kernel_rfl)
  · exact (show Tryd.prog.wantsStandIn 24 = false by kernel_rfl)

/-- The statement: the tied card. -/
theorem proved : Rows.WireTwoCardSaid :=
  Claim7.holds_tied_plain_at .later [] _ _ _ _ over (fun _ h => by cases h) (by kernel_rfl) (fun _ h => by cases h) wireTwo_row_tie rfl ⟨rfl, rfl⟩ (by kernel_rfl) rfl plain (by kernel_rfl)
#print axioms proved
end Go.Proofs.YticmjlnpjopfbabDoor.wireTwo
