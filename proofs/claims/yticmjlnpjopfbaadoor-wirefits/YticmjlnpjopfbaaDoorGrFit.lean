/-
  Fit and Encode answer as the document says, whatever the packet, which stays as it is (P5.1, P5.2): the law WireFits returns true for every input.
-/
import Derived.Test.YticmjlnpjopfbaaDoorGrSlots
import Derived.Test.YticmjlnpjopfbaaDoorFitH
import Derived.Laws.AppendOwnNone
import Derived.Test.YticmjlnpjopfbaaDoorBodyA
import Derived.Test.YticmjlnpjopfbaaDoorRowI
import Derived.Test.YticmjlnpjopfbaaDoorGrRFit
import Derived.Test.YticmjlnpjopfbaaDoorSSeal
import Derived.Test.YticmjlnpjopfbaaDoorGrEnc
import Derived.Test.YticmjlnpjopfbaaDoorInW
import Derived.Deep.Slices
import Derived.SizedLaws
import Derived.Deep.DeepHandedRow
import Derived.Test.YticmjlnpjopfbaaDoorCards
import Derived.Test.YticmjlnpjopfbaaDoorTie
import Derived.WalkKit
import Derived.ProofKit
import Derived.OpenShut
import Derived.ChangeOld
import Derived.Below
import Derived.Lib.LaidTab
namespace Go.Proofs.YticmjlnpjopfbaaDoor
open Go.ChangeShapes Go.WideShapes Go.ChangeAt Go.RowKit
set_option linter.unusedVariables false
set_option linter.unusedSimpArgs false

theorem info38 : (Tryd.prog.info? 38).map (fun i => (i.zero, i.size, i.bytes)) = some (some (itv itZ), 19, 160) := by kernel_rfl
theorem itc_len (x : Itm) : (itc x).length = 19 := rfl
theorem itcs_len (l : List Itm) : (l.flatMap itc).length = l.length * 19 := by
  induction l with
  | nil => rfl
  | cons x l ih => rw [List.flatMap_cons, List.length_append, ih, itc_len, List.length_cons]; omega
theorem itcs_at : ∀ (l : List Itm) (j i : Nat), j < l.length → i < 19 → (l.flatMap itc)[j * 19 + i]? = (itc (l.getD j itZ))[i]?
  | [], _, _, h, _ => by simp at h
  | f :: fs, 0, i, _, hi => by
    rw [List.flatMap_cons, List.getElem?_append_left (by rw [itc_len]; omega)]
    simp
  | f :: fs, j + 1, i, h, hi => by
    rw [List.flatMap_cons, List.getElem?_append_right (by rw [itc_len]; omega), itc_len, show (j + 1) * 19 + i - 19 = j * 19 + i by omega, itcs_at fs j i (by simpa using h) hi, List.getD_cons_succ]
theorem itc_one (x : Itm) : ∀ u ∈ itc x, u.oneCell' = true := by simp [itc, Value.oneCell']
theorem itcs_one (l : List Itm) : ∀ u ∈ l.flatMap itc, u.oneCell' = true := by
  intro u hu
  obtain ⟨x, _, h⟩ := List.mem_flatMap.1 hu
  exact itc_one x u h
theorem RowI.cells {w : World} {b off len cap : Nat} {l : List Itm} (R : RowI w (some ⟨b, off, none⟩) len cap l) : ∀ j u, (l.flatMap itc)[j]? = some u → w.cell? ((⟨b, off, none⟩ : Addr).add j) = some u := by
  intro j u hu
  have hj := (List.getElem?_eq_some_iff.1 hu).1
  rw [itcs_len] at hj
  have hsz := R.size
  rcases R.mem with h | ⟨b', off', e, _, hc⟩
  · omega
  · cases e
    have e1 : j / 19 * 19 + j % 19 = j := by omega
    have h1 : j / 19 < l.length := by omega
    have h2 : j % 19 < 19 := by omega
    rw [← e1, itcs_at l _ _ h1 h2] at hu
    rw [add_plain]
    have := hc (j / 19) (by omega) (j % 19) u hu
    rw [show off + j = off + j / 19 * 19 + j % 19 by omega]
    exact this
theorem rowI_owns {w : World} {base : Nat} {v : Value} {l : List Itm} (h : w.ownsRow base 38 19 v l.length (l.flatMap itc)) : ∃ a cap, v = .slice a l.length cap ∧ RowI w a l.length cap l ∧ (a = none ∨ ∃ g, a = some ⟨g, 0, none⟩ ∧ base ≤ g) := by
  rcases h.2 with ⟨rfl, hn⟩ | ⟨g, cap, cur, rfl, hg, hh, hn, hc, hcs, ht⟩
  · have e : l = [] := List.eq_nil_of_length_eq_zero hn
    subst e
    exact ⟨none, 0, rfl, rowI_nil _, .inl rfl⟩
  · refine ⟨_, _, rfl, ⟨rfl, hn, by unfold maxLen at hc; omega, fun h => (by cases h), .inr ⟨g, 0, rfl, (Array.getElem?_eq_some_iff.1 hh).1, fun j hj => ?_⟩⟩, .inr ⟨g, rfl, hg⟩⟩
    intro i v hv
    have hi : i < 19 := (List.getElem?_eq_some_iff.1 hv).1
    rw [cell_of_row _ _ _ _ 38 _ hh]
    have e := itcs_at l j i hj hi
    rw [← ht, List.getElem?_take, if_pos (by omega), hv] at e
    rw [Nat.zero_add]
    simpa using e

/-- append(nil, items...). -/
theorem wpList_append_its (w : World) {ops : Array Oper} {rest : List Oper} {o : Oper} {a : Act} {Q : Exit → Act → World → Prop} (hg : o.guard = none)
    (s x : Operand) (hop : o.op = Op.call { callee := Callee.builtin Builtin.append, args := #[s, x], argTypes := #[22, 22] })
    (base : Nat) (hs : a.eval s = .slice none 0 0) (ad : Option Addr) (len cap : Nat) (l : List Itm) (hx : a.eval x = .slice ad len cap) (R : RowI w ad len cap l) (hbase : base ≤ w.heap.size) (hb : len * 160 ≤ 140737488355328)
    (hK : ∀ v' w', w'.ownsRow base 38 19 v' l.length (l.flatMap itc) → Below w.heap.size w w' → wpList Tryd.prog ops Q rest (a.put o.dst v') w') : wpList Tryd.prog ops Q (o :: rest) a w := by
  obtain ⟨i0, hi, hz0, hz1, hz2⟩ := info_parts info38
  have hsz := R.size
  cases ad with
  | none =>
    obtain ⟨rfl, rfl⟩ := R.nil rfl
    have e : l = [] := List.eq_nil_of_length_eq_zero hsz
    subst e
    exact wpList_append_own_none hg s x 22 hop base 38 i0 19 Tryd.underlying22 hi (.slice none 0 0) 0 [] hs (World.ownsRow_nil w base 38 19) hx (hK _ w (World.ownsRow_nil w base 38 19) (Below.refl _ _))
  | some ad =>
    by_cases h0 : len = 0
    · subst h0
      have e : l = [] := List.eq_nil_of_length_eq_zero hsz
      subst e
      refine wpList_append_own w hg s x 22 hop base 38 i0 (itv itZ) 19 160 Tryd.underlying22 hi hz0 hz1 hz2 rfl (by decide) (.slice none 0 0) 0 [] hs (World.ownsRow_nil w base 38 19) ad 0 cap [] hx rfl (fun j u h => by simp at h) (fun u h => by simp at h) (by unfold maxLen; omega) (by omega) hbase ?_
      intro v' w' own hgr _
      exact hK v' w' own ((Below.refl _ _).grown hgr (Nat.le_refl _) (fun k hk => by cases hk))
    · obtain ⟨b, off, e, _, _⟩ := R.mem.resolve_left h0
      cases e
      refine wpList_append_own w hg s x 22 hop base 38 i0 (itv itZ) 19 160 Tryd.underlying22 hi hz0 hz1 hz2 rfl (by decide) (.slice none 0 0) 0 [] hs (World.ownsRow_nil w base 38 19) ⟨b, off, none⟩ len cap (l.flatMap itc) hx (by rw [itcs_len, hsz]) R.cells (itcs_one l) (by unfold maxLen; omega) (by omega) hbase ?_
      intro v' w' own hgr _
      rw [List.nil_append, Nat.zero_add, ← hsz] at own
      exact hK v' w' own ((Below.refl _ _).grown hgr (Nat.le_refl _) (fun k hk => by cases hk))
theorem wpList_loadPk {ops : Array Oper} {rest : List Oper} {o : Oper} {a : Act} {W : World} {Q : Exit → Act → World → Prop} (x : Operand) (ho : o.op = .load 24 x)
    (hw : Region.wanted o (yielded ops a.tmps) = true) (pb : Nat) (p : Pkt) (ad : Option Addr) (len cap : Nat) (P : PkAt W pb p ad len cap) (hx : a.eval x = .pointer (some ⟨pb, 0, none⟩))
    (h : wpList Tryd.prog ops Q rest (a.put o.dst (pkv p ad len cap)) W) : wpList Tryd.prog ops Q (o :: rest) a W :=
  wpList_step fun K hK => by
    rw [if_pos hw]
    exact wp_load_agg 24 x ho pb 0 hx (pkc p ad len cap) _ (fun j v h => by rw [Nat.zero_add]; exact P j v h) Tryd.underlying24 rfl (by kernel_rfl) (hK _ _ h)
theorem PkAt.set7 {W : World} {pb : Nat} {p : Pkt} {a : Option Addr} {len cap : Nat} (h : PkAt W pb p a len cap) (a' : Option Addr) (len' cap' : Nat) : PkAt (W.setCell ⟨pb, 7, none⟩ (.slice a' len' cap')) pb p a' len' cap' := by
  intro j v hj
  by_cases e : j = 7
  · subst e
    rw [World.cell?_setCell_same _ _ _ (h 7 _ rfl)]
    simpa [pkc] using hj
  · have hj' : (pkc p a len cap)[j]? = some v := by
      match j, e with
      | 0, _ => exact hj
      | 1, _ => exact hj
      | 2, _ => exact hj
      | 3, _ => exact hj
      | 4, _ => exact hj
      | 5, _ => exact hj
      | 6, _ => exact hj
      | 7, e => exact absurd rfl e
      | n + 8, _ => simp [pkc] at hj
    rw [World.cell?_setCell_other _ _ _ _ (by intro h; injection h with _ h; exact e h.symm)]
    exact h j v hj'
def zPk8 : Array Value := #[.int .i64 0, .int .i64 0, .int .i64 0, .int .i64 0, .int .i64 0, .int .i64 0, .int .i64 0, .slice none 0 0]

set_option maxRecDepth 100000 in
set_option maxHeartbeats 4000000 in
theorem copied_any (p : Pkt) (a : Option Addr) (len cap : Nat) (w : World) (R : RowI w a len cap p.items) (hb : len * 160 ≤ 140737488355328) :
    Calls Tryd.prog 9 #[pkv p a len cap] w fun e w' => ∃ a' cap', e = .returned (pkv p a' len cap') ∧ RowI w' a' len cap' p.items ∧ Below w.heap.size w w' := by
  have hsz := R.size
  have R3 := ((R.alloc (pkObj p a len cap)).alloc (.cells zPk8 24)).alloc (pkObj p none 0 0)
  have B3 : Below w.heap.size w (((w.alloc (pkObj p a len cap)).alloc (.cells zPk8 24)).alloc (pkObj p none 0 0)) := (((Below.refl _ _).alloc (Nat.le_refl _) _).alloc (by simp) _).alloc (by simp; omega) _
  have HL : Hid (p.items.length = len) := hsz
  clear hsz
  go_enter Tryd.func9, Tryd.ntmps9
  go_wp2_with (at_builtin; refine wpList_append_its _ rfl _ _ rfl (w.heap.size + 3) rfl a len cap p.items rfl R3 (by first | (simp; done) | (simp; omega)) hb ?_)
  intro v4 w4 own4 hb40
  obtain ⟨W3, hW3⟩ : ∃ W3, ((w.alloc (pkObj p a len cap)).alloc (.cells zPk8 24)).alloc (pkObj p none 0 0) = W3 := ⟨_, rfl⟩
  have e3 : W3.heap.size = w.heap.size + 1 + 1 + 1 := by rw [← hW3]; simp
  have hb4 : Below W3.heap.size W3 w4 := by rw [e3, ← hW3]; exact hb40
  clear hb40
  have p3 : PkAt W3 (w.heap.size + 1 + 1) p none 0 0 := by
    rw [← hW3]
    have := pkAt_new ((w.alloc (pkObj p a len cap)).alloc (.cells zPk8 24)) p none 0 0
    simpa using this
  have f3 : W3.frozen? ⟨w.heap.size + 1 + 1, 7, none⟩ = false := by
    rw [← hW3]
    have h := World.alloc_heap_new ((w.alloc (pkObj p a len cap)).alloc (.cells zPk8 24)) (pkObj p none 0 0)
    rw [World.size_alloc, World.size_alloc] at h
    unfold World.frozen?
    rw [show (⟨w.heap.size + 1 + 1, 7, none⟩ : Addr).block = w.heap.size + 1 + 1 from rfl, h]
    rfl
  have g1 : W3.heap[w.heap.size + 1]? = some (.cells zPk8 24 (0, 0)) := by
    rw [← hW3]
    have := World.alloc_heap_new (w.alloc (pkObj p a len cap)) (.cells zPk8 24)
    rw [World.size_alloc] at this
    exact (Below.heap_alloc _ _ _ (by simp)).trans this
  rw [hW3] at B3 R3
  clear hW3
  obtain ⟨a4, c4, rfl, R4, hA4⟩ := rowI_owns own4
  have P4 : PkAt w4 (w.heap.size + 1 + 1) p none 0 0 := p3.below hb4
  have q7 := P4 7 _ rfl
  have z7 := P4.lt
  have fz : w4.frozen? ⟨w.heap.size + 1 + 1, 7, none⟩ = false := (World.frozen?_of_block (a := ⟨w.heap.size + 1 + 1, 7, none⟩) (hb4.block (w.heap.size + 1 + 1) (by omega))).trans f3
  have PKx := P4.set7 a4 p.items.length c4
  have G1 : (w4.setCell ⟨w.heap.size + 1 + 1, 7, none⟩ (.slice a4 p.items.length c4)).heap[w.heap.size + 1]? = some (.cells zPk8 24 (0, 0)) :=
    (Below.heap_setCell _ _ _ _ (by show w.heap.size + 1 ≠ w.heap.size + 1 + 1; omega)).trans ((hb4.block (w.heap.size + 1) (by omega)).trans g1)
  have z3 : w.heap.size ≤ W3.heap.size := by omega
  clear g1 own4 P4 e3 p3 f3
  go_wp2_with (first
    | ((with_reducible show wpList _ _ _ (Oper.mk _ (Op.load 24 _) _ _ _ _ :: _) _ _); refine wpList_loadPk _ rfl rfl _ _ _ _ _ PKx rfl ?_)
    | ((with_reducible show wpList _ _ _ (Oper.mk _ (Op.store 24 _ _) _ _ _ _ :: _) _ _); refine wpList_store_row rfl 24 _ _ rfl (w.heap.size + 1) (pkc p a4 p.items.length c4).toArray rfl rfl 24 _ G1 (by kernel_rfl) rfl (by simp [pkc, Value.oneCell']) ?_))
  have B4 : Below w.heap.size w w4 := B3.trans (hb4.mono z3)
  have hl := HL.out
  refine bodyPost_ret (results_cell_row rfl _ _ (w.heap.size + 1) 24 (pkc p a4 p.items.length c4).toArray (0, 0) _ rfl (setRow_heap _ _ _ _ _ _ G1) Tryd.underlying24 rfl (by kernel_rfl)) rfl ⟨a4, c4, by rw [hl]; rfl, ?_, ?_⟩
  · rw [← hl]
    refine ⟨R4.size, R4.le, R4.max, R4.nil, R4.mem.imp id fun ⟨b, off, e, h, c⟩ => ⟨b, off, e, by simpa using h, fun j hj => (c j hj).of_block ?_⟩⟩
    have hbb : w.heap.size + 3 ≤ b := by
      rcases hA4 with h' | ⟨g, h', hg⟩
      · rw [h'] at e; cases e
      · rw [h'] at e; cases e; exact hg
    exact (setRow_other _ _ _ _ (by omega)).trans (Below.heap_setCell _ _ _ _ (by show b ≠ w.heap.size + 1 + 1; omega))
  · have B5 := B4.setCell (p := ⟨w.heap.size + 1 + 1, 7, none⟩) (by show w.heap.size ≤ w.heap.size + 1 + 1; omega) (.slice a4 p.items.length c4)
    exact ⟨B5.os, B5.tape, B5.output, by rw [size_setRow]; exact B5.size, fun b hb => (setRow_other _ _ _ _ (by omega)).trans (B5.block b hb)⟩

end Go.Proofs.YticmjlnpjopfbaaDoor

namespace Go.Proofs.YticmjlnpjopfbaaDoor
open Go.ChangeShapes Go.WideShapes Go.ChangeAt Go.RowKit
open C (Row enc txt flg sg rnumber_any rsigned_any rtext_any rflag_any)
set_option linter.unusedVariables false
set_option linter.unusedSimpArgs false


theorem flds_it (x : Itm) : C.flds (itF x) = txt x.name ++ (enc (x.epoch % 18446744073709551616) ++ (enc (x.maker % 18446744073709551616) ++ (flg x.alive ++ (enc (x.kind % 18446744073709551616) ++ (enc (x.scale % 18446744073709551616) ++ (enc (x.ver % 18446744073709551616) ++ (enc (x.writer % 18446744073709551616) ++ (enc (sg x.flow) ++ (flg x.hasRest ++ (enc (sg x.rest) ++ (extB x.mn ++ extB x.mx))))))))))) := by
  simp [C.flds, itF, C.encF1, C.encFld, nF, tF, sF, bF, extB]
def hdN (p : Pkt) : List Int := [p.kind, p.src, p.dst, p.boot, p.life, p.echo, p.echoLife]
def hdB (p : Pkt) (k : Nat) : List Int := ((hdN p).take k).flatMap fun x => enc (x % 18446744073709551616)
theorem hdB_succ (p : Pkt) (k : Nat) (x : Int) (h : (hdN p)[k]? = some x) : hdB p (k + 1) = hdB p k ++ enc (x % 18446744073709551616) := by
  simp [hdB, List.take_add_one, h]
theorem flds_hd (p : Pkt) : C.flds (hdF p) = hdB p 7 ++ enc ((p.items.length : Int) % 18446744073709551616) := by
  simp [C.flds, hdF, C.encF1, C.encFld, nF, hdB, hdN]
abbrev hdV (p : Pkt) : Value := .agg #[.int .i64 p.kind, .int .i64 p.src, .int .i64 p.dst, .int .i64 p.boot, .int .i64 p.life, .int .i64 p.echo, .int .i64 p.echoLife]
theorem hd_at (p : Pkt) : ∀ (k : Nat) (x : Int), (hdN p)[k]? = some x → ∀ w, (Instr.index 102 (hdV p) (.int .i64 (k : Int))).run Tryd.prog w = .ok (.int .i64 x) w := by
  intro k x hx w
  have hk : k < 7 := (List.getElem?_eq_some_iff.1 hx).1
  match k, hk with
  | 0, _ => cases hx; show _ = _; kernel_rfl
  | 1, _ => cases hx; show _ = _; kernel_rfl
  | 2, _ => cases hx; show _ = _; kernel_rfl
  | 3, _ => cases hx; show _ = _; kernel_rfl
  | 4, _ => cases hx; show _ = _; kernel_rfl
  | 5, _ => cases hx; show _ = _; kernel_rfl
  | 6, _ => cases hx; show _ = _; kernel_rfl
theorem take_itsF (l : List Itm) (i : Nat) (h : i < l.length) : itsF (l.take (i + 1)) = itsF (l.take i) ++ itF (l.getD i itZ) := by
  rw [List.take_succ_eq_append_getElem h, itsF_append]
  simp [itsF, List.getD, List.getElem?_eq_getElem h]
theorem part_le (p : Pkt) (i : Nat) (h : i < p.items.length) : (C.flds (hdF p) ++ C.flds (itsF (p.items.take i))).length + (p.items.getD i itZ).name.size ≤ (bodyP p).length := by
  have e : itsF p.items = itsF (p.items.take (i + 1)) ++ itsF (p.items.drop (i + 1)) := by rw [← itsF_append, List.take_append_drop]
  rw [bodyP, e, take_itsF _ _ h, flds_append, flds_append, flds_it]
  simp only [List.length_append, txt, C.bytesL_length]
  omega
structure itRg (x : Itm) : Prop where
  flow : -9223372036854775808 ≤ x.flow ∧ x.flow ≤ 9223372036854775807
  rest : -9223372036854775808 ≤ x.rest ∧ x.rest ≤ 9223372036854775807
  mn : -9223372036854775808 ≤ x.mn.value ∧ x.mn.value ≤ 9223372036854775807
  mx : -9223372036854775808 ≤ x.mx.value ∧ x.mx.value ≤ 9223372036854775807

set_option maxRecDepth 100000 in
set_option maxHeartbeats 8000000 in
theorem body_any (p : Pkt) (a : Option Addr) (len cap : Nat) (w : World) (R : RowI w a len cap p.items) (hT : (bodyP p).length ≤ 70368740000000) (hrgs : ∀ x ∈ p.items, itRg x) :
    Calls Tryd.prog 37 #[pkv p a len cap] w fun e w' => ∃ v, e = .returned v ∧ C.Own w.heap.size w' v (bodyP p) ∧ Below w.heap.size w w' := by
  have B1 : Below w.heap.size w (w.alloc (pkObj p a len cap)) := (Below.refl _ _).alloc (Nat.le_refl _) _
  have HR : Hid (RowI (w.alloc (pkObj p a len cap)) a len cap p.items) := R.alloc _
  have HPK : Hid (PkAt (w.alloc (pkObj p a len cap)) w.heap.size p a len cap) := pkAt_new w p a len cap
  have HL : Hid (p.items.length = len) := R.size
  have hle := R.le
  have hcp := R.max
  have HT : Hid ((bodyP p).length ≤ 70368740000000) := hT
  have HRG : Hid (∀ x ∈ p.items, itRg x) := hrgs
  clear R hT hrgs
  go_enter Tryd.func37, Tryd.ntmps37
  go_wp2
  obtain ⟨W0, hW0⟩ : ∃ W0, w.alloc (pkObj p a len cap) = W0 := ⟨_, rfl⟩
  have hz0 : w.heap.size < W0.heap.size := by rw [← hW0]; simp
  rw [hW0] at HR HPK B1 ⊢
  clear hW0
  go_loopg [3, 24] 7 (fun g v c wr => ∃ (k : Nat) (a0 : Option Addr) (n0 c0 : Nat) (Z0 : List Int), v = .slice a0 n0 c0 ∧ c = .int .i64 k ∧ k + g = 7 ∧ Row .u8 wr a0 n0 c0 Z0 ∧ Bt Z0 ∧ n0 ≤ 10 * k ∧ Below W0.heap.size W0 wr ∧ Hid (Z0 = hdB p k))
  case atStart => exact ⟨0, none, 0, 0, [], rfl, rfl, by omega, C.row_nil _ _, (fun c h => (by simp at h)), by omega, Below.refl _ _, rfl⟩
  case round =>
    rename World => wh
    rename Nat => gkh
    obtain ⟨k, a0, n0, c0, Z0, rfl, rfl, hg, r0, hbt, hn0, hB, HZ0⟩ := hrel
    have HG : Hid (k + gkh = 7) := hg
    have hk7 : k ≤ 7 := by omega
    clear hg
    by_cases hk : k < 7
    · obtain ⟨x, hx⟩ : ∃ x, (hdN p)[k]? = some x := ⟨_, List.getElem?_eq_getElem (show k < (hdN p).length from hk)⟩
      have hix := hd_at p k x hx
      obtain ⟨u, hu, hu0, hu1, hwu⟩ := u64_mod x
      have HE : Hid (hdB p (k + 1) = hdB p k ++ enc u) := by show _ = _; rw [hdB_succ p k x hx, hu]
      clear hu hx
      go_wp2_with (go_at_call 38; refine (num_w _ _ _ _ _ _ r0 hbt (by omega) hu0 hu1).mono ?_; rintro e w1 ⟨a1, n1, c1, Z1, rfl, W1, HZ1, l1⟩)
      go_roundg (gkh - 1)
      case measure => have := HG.out; omega
      case rel => exact ⟨k + 1, a1, n1, c1, Z1, rfl, by first | rfl | go_num, by have := HG.out; omega, W1.row, W1.byt, by omega, hB.trans (W1.below.mono hB.size), by show _ = _; rw [HZ1.out, HZ0.out, HE.out]⟩
    · obtain rfl : k = 7 := by omega
      have PK := HPK.out.below hB
      have c7 := PK 7 _ rfl
      obtain ⟨u, hu, hu0, hu1, hwu⟩ := u64_mod (len : Int)
      have HU : Hid ((len : Int) % 18446744073709551616 = u) := hu
      clear hu HG hk hk7
      go_wp2_with (go_at_call 38; refine (num_w _ _ _ _ _ _ r0 hbt (by omega) hu0 hu1).mono ?_; rintro e w1 ⟨a1, n1, c1, Z1, rfl, W1, HZ1, l1⟩)
      have HH : Hid (Z1 = C.flds (hdF p)) := by show _ = _; rw [HZ1.out, HZ0.out, flds_hd, HL.out, HU.out]
      have B1' : Below W0.heap.size W0 w1 := hB.trans (W1.below.mono hB.size)
      have OW1 : C.Own w.heap.size w1 (.slice a1 n1 c1) Z1 := W1.own.at (by have := hB.size; omega)
      have rr1 := W1.row
      have yy1 := W1.byt
      clear r0 hbt hB PK c7 HZ0 HZ1 W1 HU hu0 hu1 hwu
      go_loopg [3, 6] len (fun g v c wr => ∃ (i : Nat) (a0 : Option Addr) (n0 c0 : Nat) (Z0 : List Int), v = .slice a0 n0 c0 ∧ c = .int .i64 i ∧ i + g = len ∧ Row .u8 wr a0 n0 c0 Z0 ∧ Bt Z0 ∧ C.Own w.heap.size wr (.slice a0 n0 c0) Z0 ∧ Below W0.heap.size W0 wr ∧ Hid (Z0 = C.flds (hdF p) ++ C.flds (itsF (p.items.take i))))
      case atStart => exact ⟨0, a1, n1, c1, Z1, rfl, rfl, by omega, rr1, yy1, OW1, B1', by show _ = _; rw [HH.out]; simp [itsF, C.flds]⟩
      case round =>
        clear OW1 rr1 yy1 HH B1' l1 hn0
        obtain ⟨i, a0, n0, c0, Z0, rfl, rfl, hg, r0', hbt, own0, hB, HZ0⟩ := hrel
        have HG : Hid (i + gk = len) := hg
        have hi8 : i ≤ len := by omega
        clear hg
        have PK := HPK.out.below hB
        have c7 := PK 7 _ rfl
        by_cases hlt : i < len
        · have hI64 : (i : Int) < (len : Int) := by omega
          obtain ⟨b, off, rfl, hbz, hIt⟩ := (HR.out.below hB).mem.resolve_left (by omega)
          have Ir0 := hIt i hlt
          have hpl := part_le p i (by have := HL.out; omega)
          have hsz0 := r0'.size
          have hmem : p.items.getD i itZ ∈ p.items := by
            have hi' : i < p.items.length := by have := HL.out; omega
            simp [List.getD, List.getElem?_eq_getElem hi']
          have hrg := HRG.out _ hmem
          obtain ⟨x, hx⟩ : ∃ x, p.items.getD i itZ = x := ⟨_, rfl⟩
          rw [hx] at Ir0 hrg hpl
          have HX : Hid (p.items.getD i itZ = x) := hx
          rw [← HZ0.out, hsz0] at hpl
          have hn0 : n0 + x.name.size ≤ 70368740000000 := by have := HT.out; omega
          clear hx hmem hpl hsz0 hIt
          go_wp2_with (first
            | ((with_reducible show wpList _ _ _ (Oper.mk _ (Op.load 38 _) _ _ _ _ :: _) _ _); refine wpList_load38 _ rfl rfl _ _ x rfl Ir0 ?_)
            | ((with_reducible show wpList _ _ _ (Oper.mk _ (Op.store 38 _ _) _ _ _ _ :: _) _ _); refine wpList_store38 _ _ rfl rfl x _ rfl rfl rfl ?_))
          obtain ⟨wb, hwb⟩ : ∃ wb, (wr.alloc (itObj x)).alloc (.cells #[.string x.name, .int .i64 x.epoch, .int .i64 x.maker, .bool x.alive, .int .i64 x.kind, .int .i64 x.scale] 32) = wb := ⟨_, rfl⟩
          have hzb : wr.heap.size + 1 < wb.heap.size := by rw [← hwb]; simp
          have hza : wr.heap.size < wb.heap.size := by omega
          have hBb : Below wr.heap.size wr wb := by rw [← hwb]; exact ((Below.refl _ _).alloc (Nat.le_refl _) _).alloc (by simp) _
          have hItb : ∀ j v, (itc x)[j]? = some v → wb.cell? ⟨wr.heap.size, j, none⟩ = some v := by
            intro j v hj
            have h := (itAt_new wr x).alloc (.cells #[.string x.name, .int .i64 x.epoch, .int .i64 x.maker, .bool x.alive, .int .i64 x.kind, .int .i64 x.scale] 32)
            rw [hwb] at h
            have h2 := h j v hj
            rw [Nat.zero_add] at h2
            exact h2
          have hc0 : ∀ X, Below wb.heap.size wb X → X.cell? ⟨wr.heap.size + 1, 0, none⟩ = some (.string x.name) := fun X h => (h.cell (p := ⟨wr.heap.size + 1, 0, none⟩) hzb).trans (by rw [← hwb]; simp)
          have hc1 : ∀ X, Below wb.heap.size wb X → X.cell? ⟨wr.heap.size + 1, 1, none⟩ = some (.int .i64 x.epoch) := fun X h => (h.cell (p := ⟨wr.heap.size + 1, 1, none⟩) hzb).trans (by rw [← hwb]; simp)
          have hc2 : ∀ X, Below wb.heap.size wb X → X.cell? ⟨wr.heap.size + 1, 2, none⟩ = some (.int .i64 x.maker) := fun X h => (h.cell (p := ⟨wr.heap.size + 1, 2, none⟩) hzb).trans (by rw [← hwb]; simp)
          have hc3 : ∀ X, Below wb.heap.size wb X → X.cell? ⟨wr.heap.size + 1, 3, none⟩ = some (.bool x.alive) := fun X h => (h.cell (p := ⟨wr.heap.size + 1, 3, none⟩) hzb).trans (by rw [← hwb]; simp)
          have hc4 : ∀ X, Below wb.heap.size wb X → X.cell? ⟨wr.heap.size + 1, 4, none⟩ = some (.int .i64 x.kind) := fun X h => (h.cell (p := ⟨wr.heap.size + 1, 4, none⟩) hzb).trans (by rw [← hwb]; simp)
          have hc5 : ∀ X, Below wb.heap.size wb X → X.cell? ⟨wr.heap.size + 1, 5, none⟩ = some (.int .i64 x.scale) := fun X h => (h.cell (p := ⟨wr.heap.size + 1, 5, none⟩) hzb).trans (by rw [← hwb]; simp)
          have hx6 : ∀ X, Below wb.heap.size wb X → X.cell? ⟨wr.heap.size, 6, none⟩ = some (.int .i64 x.ver) := fun X h => (h.cell (p := ⟨wr.heap.size, 6, none⟩) hza).trans (hItb 6 _ rfl)
          have hx7 : ∀ X, Below wb.heap.size wb X → X.cell? ⟨wr.heap.size, 7, none⟩ = some (.int .i64 x.writer) := fun X h => (h.cell (p := ⟨wr.heap.size, 7, none⟩) hza).trans (hItb 7 _ rfl)
          have hx8 : ∀ X, Below wb.heap.size wb X → X.cell? ⟨wr.heap.size, 8, none⟩ = some (.int .i64 x.flow) := fun X h => (h.cell (p := ⟨wr.heap.size, 8, none⟩) hza).trans (hItb 8 _ rfl)
          have hx9 : ∀ X, Below wb.heap.size wb X → X.cell? ⟨wr.heap.size, 9, none⟩ = some (.bool x.hasRest) := fun X h => (h.cell (p := ⟨wr.heap.size, 9, none⟩) hza).trans (hItb 9 _ rfl)
          have hx10 : ∀ X, Below wb.heap.size wb X → X.cell? ⟨wr.heap.size, 10, none⟩ = some (.int .i64 x.rest) := fun X h => (h.cell (p := ⟨wr.heap.size, 10, none⟩) hza).trans (hItb 10 _ rfl)
          have hx11 : ∀ X, Below wb.heap.size wb X → X.cell? ⟨wr.heap.size, 11, none⟩ = some (.bool x.mn.has) := fun X h => (h.cell (p := ⟨wr.heap.size, 11, none⟩) hza).trans (hItb 11 _ rfl)
          have hx12 : ∀ X, Below wb.heap.size wb X → X.cell? ⟨wr.heap.size, 12, none⟩ = some (.int .i64 x.mn.value) := fun X h => (h.cell (p := ⟨wr.heap.size, 12, none⟩) hza).trans (hItb 12 _ rfl)
          have hx13 : ∀ X, Below wb.heap.size wb X → X.cell? ⟨wr.heap.size, 13, none⟩ = some (.int .i64 x.mn.origin) := fun X h => (h.cell (p := ⟨wr.heap.size, 13, none⟩) hza).trans (hItb 13 _ rfl)
          have hx14 : ∀ X, Below wb.heap.size wb X → X.cell? ⟨wr.heap.size, 14, none⟩ = some (.int .i64 x.mn.age) := fun X h => (h.cell (p := ⟨wr.heap.size, 14, none⟩) hza).trans (hItb 14 _ rfl)
          have hx15 : ∀ X, Below wb.heap.size wb X → X.cell? ⟨wr.heap.size, 15, none⟩ = some (.bool x.mx.has) := fun X h => (h.cell (p := ⟨wr.heap.size, 15, none⟩) hza).trans (hItb 15 _ rfl)
          have hx16 : ∀ X, Below wb.heap.size wb X → X.cell? ⟨wr.heap.size, 16, none⟩ = some (.int .i64 x.mx.value) := fun X h => (h.cell (p := ⟨wr.heap.size, 16, none⟩) hza).trans (hItb 16 _ rfl)
          have hx17 : ∀ X, Below wb.heap.size wb X → X.cell? ⟨wr.heap.size, 17, none⟩ = some (.int .i64 x.mx.origin) := fun X h => (h.cell (p := ⟨wr.heap.size, 17, none⟩) hza).trans (hItb 17 _ rfl)
          have hx18 : ∀ X, Below wb.heap.size wb X → X.cell? ⟨wr.heap.size, 18, none⟩ = some (.int .i64 x.mx.age) := fun X h => (h.cell (p := ⟨wr.heap.size, 18, none⟩) hza).trans (hItb 18 _ rfl)
          rw [hwb]
          clear hItb hwb
          obtain ⟨uE, huE, uE0, uE1, hwE⟩ := u64_mod x.epoch
          have HUE : Hid (x.epoch % 18446744073709551616 = uE) := huE
          clear huE
          obtain ⟨uM, huM, uM0, uM1, hwM⟩ := u64_mod x.maker
          have HUM : Hid (x.maker % 18446744073709551616 = uM) := huM
          clear huM
          obtain ⟨uK, huK, uK0, uK1, hwK⟩ := u64_mod x.kind
          have HUK : Hid (x.kind % 18446744073709551616 = uK) := huK
          clear huK
          obtain ⟨uS, huS, uS0, uS1, hwS⟩ := u64_mod x.scale
          have HUS : Hid (x.scale % 18446744073709551616 = uS) := huS
          clear huS
          obtain ⟨uV, huV, uV0, uV1, hwV⟩ := u64_mod x.ver
          have HUV : Hid (x.ver % 18446744073709551616 = uV) := huV
          clear huV
          obtain ⟨uW, huW, uW0, uW1, hwW⟩ := u64_mod x.writer
          have HUW : Hid (x.writer % 18446744073709551616 = uW) := huW
          clear huW
          have r0 := r0'.below hBb
          have b0 : Below wb.heap.size wb wb := Below.refl _ _
          clear r0'
          obtain ⟨wi, hwi⟩ : ∃ wi, World.drew wb = wi := ⟨_, rfl⟩
          have Bwi : Below wb.heap.size wb wi := by rw [← hwi]; exact b0.drew
          have Rwi : Row .u8 wi a0 n0 c0 Z0 := by rw [← hwi]; exact r0.drew
          refine wp_region_any (by kernel_rfl) ?_
          change wpAny _ _ _ _ _ _ _ (World.drew _)
          rw [hwi]
          refine S.wpAny_narrow (fun X => Below wi.heap.size wi X) _ _ _ _ ?_
          refine S.anyH_take 0 52 (.slice a0 n0 c0) rfl rfl (by kernel_rfl) (by kernel_rfl) (by kernel_rfl) (fun _ _ _ h => h) (Or.inl ⟨by rfl, by intro w hSw; go_simp⟩) (Below.refl _ _) ?_
          try simp only [Act.put, List.setIfInBounds_toArray, List.set_cons_zero, List.set_cons_succ]
          refine S.anyH_take 1 53 (.pointer (some ⟨wr.heap.size + 1, 0, none⟩)) rfl rfl (by kernel_rfl) (by kernel_rfl) (by kernel_rfl) (fun _ _ _ h => h) (Or.inl ⟨by rfl, by intro w hSw; go_simp⟩) (Below.refl _ _) ?_
          try simp only [Act.put, List.setIfInBounds_toArray, List.set_cons_zero, List.set_cons_succ]
          refine S.anyH_take 2 54 (.string x.name) rfl rfl (by kernel_rfl) (by kernel_rfl) (by kernel_rfl) (fun _ _ _ h => h) (Or.inl ⟨by rfl, by intro w hSw; have q := hc0 _ (Bwi.trans (hSw.mono Bwi.size)); go_simp⟩) (Below.refl _ _) ?_
          try simp only [Act.put, List.setIfInBounds_toArray, List.set_cons_zero, List.set_cons_succ]
          refine S.anyH_take 4 56 (.pointer (some ⟨wr.heap.size + 1, 1, none⟩)) rfl rfl (by kernel_rfl) (by kernel_rfl) (by kernel_rfl) (fun _ _ _ h => h) (Or.inl ⟨by rfl, by intro w hSw; go_simp⟩) (Below.refl _ _) ?_
          try simp only [Act.put, List.setIfInBounds_toArray, List.set_cons_zero, List.set_cons_succ]
          refine S.anyH_take 5 57 (.int .i64 x.epoch) rfl rfl (by kernel_rfl) (by kernel_rfl) (by kernel_rfl) (fun _ _ _ h => h) (Or.inl ⟨by rfl, by intro w hSw; have q := hc1 _ (Bwi.trans (hSw.mono Bwi.size)); go_simp⟩) (Below.refl _ _) ?_
          try simp only [Act.put, List.setIfInBounds_toArray, List.set_cons_zero, List.set_cons_succ]
          refine S.anyH_take 6 58 (.int .u64 uE) rfl rfl (by kernel_rfl) (by kernel_rfl) (by kernel_rfl) (fun _ _ _ h => h) (Or.inl ⟨by rfl, by intro w hSw; go_simp⟩) (Below.refl _ _) ?_
          try simp only [Act.put, List.setIfInBounds_toArray, List.set_cons_zero, List.set_cons_succ]
          refine S.anyH_take 8 60 (.pointer (some ⟨wr.heap.size + 1, 2, none⟩)) rfl rfl (by kernel_rfl) (by kernel_rfl) (by kernel_rfl) (fun _ _ _ h => h) (Or.inl ⟨by rfl, by intro w hSw; go_simp⟩) (Below.refl _ _) ?_
          try simp only [Act.put, List.setIfInBounds_toArray, List.set_cons_zero, List.set_cons_succ]
          refine S.anyH_take 9 61 (.int .i64 x.maker) rfl rfl (by kernel_rfl) (by kernel_rfl) (by kernel_rfl) (fun _ _ _ h => h) (Or.inl ⟨by rfl, by intro w hSw; have q := hc2 _ (Bwi.trans (hSw.mono Bwi.size)); go_simp⟩) (Below.refl _ _) ?_
          try simp only [Act.put, List.setIfInBounds_toArray, List.set_cons_zero, List.set_cons_succ]
          refine S.anyH_take 10 62 (.int .u64 uM) rfl rfl (by kernel_rfl) (by kernel_rfl) (by kernel_rfl) (fun _ _ _ h => h) (Or.inl ⟨by rfl, by intro w hSw; go_simp⟩) (Below.refl _ _) ?_
          try simp only [Act.put, List.setIfInBounds_toArray, List.set_cons_zero, List.set_cons_succ]
          refine wpAnyH_ready (rs := [3]) (by kernel_rfl) (by simp) ?_
          refine AllReadyH.cons rfl (fun K hK => ?_) AllReadyH.nil
          go_simp
          go_wp2_with (go_at_call 59; refine (txt_w _ _ _ _ _ _ Rwi hbt (by omega)).mono ?_; rintro e w1 ⟨a1, n1, c1, Z1, rfl, W1, HZ1, l1⟩; have c1' : Below wi.heap.size wi w1 := W1.below)
          refine hK.out _ _ (c1') (fun hS => ?_)
          clear hK
          refine wpAnyH_ready (rs := [7]) (by kernel_rfl) (by simp) ?_
          refine AllReadyH.cons rfl (fun K hK => ?_) AllReadyH.nil
          go_simp
          go_wp2_with (go_at_call 38; refine (num_w _ _ _ _ _ _ W1.row W1.byt (by omega) uE0 uE1).mono ?_; rintro e w2 ⟨a2, n2, c2, Z2, rfl, W2, HZ2, l2⟩; have c2' : Below wi.heap.size wi w2 := c1'.trans (W2.below.mono c1'.size))
          refine hK.out _ _ (c2') (fun hS => ?_)
          clear hK
          refine wpAnyH_ready (rs := [11]) (by kernel_rfl) (by simp) ?_
          refine AllReadyH.cons rfl (fun K hK => ?_) AllReadyH.nil
          go_simp
          go_wp2_with (go_at_call 38; refine (num_w _ _ _ _ _ _ W2.row W2.byt (by omega) uM0 uM1).mono ?_; rintro e w3 ⟨a3, n3, c3, Z3, rfl, W3, HZ3, l3⟩; have c3' : Below wi.heap.size wi w3 := c2'.trans (W3.below.mono c2'.size))
          refine hK.out _ _ (c3') (fun hS => ?_)
          clear hK
          refine S.anyH_take 12 3 (.slice a3 n3 c3) rfl rfl (by kernel_rfl) (by kernel_rfl) (by kernel_rfl) (fun _ _ _ h => h) (Or.inl ⟨by rfl, by intro w hSw; go_simp⟩) (c3') ?_
          try simp only [Act.put, List.setIfInBounds_toArray, List.set_cons_zero, List.set_cons_succ]
          refine wpAnyH_done (by kernel_rfl) ?_ _
          have r3 := W3.row
          have b3 : Below wb.heap.size wb w3 := Bwi.trans (c3'.mono Bwi.size)
          have q := hc3 _ b3
          clear c1' c2' c3' W1 W2 Rwi
          go_wp2_with (go_at_call 60; refine (flg_w _ _ _ _ _ _ r3 W3.byt (by omega)).mono ?_; rintro e w4 ⟨a4, n4, c4, Z4, rfl, W4, HZ4, l4⟩)
          have r4 := W4.row
          have b4 : Below wb.heap.size wb w4 := b3.trans (W4.below.mono b3.size)
          clear q W3
          obtain ⟨wj, hwj⟩ : ∃ wj, World.drew w4 = wj := ⟨_, rfl⟩
          have Bwj : Below wb.heap.size wb wj := by rw [← hwj]; exact b4.drew
          have Rwj : Row .u8 wj a4 n4 c4 Z4 := by rw [← hwj]; exact r4.drew
          refine wp_region_any (by kernel_rfl) ?_
          change wpAny _ _ _ _ _ _ _ (World.drew _)
          rw [hwj]
          refine S.wpAny_narrow (fun X => Below wj.heap.size wj X) _ _ _ _ ?_
          refine S.anyH_take 0 68 (.slice a4 n4 c4) rfl rfl (by kernel_rfl) (by kernel_rfl) (by kernel_rfl) (fun _ _ _ h => h) (Or.inl ⟨by rfl, by intro w hSw; go_simp⟩) (Below.refl _ _) ?_
          try simp only [Act.put, List.setIfInBounds_toArray, List.set_cons_zero, List.set_cons_succ]
          refine S.anyH_take 1 69 (.pointer (some ⟨wr.heap.size + 1, 4, none⟩)) rfl rfl (by kernel_rfl) (by kernel_rfl) (by kernel_rfl) (fun _ _ _ h => h) (Or.inl ⟨by rfl, by intro w hSw; go_simp⟩) (Below.refl _ _) ?_
          try simp only [Act.put, List.setIfInBounds_toArray, List.set_cons_zero, List.set_cons_succ]
          refine S.anyH_take 2 70 (.int .i64 x.kind) rfl rfl (by kernel_rfl) (by kernel_rfl) (by kernel_rfl) (fun _ _ _ h => h) (Or.inl ⟨by rfl, by intro w hSw; have q := hc4 _ (Bwj.trans (hSw.mono Bwj.size)); go_simp⟩) (Below.refl _ _) ?_
          try simp only [Act.put, List.setIfInBounds_toArray, List.set_cons_zero, List.set_cons_succ]
          refine S.anyH_take 3 71 (.int .u64 uK) rfl rfl (by kernel_rfl) (by kernel_rfl) (by kernel_rfl) (fun _ _ _ h => h) (Or.inl ⟨by rfl, by intro w hSw; go_simp⟩) (Below.refl _ _) ?_
          try simp only [Act.put, List.setIfInBounds_toArray, List.set_cons_zero, List.set_cons_succ]
          refine S.anyH_take 5 73 (.pointer (some ⟨wr.heap.size + 1, 5, none⟩)) rfl rfl (by kernel_rfl) (by kernel_rfl) (by kernel_rfl) (fun _ _ _ h => h) (Or.inl ⟨by rfl, by intro w hSw; go_simp⟩) (Below.refl _ _) ?_
          try simp only [Act.put, List.setIfInBounds_toArray, List.set_cons_zero, List.set_cons_succ]
          refine S.anyH_take 6 74 (.int .i64 x.scale) rfl rfl (by kernel_rfl) (by kernel_rfl) (by kernel_rfl) (fun _ _ _ h => h) (Or.inl ⟨by rfl, by intro w hSw; have q := hc5 _ (Bwj.trans (hSw.mono Bwj.size)); go_simp⟩) (Below.refl _ _) ?_
          try simp only [Act.put, List.setIfInBounds_toArray, List.set_cons_zero, List.set_cons_succ]
          refine S.anyH_take 7 75 (.int .u64 uS) rfl rfl (by kernel_rfl) (by kernel_rfl) (by kernel_rfl) (fun _ _ _ h => h) (Or.inl ⟨by rfl, by intro w hSw; go_simp⟩) (Below.refl _ _) ?_
          try simp only [Act.put, List.setIfInBounds_toArray, List.set_cons_zero, List.set_cons_succ]
          refine wpAnyH_ready (rs := [4]) (by kernel_rfl) (by simp) ?_
          refine AllReadyH.cons rfl (fun K hK => ?_) AllReadyH.nil
          go_simp
          go_wp2_with (go_at_call 38; refine (num_w _ _ _ _ _ _ Rwj W4.byt (by omega) uK0 uK1).mono ?_; rintro e w5 ⟨a5, n5, c5, Z5, rfl, W5, HZ5, l5⟩; have c5' : Below wj.heap.size wj w5 := W5.below)
          refine hK.out _ _ (c5') (fun hS => ?_)
          clear hK
          refine wpAnyH_ready (rs := [8]) (by kernel_rfl) (by simp) ?_
          refine AllReadyH.cons rfl (fun K hK => ?_) AllReadyH.nil
          go_simp
          go_wp2_with (go_at_call 38; refine (num_w _ _ _ _ _ _ W5.row W5.byt (by omega) uS0 uS1).mono ?_; rintro e w6 ⟨a6, n6, c6, Z6, rfl, W6, HZ6, l6⟩; have c6' : Below wj.heap.size wj w6 := c5'.trans (W6.below.mono c5'.size))
          refine hK.out _ _ (c6') (fun hS => ?_)
          clear hK
          refine S.anyH_take 9 3 (.slice a6 n6 c6) rfl rfl (by kernel_rfl) (by kernel_rfl) (by kernel_rfl) (fun _ _ _ h => h) (Or.inl ⟨by rfl, by intro w hSw; go_simp⟩) (c6') ?_
          try simp only [Act.put, List.setIfInBounds_toArray, List.set_cons_zero, List.set_cons_succ]
          refine wpAnyH_done (by kernel_rfl) ?_ _
          have r6 := W6.row
          have b6 : Below wb.heap.size wb w6 := Bwj.trans (c6'.mono Bwj.size)
          clear c5' c6' W4 W5 Rwj
          go_wp2
          obtain ⟨wk, hwk⟩ : ∃ wk, World.drew w6 = wk := ⟨_, rfl⟩
          have Bwk : Below wb.heap.size wb wk := by rw [← hwk]; exact b6.drew
          have Rwk : Row .u8 wk a6 n6 c6 Z6 := by rw [← hwk]; exact r6.drew
          refine wp_region_any (by kernel_rfl) ?_
          change wpAny _ _ _ _ _ _ _ (World.drew _)
          rw [hwk]
          refine S.wpAny_narrow (fun X => Below wk.heap.size wk X) _ _ _ _ ?_
          refine S.anyH_take 0 77 (.slice a6 n6 c6) rfl rfl (by kernel_rfl) (by kernel_rfl) (by kernel_rfl) (fun _ _ _ h => h) (Or.inl ⟨by rfl, by intro w hSw; go_simp⟩) (Below.refl _ _) ?_
          try simp only [Act.put, List.setIfInBounds_toArray, List.set_cons_zero, List.set_cons_succ]
          refine S.anyH_take 1 78 (.pointer (some ⟨wr.heap.size, 6, none⟩)) rfl rfl (by kernel_rfl) (by kernel_rfl) (by kernel_rfl) (fun _ _ _ h => h) (Or.inl ⟨by rfl, by intro w hSw; go_simp⟩) (Below.refl _ _) ?_
          try simp only [Act.put, List.setIfInBounds_toArray, List.set_cons_zero, List.set_cons_succ]
          refine S.anyH_take 2 79 (.pointer (some ⟨wr.heap.size, 6, none⟩)) rfl rfl (by kernel_rfl) (by kernel_rfl) (by kernel_rfl) (fun _ _ _ h => h) (Or.inl ⟨by rfl, by intro w hSw; go_simp⟩) (Below.refl _ _) ?_
          try simp only [Act.put, List.setIfInBounds_toArray, List.set_cons_zero, List.set_cons_succ]
          refine S.anyH_take 3 80 (.int .i64 x.ver) rfl rfl (by kernel_rfl) (by kernel_rfl) (by kernel_rfl) (fun _ _ _ h => h) (Or.inl ⟨by rfl, by intro w hSw; have q := hx6 _ (Bwk.trans (hSw.mono Bwk.size)); go_simp⟩) (Below.refl _ _) ?_
          try simp only [Act.put, List.setIfInBounds_toArray, List.set_cons_zero, List.set_cons_succ]
          refine S.anyH_take 4 81 (.int .u64 uV) rfl rfl (by kernel_rfl) (by kernel_rfl) (by kernel_rfl) (fun _ _ _ h => h) (Or.inl ⟨by rfl, by intro w hSw; go_simp⟩) (Below.refl _ _) ?_
          try simp only [Act.put, List.setIfInBounds_toArray, List.set_cons_zero, List.set_cons_succ]
          refine S.anyH_take 6 83 (.pointer (some ⟨wr.heap.size, 6, none⟩)) rfl rfl (by kernel_rfl) (by kernel_rfl) (by kernel_rfl) (fun _ _ _ h => h) (Or.inl ⟨by rfl, by intro w hSw; go_simp⟩) (Below.refl _ _) ?_
          try simp only [Act.put, List.setIfInBounds_toArray, List.set_cons_zero, List.set_cons_succ]
          refine S.anyH_take 7 84 (.pointer (some ⟨wr.heap.size, 7, none⟩)) rfl rfl (by kernel_rfl) (by kernel_rfl) (by kernel_rfl) (fun _ _ _ h => h) (Or.inl ⟨by rfl, by intro w hSw; go_simp⟩) (Below.refl _ _) ?_
          try simp only [Act.put, List.setIfInBounds_toArray, List.set_cons_zero, List.set_cons_succ]
          refine S.anyH_take 8 85 (.int .i64 x.writer) rfl rfl (by kernel_rfl) (by kernel_rfl) (by kernel_rfl) (fun _ _ _ h => h) (Or.inl ⟨by rfl, by intro w hSw; have q := hx7 _ (Bwk.trans (hSw.mono Bwk.size)); go_simp⟩) (Below.refl _ _) ?_
          try simp only [Act.put, List.setIfInBounds_toArray, List.set_cons_zero, List.set_cons_succ]
          refine S.anyH_take 9 86 (.int .u64 uW) rfl rfl (by kernel_rfl) (by kernel_rfl) (by kernel_rfl) (fun _ _ _ h => h) (Or.inl ⟨by rfl, by intro w hSw; go_simp⟩) (Below.refl _ _) ?_
          try simp only [Act.put, List.setIfInBounds_toArray, List.set_cons_zero, List.set_cons_succ]
          refine wpAnyH_ready (rs := [5]) (by kernel_rfl) (by simp) ?_
          refine AllReadyH.cons rfl (fun K hK => ?_) AllReadyH.nil
          go_simp
          go_wp2_with (go_at_call 38; refine (num_w _ _ _ _ _ _ Rwk W6.byt (by omega) uV0 uV1).mono ?_; rintro e w7 ⟨a7, n7, c7, Z7, rfl, W7, HZ7, l7⟩; have c7' : Below wk.heap.size wk w7 := W7.below)
          refine hK.out _ _ (c7') (fun hS => ?_)
          clear hK
          refine wpAnyH_ready (rs := [10]) (by kernel_rfl) (by simp) ?_
          refine AllReadyH.cons rfl (fun K hK => ?_) AllReadyH.nil
          go_simp
          go_wp2_with (go_at_call 38; refine (num_w _ _ _ _ _ _ W7.row W7.byt (by omega) uW0 uW1).mono ?_; rintro e w8 ⟨a8, n8, c8, Z8, rfl, W8, HZ8, l8⟩; have c8' : Below wk.heap.size wk w8 := c7'.trans (W8.below.mono c7'.size))
          refine hK.out _ _ (c8') (fun hS => ?_)
          clear hK
          refine S.anyH_take 11 3 (.slice a8 n8 c8) rfl rfl (by kernel_rfl) (by kernel_rfl) (by kernel_rfl) (fun _ _ _ h => h) (Or.inl ⟨by rfl, by intro w hSw; go_simp⟩) (c8') ?_
          try simp only [Act.put, List.setIfInBounds_toArray, List.set_cons_zero, List.set_cons_succ]
          refine wpAnyH_done (by kernel_rfl) ?_ _
          have r8 := W8.row
          have b8 : Below wb.heap.size wb w8 := Bwk.trans (c8'.mono Bwk.size)
          clear c7' c8' W6 W7 Rwk
          go_wp2
          obtain ⟨wl, hwl⟩ : ∃ wl, World.drew w8 = wl := ⟨_, rfl⟩
          have Bwl : Below wb.heap.size wb wl := by rw [← hwl]; exact b8.drew
          have Rwl : Row .u8 wl a8 n8 c8 Z8 := by rw [← hwl]; exact r8.drew
          refine wp_region_any (by kernel_rfl) ?_
          change wpAny _ _ _ _ _ _ _ (World.drew _)
          rw [hwl]
          refine S.wpAny_narrow (fun X => Below wl.heap.size wl X) _ _ _ _ ?_
          refine S.anyH_take 0 88 (.slice a8 n8 c8) rfl rfl (by kernel_rfl) (by kernel_rfl) (by kernel_rfl) (fun _ _ _ h => h) (Or.inl ⟨by rfl, by intro w hSw; go_simp⟩) (Below.refl _ _) ?_
          try simp only [Act.put, List.setIfInBounds_toArray, List.set_cons_zero, List.set_cons_succ]
          refine S.anyH_take 1 89 (.pointer (some ⟨wr.heap.size, 6, none⟩)) rfl rfl (by kernel_rfl) (by kernel_rfl) (by kernel_rfl) (fun _ _ _ h => h) (Or.inl ⟨by rfl, by intro w hSw; go_simp⟩) (Below.refl _ _) ?_
          try simp only [Act.put, List.setIfInBounds_toArray, List.set_cons_zero, List.set_cons_succ]
          refine S.anyH_take 2 90 (.pointer (some ⟨wr.heap.size, 8, none⟩)) rfl rfl (by kernel_rfl) (by kernel_rfl) (by kernel_rfl) (fun _ _ _ h => h) (Or.inl ⟨by rfl, by intro w hSw; go_simp⟩) (Below.refl _ _) ?_
          try simp only [Act.put, List.setIfInBounds_toArray, List.set_cons_zero, List.set_cons_succ]
          refine S.anyH_take 3 91 (.int .i64 x.flow) rfl rfl (by kernel_rfl) (by kernel_rfl) (by kernel_rfl) (fun _ _ _ h => h) (Or.inl ⟨by rfl, by intro w hSw; have q := hx8 _ (Bwl.trans (hSw.mono Bwl.size)); go_simp⟩) (Below.refl _ _) ?_
          try simp only [Act.put, List.setIfInBounds_toArray, List.set_cons_zero, List.set_cons_succ]
          refine S.anyH_take 5 93 (.pointer (some ⟨wr.heap.size, 9, none⟩)) rfl rfl (by kernel_rfl) (by kernel_rfl) (by kernel_rfl) (fun _ _ _ h => h) (Or.inl ⟨by rfl, by intro w hSw; go_simp⟩) (Below.refl _ _) ?_
          try simp only [Act.put, List.setIfInBounds_toArray, List.set_cons_zero, List.set_cons_succ]
          refine S.anyH_take 6 94 (.bool x.hasRest) rfl rfl (by kernel_rfl) (by kernel_rfl) (by kernel_rfl) (fun _ _ _ h => h) (Or.inl ⟨by rfl, by intro w hSw; have q := hx9 _ (Bwl.trans (hSw.mono Bwl.size)); go_simp⟩) (Below.refl _ _) ?_
          try simp only [Act.put, List.setIfInBounds_toArray, List.set_cons_zero, List.set_cons_succ]
          refine S.anyH_take 8 96 (.pointer (some ⟨wr.heap.size, 10, none⟩)) rfl rfl (by kernel_rfl) (by kernel_rfl) (by kernel_rfl) (fun _ _ _ h => h) (Or.inl ⟨by rfl, by intro w hSw; go_simp⟩) (Below.refl _ _) ?_
          try simp only [Act.put, List.setIfInBounds_toArray, List.set_cons_zero, List.set_cons_succ]
          refine S.anyH_take 9 97 (.int .i64 x.rest) rfl rfl (by kernel_rfl) (by kernel_rfl) (by kernel_rfl) (fun _ _ _ h => h) (Or.inl ⟨by rfl, by intro w hSw; have q := hx10 _ (Bwl.trans (hSw.mono Bwl.size)); go_simp⟩) (Below.refl _ _) ?_
          try simp only [Act.put, List.setIfInBounds_toArray, List.set_cons_zero, List.set_cons_succ]
          refine wpAnyH_ready (rs := [4]) (by kernel_rfl) (by simp) ?_
          refine AllReadyH.cons rfl (fun K hK => ?_) AllReadyH.nil
          go_simp
          go_wp2_with (go_at_call 61; refine (sgn_w _ _ _ _ _ _ Rwl W8.byt (by omega) hrg.flow.1 hrg.flow.2).mono ?_; rintro e w9 ⟨a9, n9, c9, Z9, rfl, W9, HZ9, l9⟩; have c9' : Below wl.heap.size wl w9 := W9.below)
          refine hK.out _ _ (c9') (fun hS => ?_)
          clear hK
          refine wpAnyH_ready (rs := [7]) (by kernel_rfl) (by simp) ?_
          refine AllReadyH.cons rfl (fun K hK => ?_) AllReadyH.nil
          go_simp
          go_wp2_with (go_at_call 60; refine (flg_w _ _ _ _ _ _ W9.row W9.byt (by omega)).mono ?_; rintro e w10 ⟨a10, n10, c10, Z10, rfl, W10, HZ10, l10⟩; have c10' : Below wl.heap.size wl w10 := c9'.trans (W10.below.mono c9'.size))
          refine hK.out _ _ (c10') (fun hS => ?_)
          clear hK
          refine wpAnyH_ready (rs := [10]) (by kernel_rfl) (by simp) ?_
          refine AllReadyH.cons rfl (fun K hK => ?_) AllReadyH.nil
          go_simp
          go_wp2_with (go_at_call 61; refine (sgn_w _ _ _ _ _ _ W10.row W10.byt (by omega) hrg.rest.1 hrg.rest.2).mono ?_; rintro e w11 ⟨a11, n11, c11, Z11, rfl, W11, HZ11, l11⟩; have c11' : Below wl.heap.size wl w11 := c10'.trans (W11.below.mono c10'.size))
          refine hK.out _ _ (c11') (fun hS => ?_)
          clear hK
          refine S.anyH_take 11 3 (.slice a11 n11 c11) rfl rfl (by kernel_rfl) (by kernel_rfl) (by kernel_rfl) (fun _ _ _ h => h) (Or.inl ⟨by rfl, by intro w hSw; go_simp⟩) (c11') ?_
          try simp only [Act.put, List.setIfInBounds_toArray, List.set_cons_zero, List.set_cons_succ]
          refine wpAnyH_done (by kernel_rfl) ?_ _
          have r11 := W11.row
          have b11 : Below wb.heap.size wb w11 := Bwl.trans (c11'.mono Bwl.size)
          clear c9' c10' c11' W8 W9 W10 Rwl
          go_wp2
          obtain ⟨wm, hwm⟩ : ∃ wm, World.drew w11 = wm := ⟨_, rfl⟩
          have Bwm : Below wb.heap.size wb wm := by rw [← hwm]; exact b11.drew
          have Rwm : Row .u8 wm a11 n11 c11 Z11 := by rw [← hwm]; exact r11.drew
          refine wp_region_any (by kernel_rfl) ?_
          change wpAny _ _ _ _ _ _ _ (World.drew _)
          rw [hwm]
          refine S.wpAny_narrow (fun X => Below wm.heap.size wm X) _ _ _ _ ?_
          refine S.anyH_take 0 99 (.slice a11 n11 c11) rfl rfl (by kernel_rfl) (by kernel_rfl) (by kernel_rfl) (fun _ _ _ h => h) (Or.inl ⟨by rfl, by intro w hSw; go_simp⟩) (Below.refl _ _) ?_
          try simp only [Act.put, List.setIfInBounds_toArray, List.set_cons_zero, List.set_cons_succ]
          refine S.anyH_take 1 100 (.pointer (some ⟨wr.heap.size, 11, none⟩)) rfl rfl (by kernel_rfl) (by kernel_rfl) (by kernel_rfl) (fun _ _ _ h => h) (Or.inl ⟨by rfl, by intro w hSw; go_simp⟩) (Below.refl _ _) ?_
          try simp only [Act.put, List.setIfInBounds_toArray, List.set_cons_zero, List.set_cons_succ]
          refine S.anyH_take 2 101 (exV x.mn) rfl rfl (by kernel_rfl) (by kernel_rfl) (by kernel_rfl) (fun _ _ _ h => h) (Or.inl ⟨by rfl, by intro w hSw; have q0 := hx11 _ (Bwm.trans (hSw.mono Bwm.size)); have q1 := hx12 _ (Bwm.trans (hSw.mono Bwm.size)); have q2 := hx13 _ (Bwm.trans (hSw.mono Bwm.size)); have q3 := hx14 _ (Bwm.trans (hSw.mono Bwm.size)); go_simp⟩) (Below.refl _ _) ?_
          try simp only [Act.put, List.setIfInBounds_toArray, List.set_cons_zero, List.set_cons_succ]
          refine S.anyH_take 4 103 (.pointer (some ⟨wr.heap.size, 15, none⟩)) rfl rfl (by kernel_rfl) (by kernel_rfl) (by kernel_rfl) (fun _ _ _ h => h) (Or.inl ⟨by rfl, by intro w hSw; go_simp⟩) (Below.refl _ _) ?_
          try simp only [Act.put, List.setIfInBounds_toArray, List.set_cons_zero, List.set_cons_succ]
          refine S.anyH_take 5 104 (exV x.mx) rfl rfl (by kernel_rfl) (by kernel_rfl) (by kernel_rfl) (fun _ _ _ h => h) (Or.inl ⟨by rfl, by intro w hSw; have q0 := hx15 _ (Bwm.trans (hSw.mono Bwm.size)); have q1 := hx16 _ (Bwm.trans (hSw.mono Bwm.size)); have q2 := hx17 _ (Bwm.trans (hSw.mono Bwm.size)); have q3 := hx18 _ (Bwm.trans (hSw.mono Bwm.size)); go_simp⟩) (Below.refl _ _) ?_
          try simp only [Act.put, List.setIfInBounds_toArray, List.set_cons_zero, List.set_cons_succ]
          refine wpAnyH_ready (rs := [3]) (by kernel_rfl) (by simp) ?_
          refine AllReadyH.cons rfl (fun K hK => ?_) AllReadyH.nil
          go_simp
          go_wp2_with (go_at_call 62; refine (ext_any _ _ _ _ _ _ Rwm W11.byt (by omega) hrg.mn.1 hrg.mn.2).mono ?_; rintro e w12 ⟨a12, n12, c12, Z12, rfl, W12, HZ12, l12⟩; have c12' : Below wm.heap.size wm w12 := W12.below)
          refine hK.out _ _ (c12') (fun hS => ?_)
          clear hK
          refine wpAnyH_ready (rs := [6]) (by kernel_rfl) (by simp) ?_
          refine AllReadyH.cons rfl (fun K hK => ?_) AllReadyH.nil
          go_simp
          go_wp2_with (go_at_call 62; refine (ext_any _ _ _ _ _ _ W12.row W12.byt (by omega) hrg.mx.1 hrg.mx.2).mono ?_; rintro e w13 ⟨a13, n13, c13, Z13, rfl, W13, HZ13, l13⟩; have c13' : Below wm.heap.size wm w13 := c12'.trans (W13.below.mono c12'.size))
          refine hK.out _ _ (c13') (fun hS => ?_)
          clear hK
          refine S.anyH_take 7 3 (.slice a13 n13 c13) rfl rfl (by kernel_rfl) (by kernel_rfl) (by kernel_rfl) (fun _ _ _ h => h) (Or.inl ⟨by rfl, by intro w hSw; go_simp⟩) (c13') ?_
          try simp only [Act.put, List.setIfInBounds_toArray, List.set_cons_zero, List.set_cons_succ]
          refine wpAnyH_done (by kernel_rfl) ?_ _
          have r13 := W13.row
          have b13 : Below wb.heap.size wb w13 := Bwm.trans (c13'.mono Bwm.size)
          go_wp2
          go_roundg (gk - 1)
          case measure => have := HG.out; omega
          case rel =>
            refine ⟨i + 1, a13, n13, c13, Z13, rfl, by first | rfl | go_num, by have := HG.out; omega, r13, W13.byt, W13.own.at (by have h1 := c12'.size; have h2 := Bwm.size; have h3 := hB.size; omega), (hB.trans (hBb.mono hB.size)).trans (b13.mono (by have h3 := hB.size; have h4 := hBb.size; omega)), ?_⟩
            show _ = _
            rw [take_itsF _ _ (by have := HL.out; omega), HX.out, flds_append, flds_it, HUE.out, HUM.out, HUK.out, HUS.out, HUV.out, HUW.out]
            rw [HZ13.out, HZ12.out, HZ11.out, HZ10.out, HZ9.out, HZ8.out, HZ7.out, HZ6.out, HZ5.out, HZ4.out, HZ3.out, HZ2.out, HZ1.out, HZ0.out]
            simp only [List.append_assoc]
        · have HE : Hid (Z0 = bodyP p) := by
            show _ = _
            rw [HZ0.out, bodyP, List.take_of_length_le (by have := HL.out; omega)]
          go_wp2
          go_ret
          refine ⟨_, rfl, ?_, B1.trans (hB.mono (Nat.le_of_lt hz0))⟩
          rw [← HE.out]
          exact own0

end Go.Proofs.YticmjlnpjopfbaaDoor

namespace Go.Proofs.YticmjlnpjopfbaaDoor
open Go.ChangeShapes Go.WideShapes Go.ChangeAt Go.RowKit
set_option linter.unusedVariables false
set_option linter.unusedSimpArgs false

theorem rg_ok {x : Itm} (h : itOk x) : itRg x := ⟨h.flow, h.rest, h.mn.value, h.mx.value⟩

set_option maxRecDepth 100000 in
set_option maxHeartbeats 4000000 in
theorem rencode_any (p : Pkt) (a : Option Addr) (len cap : Nat) (w : World) (R : RowI w a len cap p.items) :
    Calls Tryd.prog 13 #[pkv p a len cap] w fun e w' => ∃ v, e = .returned v ∧ S.Own w.heap.size w' v (encP p) ∧ Below w.heap.size w w' := by
  have B1 : Below w.heap.size w (w.alloc (pkObj p a len cap)) := (Below.refl _ _).alloc (Nat.le_refl _) _
  have R1 := R.alloc (pkObj p a len cap)
  have P1 := pkAt_new w p a len cap
  have KF := fun w1 (R' : RowI w1 a len cap p.items) => rfit_any p a len cap w1 R'
  cases hf : fitP p with
  | false =>
    rw [show encP p = [] by rw [encP, hf]; rfl]
    rw [hf] at KF
    go_enter Tryd.func13, Tryd.ntmps13
    go_wp2_with (go_at_call 11; refine (KF _ R1).mono ?_; rintro e w1 ⟨rfl, hb1⟩)
    go_ret
    exact ⟨_, rfl, S.Own.nil _ _, B1.trans (hb1.mono B1.size)⟩
  | true =>
    rw [encP_fit hf]
    rw [hf] at KF
    have hbl := bodyP_len hf
    have hok := (fitP_ok hf).1
    have hby : S.Byt (bodyP p) := bodyP_byte hok
    have KB := fun w1 (R' : RowI w1 a len cap p.items) => body_any p a len cap w1 R' (by omega) (fun x hx => rg_ok (hok.items x hx))
    obtain ⟨zs, hzs⟩ : ∃ zs, bodyP p = zs := ⟨_, rfl⟩
    rw [hzs] at KB hbl hby ⊢
    clear hzs hok hf
    go_enter Tryd.func13, Tryd.ntmps13
    go_wp2_with (first
      | (go_at_call 11; refine (KF _ R1).mono ?_; rintro e w1 ⟨rfl, hb1⟩; have PKx := P1.below hb1; have R2 := R1.below hb1; have B2 : Below w.heap.size w w1 := B1.trans (hb1.mono B1.size))
      | ((with_reducible show wpList _ _ _ (Oper.mk _ (Op.load 24 _) _ _ _ _ :: _) _ _); refine wpList_loadPk _ rfl rfl _ _ _ _ _ PKx rfl ?_)
      | (go_at_call 37; refine (KB _ R2).mono ?_; rintro e w2 ⟨v2, rfl, own2, hb2⟩; have O2 : S.Own w1.heap.size w2 v2 zs := own2; obtain ⟨a2, n2, c2, rfl, r2, hn2⟩ := O2.row' hby; have hn3 : n2 ≤ 9223372036854775807 := (by omega); clear hn2; have B3 : Below w.heap.size w w2 := B2.trans (hb2.mono B2.size))
      | (go_at_call 23; refine (S.rseal_any _ _ _ _ w2 r2 hn3).mono ?_; rintro e w3 ⟨so3, hb3⟩; unfold S.SealOut at so3; rw [if_neg (by omega)] at so3; obtain ⟨v3, rfl, own3⟩ := so3))
    go_ret
    exact ⟨_, rfl, own3.at (by have := B3.size; omega), B3.trans (hb3.mono B3.size)⟩

end Go.Proofs.YticmjlnpjopfbaaDoor

namespace Go.Proofs.YticmjlnpjopfbaaDoor
open Go.ChangeShapes Go.WideShapes Go.ChangeAt Go.RowKit
set_option linter.unusedVariables false
set_option linter.unusedSimpArgs false

def sameI (x y : Itm) : Bool := (((x.name.toList == y.name.toList) && ((x.epoch == y.epoch) && ((x.maker == y.maker) && ((x.alive == y.alive) && ((x.kind == y.kind) && ((x.scale == y.scale) && true)))))) && (((x.ver == y.ver) && ((x.writer == y.writer) && ((x.flow == y.flow) && true))) && ((x.hasRest == y.hasRest) && ((x.rest == y.rest) && (((x.mn.has == y.mn.has) && ((x.mn.value == y.mn.value) && ((x.mn.origin == y.mn.origin) && ((x.mn.age == y.mn.age) && true)))) && (((x.mx.has == y.mx.has) && ((x.mx.value == y.mx.value) && ((x.mx.origin == y.mx.origin) && ((x.mx.age == y.mx.age) && true)))) && true))))))
theorem bytes_ext {a b : ByteArray} (h : a.toList = b.toList) : a = b := by
  cases a; cases b; simp [ByteArray.toList_eq] at h; simpa using h
theorem sameI_iff (x y : Itm) : sameI x y = true ↔ x = y := by
  constructor
  · intro h
    simp only [sameI, Bool.and_eq_true, beq_iff_eq, Bool.and_true] at h
    obtain ⟨⟨h0, h1, h2, h3, h4, h5⟩, ⟨h6, h7, h8⟩, h9, h10, ⟨h11, h12, h13, h14⟩, h15, h16, h17, h18⟩ := h
    have h0 := bytes_ext h0
    obtain ⟨x0, x1, x2, x3, x4, x5, x6, x7, x8, x9, x10, ⟨x11, x12, x13, x14⟩, x15, x16, x17, x18⟩ := x
    obtain ⟨y0, y1, y2, y3, y4, y5, y6, y7, y8, y9, y10, ⟨y11, y12, y13, y14⟩, y15, y16, y17, y18⟩ := y
    simp_all
  · rintro rfl
    simp [sameI]
theorem neq_it (w : World) (x y : Itm) : (binOp .neq 38 (itv x) (itv y)).run Tryd.prog w = .ok (.bool (!sameI x y)) w := neq38 w _ _ _ _ _ _ _ _ _ _ _ _ _ _ _ _ _ _ _ _ _ _ _ _ _ _ _ _ _ _ _ _ _ _ _ _ _ _
theorem eql_it (w : World) (x y : Itm) : (binOp .eql 38 (itv x) (itv y)).run Tryd.prog w = .ok (.bool (sameI x y)) w := eql38 w _ _ _ _ _ _ _ _ _ _ _ _ _ _ _ _ _ _ _ _ _ _ _ _ _ _ _ _ _ _ _ _ _ _ _ _ _ _
theorem exec_neqit {o : Oper} {ρ : Operand → Value} {a b : Operand} (ho : o.op = .binOp .neq 38 a b 38) (x y : Itm) (hx : ρ a = itv x) (hy : ρ b = itv y) (X : World) : (execOp ρ o).run Tryd.prog X = .ok (.value (.bool (!sameI x y))) X := by
  have hm : Tryd.prog.eqGuardType Tryd.prog.depth 38 = false := by kernel_rfl
  have hn := neq_it X x y
  unfold itv at hx hy hn
  unfold execOp
  simp only [ho, hx, hy, Sem.run_bind, run_eqGuard_agg _ _ _ _ _ _ _ hm, hn, Result.andThen_ok, Sem.run_pure]
set_option maxRecDepth 100000 in
set_option maxHeartbeats 4000000 in
theorem rsame_h0 (p q : Pkt) (a a2 : Option Addr) (len cap len2 cap2 : Nat) (w : World) (R : RowI w a len cap p.items) (R2 : RowI w a2 len2 cap2 q.items)  (e0 : (p.kind != q.kind) = true) : Calls Tryd.prog 14 #[pkv p a len cap, pkv q a2 len2 cap2] w fun e w' => e = .returned (.bool false) ∧ Below w.heap.size w w' := by
  clear R R2
  go_enter Tryd.func14, Tryd.ntmps14
  go_wp2
  all_goals go_ret
  all_goals exact ⟨by first | rfl | exact C.ret_bool (by simp_all), ((Below.refl _ _).alloc (Nat.le_refl _) _).alloc (by simp) _⟩
set_option maxRecDepth 100000 in
set_option maxHeartbeats 4000000 in
theorem rsame_h1 (p q : Pkt) (a a2 : Option Addr) (len cap len2 cap2 : Nat) (w : World) (R : RowI w a len cap p.items) (R2 : RowI w a2 len2 cap2 q.items) (e0 : (p.kind != q.kind) = false) (e1 : (p.src != q.src) = true) : Calls Tryd.prog 14 #[pkv p a len cap, pkv q a2 len2 cap2] w fun e w' => e = .returned (.bool false) ∧ Below w.heap.size w w' := by
  clear R R2
  go_enter Tryd.func14, Tryd.ntmps14
  go_wp2
  all_goals go_ret
  all_goals exact ⟨by first | rfl | exact C.ret_bool (by simp_all), ((Below.refl _ _).alloc (Nat.le_refl _) _).alloc (by simp) _⟩
set_option maxRecDepth 100000 in
set_option maxHeartbeats 4000000 in
theorem rsame_h2 (p q : Pkt) (a a2 : Option Addr) (len cap len2 cap2 : Nat) (w : World) (R : RowI w a len cap p.items) (R2 : RowI w a2 len2 cap2 q.items) (e0 : (p.kind != q.kind) = false) (e1 : (p.src != q.src) = false) (e2 : (p.dst != q.dst) = true) : Calls Tryd.prog 14 #[pkv p a len cap, pkv q a2 len2 cap2] w fun e w' => e = .returned (.bool false) ∧ Below w.heap.size w w' := by
  clear R R2
  go_enter Tryd.func14, Tryd.ntmps14
  go_wp2
  all_goals go_ret
  all_goals exact ⟨by first | rfl | exact C.ret_bool (by simp_all), ((Below.refl _ _).alloc (Nat.le_refl _) _).alloc (by simp) _⟩
set_option maxRecDepth 100000 in
set_option maxHeartbeats 4000000 in
theorem rsame_h3 (p q : Pkt) (a a2 : Option Addr) (len cap len2 cap2 : Nat) (w : World) (R : RowI w a len cap p.items) (R2 : RowI w a2 len2 cap2 q.items) (e0 : (p.kind != q.kind) = false) (e1 : (p.src != q.src) = false) (e2 : (p.dst != q.dst) = false) (e3 : (p.boot != q.boot) = true) : Calls Tryd.prog 14 #[pkv p a len cap, pkv q a2 len2 cap2] w fun e w' => e = .returned (.bool false) ∧ Below w.heap.size w w' := by
  clear R R2
  go_enter Tryd.func14, Tryd.ntmps14
  go_wp2
  all_goals go_ret
  all_goals exact ⟨by first | rfl | exact C.ret_bool (by simp_all), ((Below.refl _ _).alloc (Nat.le_refl _) _).alloc (by simp) _⟩
set_option maxRecDepth 100000 in
set_option maxHeartbeats 4000000 in
theorem rsame_h4 (p q : Pkt) (a a2 : Option Addr) (len cap len2 cap2 : Nat) (w : World) (R : RowI w a len cap p.items) (R2 : RowI w a2 len2 cap2 q.items) (e0 : (p.kind != q.kind) = false) (e1 : (p.src != q.src) = false) (e2 : (p.dst != q.dst) = false) (e3 : (p.boot != q.boot) = false) (e4 : (p.life != q.life) = true) : Calls Tryd.prog 14 #[pkv p a len cap, pkv q a2 len2 cap2] w fun e w' => e = .returned (.bool false) ∧ Below w.heap.size w w' := by
  clear R R2
  go_enter Tryd.func14, Tryd.ntmps14
  go_wp2
  all_goals go_ret
  all_goals exact ⟨by first | rfl | exact C.ret_bool (by simp_all), ((Below.refl _ _).alloc (Nat.le_refl _) _).alloc (by simp) _⟩
set_option maxRecDepth 100000 in
set_option maxHeartbeats 4000000 in
theorem rsame_h5 (p q : Pkt) (a a2 : Option Addr) (len cap len2 cap2 : Nat) (w : World) (R : RowI w a len cap p.items) (R2 : RowI w a2 len2 cap2 q.items) (e0 : (p.kind != q.kind) = false) (e1 : (p.src != q.src) = false) (e2 : (p.dst != q.dst) = false) (e3 : (p.boot != q.boot) = false) (e4 : (p.life != q.life) = false) (e5 : (p.echo != q.echo) = true) : Calls Tryd.prog 14 #[pkv p a len cap, pkv q a2 len2 cap2] w fun e w' => e = .returned (.bool false) ∧ Below w.heap.size w w' := by
  clear R R2
  go_enter Tryd.func14, Tryd.ntmps14
  go_wp2
  all_goals go_ret
  all_goals exact ⟨by first | rfl | exact C.ret_bool (by simp_all), ((Below.refl _ _).alloc (Nat.le_refl _) _).alloc (by simp) _⟩
set_option maxRecDepth 100000 in
set_option maxHeartbeats 4000000 in
theorem rsame_h6 (p q : Pkt) (a a2 : Option Addr) (len cap len2 cap2 : Nat) (w : World) (R : RowI w a len cap p.items) (R2 : RowI w a2 len2 cap2 q.items) (e0 : (p.kind != q.kind) = false) (e1 : (p.src != q.src) = false) (e2 : (p.dst != q.dst) = false) (e3 : (p.boot != q.boot) = false) (e4 : (p.life != q.life) = false) (e5 : (p.echo != q.echo) = false) (e6 : (p.echoLife != q.echoLife) = true) : Calls Tryd.prog 14 #[pkv p a len cap, pkv q a2 len2 cap2] w fun e w' => e = .returned (.bool false) ∧ Below w.heap.size w w' := by
  clear R R2
  go_enter Tryd.func14, Tryd.ntmps14
  go_wp2
  all_goals go_ret
  all_goals exact ⟨by first | rfl | exact C.ret_bool (by simp_all), ((Below.refl _ _).alloc (Nat.le_refl _) _).alloc (by simp) _⟩
set_option maxRecDepth 100000 in
set_option maxHeartbeats 4000000 in
theorem rsame_l (p q : Pkt) (a a2 : Option Addr) (len cap len2 cap2 : Nat) (w : World) (R : RowI w a len cap p.items) (R2 : RowI w a2 len2 cap2 q.items) (e0 : (p.kind != q.kind) = false) (e1 : (p.src != q.src) = false) (e2 : (p.dst != q.dst) = false) (e3 : (p.boot != q.boot) = false) (e4 : (p.life != q.life) = false) (e5 : (p.echo != q.echo) = false) (e6 : (p.echoLife != q.echoLife) = false) (e7 : ((len : Int) != (len2 : Int)) = true) : Calls Tryd.prog 14 #[pkv p a len cap, pkv q a2 len2 cap2] w fun e w' => e = .returned (.bool false) ∧ Below w.heap.size w w' := by
  clear R R2
  go_enter Tryd.func14, Tryd.ntmps14
  go_wp2
  all_goals go_ret
  all_goals exact ⟨by first | rfl | exact C.ret_bool (by simp_all), ((Below.refl _ _).alloc (Nat.le_refl _) _).alloc (by simp) _⟩
set_option maxRecDepth 100000 in
set_option maxHeartbeats 4000000 in
theorem rsame_its (p q : Pkt) (a a2 : Option Addr) (len cap cap2 : Nat) (w : World) (R : RowI w a len cap p.items) (R2 : RowI w a2 len cap2 q.items) (e0 : (p.kind != q.kind) = false) (e1 : (p.src != q.src) = false) (e2 : (p.dst != q.dst) = false) (e3 : (p.boot != q.boot) = false) (e4 : (p.life != q.life) = false) (e5 : (p.echo != q.echo) = false) (e6 : (p.echoLife != q.echoLife) = false) (e7 : ((len : Int) != (len : Int)) = false) (r : Bool) (hr : r = true ↔ p.items = q.items) : Calls Tryd.prog 14 #[pkv p a len cap, pkv q a2 len cap2] w fun e w' => e = .returned (.bool r) ∧ Below w.heap.size w w' := by
  have B1 : Below w.heap.size w ((w.alloc (pkObj p a len cap)).alloc (pkObj q a2 len cap2)) := ((Below.refl _ _).alloc (Nat.le_refl _) _).alloc (by simp) _
  have HR : Hid (RowI ((w.alloc (pkObj p a len cap)).alloc (pkObj q a2 len cap2)) a len cap p.items) := (R.alloc _).alloc _
  have HR2 : Hid (RowI ((w.alloc (pkObj p a len cap)).alloc (pkObj q a2 len cap2)) a2 len cap2 q.items) := (R2.alloc _).alloc _
  have HPK : Hid (PkAt ((w.alloc (pkObj p a len cap)).alloc (pkObj q a2 len cap2)) w.heap.size p a len cap) := (pkAt_new w p a len cap).below ((Below.refl _ _).alloc (Nat.le_refl _) _)
  have HQK : Hid (PkAt ((w.alloc (pkObj p a len cap)).alloc (pkObj q a2 len cap2)) (w.heap.size + 1) q a2 len cap2) := by have := pkAt_new (w.alloc (pkObj p a len cap)) q a2 len cap2; rw [World.size_alloc] at this; exact this
  have HL : Hid (p.items.length = len) := R.size
  have HL2 : Hid (q.items.length = len) := R2.size
  have hle := R.le
  have hcp := R.max
  have hle2 := R2.le
  have hcp2 := R2.max
  have HRr : Hid (r = true ↔ p.items = q.items) := hr
  clear R R2 hr
  go_enter Tryd.func14, Tryd.ntmps14
  go_wp2
  clear e0 e1 e2 e3 e4 e5 e6 e7
  obtain ⟨W0, hW0⟩ : ∃ W0, (w.alloc (pkObj p a len cap)).alloc (pkObj q a2 len cap2) = W0 := ⟨_, rfl⟩
  have hz0 : w.heap.size + 1 < W0.heap.size := by rw [← hW0]; simp
  rw [hW0] at HR HR2 HPK HQK B1 ⊢
  clear hW0
  go_loopg [5] len (fun g c wr => ∃ i : Nat, c = .int .i64 i ∧ i + g = len ∧ Hid (∀ j, j < i → p.items.getD j itZ = q.items.getD j itZ) ∧ Below W0.heap.size W0 wr)
  case atStart => exact ⟨0, rfl, by omega, fun j hj => by omega, Below.refl _ _⟩
  case round =>
    obtain ⟨i, rfl, hg, HA, hB⟩ := hrel
    have HG : Hid (i + gk = len) := hg
    have hi8 : i ≤ len := by omega
    clear hg
    have PK := HPK.out.below hB
    have QK := HQK.out.below hB
    have c7 := PK 7 _ rfl
    by_cases hlt : i < len
    · have hI64 : (i : Int) < (len : Int) := by omega
      obtain ⟨b, off, rfl, hbz, hIt⟩ := (HR.out.below hB).mem.resolve_left (by omega)
      obtain ⟨b2, off2, rfl, hbz2, hIt2⟩ := (HR2.out.below hB).mem.resolve_left (by omega)
      have Ix0 := hIt i hlt
      have Iy0 := hIt2 i hlt
      obtain ⟨x, hx⟩ : ∃ x, p.items.getD i itZ = x := ⟨_, rfl⟩
      obtain ⟨y, hy⟩ : ∃ y, q.items.getD i itZ = y := ⟨_, rfl⟩
      rw [hx] at Ix0
      rw [hy] at Iy0
      have HX : Hid (p.items.getD i itZ = x) := hx
      have HY : Hid (q.items.getD i itZ = y) := hy
      clear hx hy
      obtain ⟨wd, hwd⟩ : ∃ wd, World.drew wr = wd := ⟨_, rfl⟩
      have Bd : Below W0.heap.size W0 wd := by rw [← hwd]; exact hB.drew
      have PKr : PkAt wd w.heap.size p (some ⟨b, off, none⟩) len cap := by rw [← hwd]; exact PK.of_block rfl
      have QKr : PkAt wd (w.heap.size + 1) q (some ⟨b2, off2, none⟩) len cap2 := by rw [← hwd]; exact QK.of_block rfl
      have Ix : ItAt wd b (off + i * 19) x := by rw [← hwd]; exact Ix0.drew
      have Iy : ItAt wd b2 (off2 + i * 19) y := by rw [← hwd]; exact Iy0.drew
      cases hsame : sameI x y with
      | false =>
        have HE : Hid (r = false) := by
          show _ = _
          cases r with
          | false => rfl
          | true =>
            have h := HRr.out.1 rfl
            have h1 := HX.out
            rw [h, HY.out] at h1
            rw [(sameI_iff x y).2 h1.symm] at hsame
            cases hsame
        go_wp2
        refine wp_region_any (by kernel_rfl) ?_
        change wpAny _ _ _ _ _ _ _ (World.drew _)
        rw [hwd]
        refine S.wpAny_narrow (fun X => Below wd.heap.size wd X) _ _ _ _ ?_
        refine S.anyH_take 0 69 (.pointer (some ⟨w.heap.size, 7, none⟩)) rfl rfl (by kernel_rfl) (by kernel_rfl) (by kernel_rfl) (fun _ _ _ h => h) (Or.inl ⟨by rfl, by intro w hSw; go_simp⟩) (Below.refl _ _) ?_
        try simp only [Act.put, List.setIfInBounds_toArray, List.set_cons_zero, List.set_cons_succ]
        refine S.anyH_take 1 70 (.slice (some ⟨b, off, none⟩) len cap) rfl rfl (by kernel_rfl) (by kernel_rfl) (by kernel_rfl) (fun _ _ _ h => h) (Or.inl ⟨by rfl, by intro w hSw; have q7 := (PKr.below hSw) 7 _ rfl; go_simp⟩) (Below.refl _ _) ?_
        try simp only [Act.put, List.setIfInBounds_toArray, List.set_cons_zero, List.set_cons_succ]
        refine S.anyH_take 2 71 (.int .i64 (i : Int)) rfl rfl (by kernel_rfl) (by kernel_rfl) (by kernel_rfl) (fun _ _ _ h => h) (Or.inl ⟨by rfl, by intro w hSw; go_simp⟩) (Below.refl _ _) ?_
        try simp only [Act.put, List.setIfInBounds_toArray, List.set_cons_zero, List.set_cons_succ]
        refine S.anyH_take 3 72 (.pointer (some ⟨b, off + i * 19, none⟩)) rfl rfl (by kernel_rfl) (by kernel_rfl) (by kernel_rfl) (fun _ _ _ h => h) (Or.inl ⟨by rfl, by intro w hSw; go_simp⟩) (Below.refl _ _) ?_
        try simp only [Act.put, List.setIfInBounds_toArray, List.set_cons_zero, List.set_cons_succ]
        refine S.anyH_take 4 73 (itv x) rfl rfl (by kernel_rfl) (by kernel_rfl) (by kernel_rfl) (fun _ _ _ h => h) (Or.inl ⟨by rfl, by intro w' hSw; exact exec_load38 rfl rfl (Ix.below hSw)⟩) (Below.refl _ _) ?_
        try simp only [Act.put, List.setIfInBounds_toArray, List.set_cons_zero, List.set_cons_succ]
        refine S.anyH_take 5 74 (.pointer (some ⟨w.heap.size + 1, 7, none⟩)) rfl rfl (by kernel_rfl) (by kernel_rfl) (by kernel_rfl) (fun _ _ _ h => h) (Or.inl ⟨by rfl, by intro w hSw; go_simp⟩) (Below.refl _ _) ?_
        try simp only [Act.put, List.setIfInBounds_toArray, List.set_cons_zero, List.set_cons_succ]
        refine S.anyH_take 6 75 (.slice (some ⟨b2, off2, none⟩) len cap2) rfl rfl (by kernel_rfl) (by kernel_rfl) (by kernel_rfl) (fun _ _ _ h => h) (Or.inl ⟨by rfl, by intro w hSw; have q7 := (QKr.below hSw) 7 _ rfl; go_simp⟩) (Below.refl _ _) ?_
        try simp only [Act.put, List.setIfInBounds_toArray, List.set_cons_zero, List.set_cons_succ]
        refine S.anyH_take 7 76 (.int .i64 (i : Int)) rfl rfl (by kernel_rfl) (by kernel_rfl) (by kernel_rfl) (fun _ _ _ h => h) (Or.inl ⟨by rfl, by intro w hSw; go_simp⟩) (Below.refl _ _) ?_
        try simp only [Act.put, List.setIfInBounds_toArray, List.set_cons_zero, List.set_cons_succ]
        refine S.anyH_take 8 77 (.pointer (some ⟨b2, off2 + i * 19, none⟩)) rfl rfl (by kernel_rfl) (by kernel_rfl) (by kernel_rfl) (fun _ _ _ h => h) (Or.inl ⟨by rfl, by intro w hSw; go_simp⟩) (Below.refl _ _) ?_
        try simp only [Act.put, List.setIfInBounds_toArray, List.set_cons_zero, List.set_cons_succ]
        refine S.anyH_take 9 78 (itv y) rfl rfl (by kernel_rfl) (by kernel_rfl) (by kernel_rfl) (fun _ _ _ h => h) (Or.inl ⟨by rfl, by intro w' hSw; exact exec_load38 rfl rfl (Iy.below hSw)⟩) (Below.refl _ _) ?_
        try simp only [Act.put, List.setIfInBounds_toArray, List.set_cons_zero, List.set_cons_succ]
        refine S.anyH_take 10 79 (.bool true) rfl rfl (by kernel_rfl) (by kernel_rfl) (by kernel_rfl) (fun _ _ _ h => h) (Or.inl ⟨by rfl, by intro w9 hSw; exact (exec_neqit rfl x y rfl rfl w9).trans (by rw [hsame]; rfl)⟩) (Below.refl _ _) ?_
        try simp only [Act.put, List.setIfInBounds_toArray, List.set_cons_zero, List.set_cons_succ]
        refine wpAnyH_done (by kernel_rfl) ?_ _
        go_wp2
        go_ret
        rw [HE.out]
        exact ⟨rfl, B1.trans (Bd.mono (by omega))⟩
      | true =>
        have HXY : Hid (x = y) := (sameI_iff x y).1 hsame
        go_wp2
        refine wp_region_any (by kernel_rfl) ?_
        change wpAny _ _ _ _ _ _ _ (World.drew _)
        rw [hwd]
        refine S.wpAny_narrow (fun X => Below wd.heap.size wd X) _ _ _ _ ?_
        refine S.anyH_take 0 69 (.pointer (some ⟨w.heap.size, 7, none⟩)) rfl rfl (by kernel_rfl) (by kernel_rfl) (by kernel_rfl) (fun _ _ _ h => h) (Or.inl ⟨by rfl, by intro w hSw; go_simp⟩) (Below.refl _ _) ?_
        try simp only [Act.put, List.setIfInBounds_toArray, List.set_cons_zero, List.set_cons_succ]
        refine S.anyH_take 1 70 (.slice (some ⟨b, off, none⟩) len cap) rfl rfl (by kernel_rfl) (by kernel_rfl) (by kernel_rfl) (fun _ _ _ h => h) (Or.inl ⟨by rfl, by intro w hSw; have q7 := (PKr.below hSw) 7 _ rfl; go_simp⟩) (Below.refl _ _) ?_
        try simp only [Act.put, List.setIfInBounds_toArray, List.set_cons_zero, List.set_cons_succ]
        refine S.anyH_take 2 71 (.int .i64 (i : Int)) rfl rfl (by kernel_rfl) (by kernel_rfl) (by kernel_rfl) (fun _ _ _ h => h) (Or.inl ⟨by rfl, by intro w hSw; go_simp⟩) (Below.refl _ _) ?_
        try simp only [Act.put, List.setIfInBounds_toArray, List.set_cons_zero, List.set_cons_succ]
        refine S.anyH_take 3 72 (.pointer (some ⟨b, off + i * 19, none⟩)) rfl rfl (by kernel_rfl) (by kernel_rfl) (by kernel_rfl) (fun _ _ _ h => h) (Or.inl ⟨by rfl, by intro w hSw; go_simp⟩) (Below.refl _ _) ?_
        try simp only [Act.put, List.setIfInBounds_toArray, List.set_cons_zero, List.set_cons_succ]
        refine S.anyH_take 4 73 (itv x) rfl rfl (by kernel_rfl) (by kernel_rfl) (by kernel_rfl) (fun _ _ _ h => h) (Or.inl ⟨by rfl, by intro w' hSw; exact exec_load38 rfl rfl (Ix.below hSw)⟩) (Below.refl _ _) ?_
        try simp only [Act.put, List.setIfInBounds_toArray, List.set_cons_zero, List.set_cons_succ]
        refine S.anyH_take 5 74 (.pointer (some ⟨w.heap.size + 1, 7, none⟩)) rfl rfl (by kernel_rfl) (by kernel_rfl) (by kernel_rfl) (fun _ _ _ h => h) (Or.inl ⟨by rfl, by intro w hSw; go_simp⟩) (Below.refl _ _) ?_
        try simp only [Act.put, List.setIfInBounds_toArray, List.set_cons_zero, List.set_cons_succ]
        refine S.anyH_take 6 75 (.slice (some ⟨b2, off2, none⟩) len cap2) rfl rfl (by kernel_rfl) (by kernel_rfl) (by kernel_rfl) (fun _ _ _ h => h) (Or.inl ⟨by rfl, by intro w hSw; have q7 := (QKr.below hSw) 7 _ rfl; go_simp⟩) (Below.refl _ _) ?_
        try simp only [Act.put, List.setIfInBounds_toArray, List.set_cons_zero, List.set_cons_succ]
        refine S.anyH_take 7 76 (.int .i64 (i : Int)) rfl rfl (by kernel_rfl) (by kernel_rfl) (by kernel_rfl) (fun _ _ _ h => h) (Or.inl ⟨by rfl, by intro w hSw; go_simp⟩) (Below.refl _ _) ?_
        try simp only [Act.put, List.setIfInBounds_toArray, List.set_cons_zero, List.set_cons_succ]
        refine S.anyH_take 8 77 (.pointer (some ⟨b2, off2 + i * 19, none⟩)) rfl rfl (by kernel_rfl) (by kernel_rfl) (by kernel_rfl) (fun _ _ _ h => h) (Or.inl ⟨by rfl, by intro w hSw; go_simp⟩) (Below.refl _ _) ?_
        try simp only [Act.put, List.setIfInBounds_toArray, List.set_cons_zero, List.set_cons_succ]
        refine S.anyH_take 9 78 (itv y) rfl rfl (by kernel_rfl) (by kernel_rfl) (by kernel_rfl) (fun _ _ _ h => h) (Or.inl ⟨by rfl, by intro w' hSw; exact exec_load38 rfl rfl (Iy.below hSw)⟩) (Below.refl _ _) ?_
        try simp only [Act.put, List.setIfInBounds_toArray, List.set_cons_zero, List.set_cons_succ]
        refine S.anyH_take 10 79 (.bool false) rfl rfl (by kernel_rfl) (by kernel_rfl) (by kernel_rfl) (fun _ _ _ h => h) (Or.inl ⟨by rfl, by intro w9 hSw; exact (exec_neqit rfl x y rfl rfl w9).trans (by rw [hsame]; rfl)⟩) (Below.refl _ _) ?_
        try simp only [Act.put, List.setIfInBounds_toArray, List.set_cons_zero, List.set_cons_succ]
        refine wpAnyH_done (by kernel_rfl) ?_ _
        go_wp2
        go_roundg (gk - 1)
        case measure => have := HG.out; omega
        case rel =>
          refine ⟨i + 1, by first | rfl | go_num, by have := HG.out; omega, ?_, Bd⟩
          intro j hj
          by_cases e : j = i
          · rw [e, HX.out, HY.out, HXY.out]
          · exact HA.out j (by omega)
    · have HE : Hid (r = true) := by
        show _ = _
        refine HRr.out.2 ?_
        apply List.ext_getElem?
        intro j
        by_cases hj : j < len
        · have h := HA.out j (by omega)
          have l1 := HL.out
          have l2 := HL2.out
          rw [List.getD_eq_getElem?_getD, List.getD_eq_getElem?_getD, List.getElem?_eq_getElem (by omega), List.getElem?_eq_getElem (by omega)] at h
          rw [List.getElem?_eq_getElem (by omega), List.getElem?_eq_getElem (by omega)]
          exact congrArg some h
        · rw [List.getElem?_eq_none (by have := HL.out; omega), List.getElem?_eq_none (by have := HL2.out; omega)]
      go_wp2
      go_ret
      rw [HE.out]
      exact ⟨rfl, B1.trans (hB.mono (by omega))⟩

open Classical in
def sameP (p q : Pkt) [Decidable (p = q)] : Bool := decide (p = q)
theorem sameP_ne {p q : Pkt} [Decidable (p = q)] (h : p ≠ q) : sameP p q = false := by simp [sameP, h]
theorem rsame_any (p q : Pkt) [Decidable (p = q)] (a a2 : Option Addr) (len cap len2 cap2 : Nat) (w : World) (R : RowI w a len cap p.items) (R2 : RowI w a2 len2 cap2 q.items) : Calls Tryd.prog 14 #[pkv p a len cap, pkv q a2 len2 cap2] w fun e w' => e = .returned (.bool (sameP p q)) ∧ Below w.heap.size w w' := by
  cases e0 : (p.kind != q.kind) with
  | true => rw [sameP_ne (fun h => by rw [h] at e0; simp at e0)]; exact rsame_h0 p q a a2 len cap len2 cap2 w R R2 e0
  | false =>
  cases e1 : (p.src != q.src) with
  | true => rw [sameP_ne (fun h => by rw [h] at e1; simp at e1)]; exact rsame_h1 p q a a2 len cap len2 cap2 w R R2 e0 e1
  | false =>
  cases e2 : (p.dst != q.dst) with
  | true => rw [sameP_ne (fun h => by rw [h] at e2; simp at e2)]; exact rsame_h2 p q a a2 len cap len2 cap2 w R R2 e0 e1 e2
  | false =>
  cases e3 : (p.boot != q.boot) with
  | true => rw [sameP_ne (fun h => by rw [h] at e3; simp at e3)]; exact rsame_h3 p q a a2 len cap len2 cap2 w R R2 e0 e1 e2 e3
  | false =>
  cases e4 : (p.life != q.life) with
  | true => rw [sameP_ne (fun h => by rw [h] at e4; simp at e4)]; exact rsame_h4 p q a a2 len cap len2 cap2 w R R2 e0 e1 e2 e3 e4
  | false =>
  cases e5 : (p.echo != q.echo) with
  | true => rw [sameP_ne (fun h => by rw [h] at e5; simp at e5)]; exact rsame_h5 p q a a2 len cap len2 cap2 w R R2 e0 e1 e2 e3 e4 e5
  | false =>
  cases e6 : (p.echoLife != q.echoLife) with
  | true => rw [sameP_ne (fun h => by rw [h] at e6; simp at e6)]; exact rsame_h6 p q a a2 len cap len2 cap2 w R R2 e0 e1 e2 e3 e4 e5 e6
  | false =>
  have l1 := R.size
  have l2 := R2.size
  cases e7 : ((len : Int) != (len2 : Int)) with
  | true => rw [sameP_ne (fun h => by subst h; rw [← l1, ← l2] at e7; simp at e7)]; exact rsame_l p q a a2 len cap len2 cap2 w R R2 e0 e1 e2 e3 e4 e5 e6 e7
  | false =>
  obtain rfl : len = len2 := by have h : (len : Int) = (len2 : Int) := by simpa using e7
                                omega
  refine rsame_its p q a a2 len cap cap2 w R R2 e0 e1 e2 e3 e4 e5 e6 e7 _ ?_
  simp only [bne_eq_false_iff_eq] at e0 e1 e2 e3 e4 e5 e6
  obtain ⟨pk, ps, pd, pb, pl, pe, pel, pi⟩ := p
  obtain ⟨qk, qs, qd, qb, ql, qe, qel, qi⟩ := q
  simp only at e0 e1 e2 e3 e4 e5 e6
  simp [sameP, e0, e1, e2, e3, e4, e5, e6]

end Go.Proofs.YticmjlnpjopfbaaDoor

namespace Go.Proofs.YticmjlnpjopfbaaDoor
open Go.ChangeShapes Go.WideShapes Go.ChangeAt Go.RowKit
open S (Tab)
set_option linter.unusedVariables false
set_option linter.unusedSimpArgs false

theorem exec_load24 {o : Oper} {a : Act} {w : World} {xx : Operand} {pb : Nat} {p : Pkt} {ad : Option Addr} {len cap : Nat} (ho : o.op = .load 24 xx) (hx : a.eval xx = .pointer (some ⟨pb, 0, none⟩)) (hc : PkAt w pb p ad len cap) :
    (execOp a.eval o).run Tryd.prog w = .ok (.value (pkv p ad len cap)) w := by
  unfold execOp
  simp only [ho, hx, Instr.loadAt, Instr.sureAddr, Sem.run_bind, Sem.run_pure, Result.andThen_ok, load_agg w pb 0 24 (pkc p ad len cap) _ (fun j v h => by rw [Nat.zero_add]; exact hc j v h) Tryd.underlying24 rfl (by kernel_rfl)]
  rfl
theorem sameP_self (p : Pkt) [Decidable (p = p)] : sameP p p = true := by simp [sameP]

set_option maxRecDepth 100000 in
set_option maxHeartbeats 8000000 in
theorem fits_walk (p : Pkt) (a : Option Addr) (len cap : Nat) (w : World) (R : RowI w a len cap p.items) (hb : len * 160 ≤ 140737488355328) (Tw : Tab w) :
    Calls Tryd.prog 3 #[pkv p a len cap] w fun e w' => e = .returned (.bool true) ∧ Below w.heap.size w w' := by
  haveI : DecidableEq Pkt := fun a b => Classical.propDecidable (a = b)
  have hby : S.Byt (encP p) := by
    cases hf : fitP p with
    | true => rw [encP_fit hf]; exact S.byt_frm (bodyP_byte (fitP_ok hf).1) (by have := bodyP_len hf; omega)
    | false => rw [encP, hf]; intro z hz; cases hz
  obtain ⟨es, hes⟩ : ∃ s, strOfNums (encP p) = s := ⟨_, rfl⟩
  obtain ⟨bF, hbF⟩ : ∃ b, fitP p = b := ⟨_, rfl⟩
  have heF : (bF == bF) = true := by simp
  have heS : (es.toList == es.toList) = true := by simp
  have B0 : Below w.heap.size w (w.alloc (pkObj p a len cap)) := (Below.refl _ _).alloc (Nat.le_refl _) _
  have R0 := R.alloc (pkObj p a len cap)
  have P0 := pkAt_new w p a len cap
  have KC := copied_any p a len cap _ R0 hb
  clear R
  go_enter Tryd.func3, Tryd.ntmps3
  go_wp2_with (go_at_call 9; refine KC.mono ?_; rintro e w1 ⟨a1, c1, rfl, RR1, hb1⟩)
  obtain ⟨wd, hwd⟩ : ∃ wd, World.drew (w1.alloc (pkObj p a1 len c1)) = wd := ⟨_, rfl⟩
  have B1d : Below w1.heap.size w1 wd := by rw [← hwd]; exact ((Below.refl _ _).alloc (Nat.le_refl _) _).drew
  have K3 : PkAt wd w1.heap.size p a1 len c1 := by rw [← hwd]; exact (pkAt_new w1 p a1 len c1).of_block rfl
  have K1 : PkAt wd w.heap.size p a len cap := (P0.below hb1).below B1d
  have R3 := RR1.below B1d
  have R1 := (R0.below hb1).below B1d
  have B1 : Below w.heap.size w w1 := B0.trans (hb1.mono B0.size)
  have Bd : Below w.heap.size w wd := B1.trans (B1d.mono B1.size)
  have Td := Tw.below Bd
  clear KC P0 R0 RR1 hb1 B1 B0
  refine wp_region_any (by kernel_rfl) ?_
  change wpAny _ _ _ _ _ _ _ (World.drew _)
  rw [hwd]
  refine S.wpAny_narrow (fun X => Below wd.heap.size wd X) _ _ _ _ ?_
  refine S.anyH_take 0 6 (pkv p a1 len c1) rfl rfl (by kernel_rfl) (by kernel_rfl) (by kernel_rfl) (fun _ _ _ h => h) (Or.inl ⟨by rfl, by intro w' hSw; exact exec_load24 rfl rfl (K3.below hSw)⟩) (Below.refl _ _) ?_
  try simp only [Act.put, List.setIfInBounds_toArray, List.set_cons_zero, List.set_cons_succ]
  refine S.anyH_take 2 8 (pkv p a len cap) rfl rfl (by kernel_rfl) (by kernel_rfl) (by kernel_rfl) (fun _ _ _ h => h) (Or.inl ⟨by rfl, by intro w' hSw; exact exec_load24 rfl rfl (K1.below hSw)⟩) (Below.refl _ _) ?_
  try simp only [Act.put, List.setIfInBounds_toArray, List.set_cons_zero, List.set_cons_succ]
  refine wpAnyH_ready (rs := [1]) (by kernel_rfl) (by simp) ?_
  refine AllReadyH.cons rfl (fun K hK => ?_) AllReadyH.nil
  go_simp
  go_wp2_with (go_at_call 10; refine (fit_any p a1 len c1 _ R3).mono ?_; rintro e w2 ⟨rfl, b2⟩; rw [hbF])
  refine hK.out _ _ (b2) (fun hS => ?_)
  clear hK
  refine wpAnyH_ready (rs := [3]) (by kernel_rfl) (by simp) ?_
  refine AllReadyH.cons rfl (fun K hK => ?_) AllReadyH.nil
  go_simp
  go_wp2_with (go_at_call 11; refine (rfit_any p a len cap _ (R1.below b2)).mono ?_; rintro e w3 ⟨rfl, d3⟩; rw [hbF]; have b3 : Below wd.heap.size wd w3 := b2.trans (d3.mono b2.size))
  refine hK.out _ _ (b3) (fun hS => ?_)
  clear hK
  refine S.anyH_take 4 10 (.bool true) rfl rfl (by kernel_rfl) (by kernel_rfl) (by kernel_rfl) (fun _ _ _ h => h) (Or.inl ⟨by rfl, by intro w hSw; go_simp⟩) (b3) ?_
  try simp only [Act.put, List.setIfInBounds_toArray, List.set_cons_zero, List.set_cons_succ]
  refine S.anyH_take 5 11 (.bool true) rfl rfl (by kernel_rfl) (by kernel_rfl) (by kernel_rfl) (fun _ _ _ h => h) (Or.inl ⟨by rfl, by intro w hSw; go_simp⟩) (b3) ?_
  try simp only [Act.put, List.setIfInBounds_toArray, List.set_cons_zero, List.set_cons_succ]
  refine S.anyH_take 6 12 (pkv p a1 len c1) rfl rfl (by kernel_rfl) (by kernel_rfl) (by kernel_rfl) (fun _ _ _ h => h) (Or.inl ⟨by rfl, by intro w' hSw; exact exec_load24 rfl rfl (K3.below hSw)⟩) (b3) ?_
  try simp only [Act.put, List.setIfInBounds_toArray, List.set_cons_zero, List.set_cons_succ]
  refine S.anyH_take 9 15 (pkv p a len cap) rfl rfl (by kernel_rfl) (by kernel_rfl) (by kernel_rfl) (fun _ _ _ h => h) (Or.inl ⟨by rfl, by intro w' hSw; exact exec_load24 rfl rfl (K1.below hSw)⟩) (b3) ?_
  try simp only [Act.put, List.setIfInBounds_toArray, List.set_cons_zero, List.set_cons_succ]
  refine wpAnyH_ready (rs := [7]) (by kernel_rfl) (by simp) ?_
  refine AllReadyH.cons rfl (fun K hK => ?_) AllReadyH.nil
  go_simp
  go_wp2_with (go_at_call 12; refine (encode_any p a1 len c1 _ (R3.below b3) (Td.below b3)).mono ?_; rintro e w4 ⟨v4, rfl, o4, d4⟩; have b4 : Below wd.heap.size wd w4 := b3.trans (d4.mono b3.size); obtain ⟨a4, n4, c4, rfl, r4, hn4⟩ := o4.row' hby; clear hn4)
  refine hK.out _ _ (b4) (fun hS => ?_)
  clear hK
  refine S.wpAnyH_narrow (fun X => Below w4.heap.size w4 X) (fun _ h => b4.trans (h.mono b4.size)) _ _ _ _ ?_
  refine S.anyH_take 8 14 (.string es) rfl rfl (by kernel_rfl) (by kernel_rfl) (by kernel_rfl) (fun _ _ _ h => h) (Or.inl ⟨by rfl, by intro w hSw; have kk := S.conv_row (r4.below hSw); rw [hes] at kk; go_simp⟩) (Below.refl _ _) ?_
  try simp only [Act.put, List.setIfInBounds_toArray, List.set_cons_zero, List.set_cons_succ]
  refine wpAnyH_ready (rs := [10]) (by kernel_rfl) (by simp) ?_
  refine AllReadyH.cons rfl (fun K hK => ?_) AllReadyH.nil
  go_simp
  go_wp2_with (go_at_call 13; refine (rencode_any p a len cap _ (R1.below b4)).mono ?_; rintro e w5 ⟨v5, rfl, o5, d5⟩; have b5 : Below wd.heap.size wd w5 := b4.trans (d5.mono b4.size); obtain ⟨a5, n5, c5, rfl, r5, hn5⟩ := o5.row' hby; clear hn5)
  refine hK.out _ _ (d5) (fun hS => ?_)
  clear hK
  refine S.wpAnyH_narrow (fun X => Below w5.heap.size w5 X) (fun _ h => d5.trans (h.mono d5.size)) _ _ _ _ ?_
  refine S.anyH_take 11 17 (.string es) rfl rfl (by kernel_rfl) (by kernel_rfl) (by kernel_rfl) (fun _ _ _ h => h) (Or.inl ⟨by rfl, by intro w hSw; have kk := S.conv_row (r5.below hSw); rw [hes] at kk; go_simp⟩) (Below.refl _ _) ?_
  try simp only [Act.put, List.setIfInBounds_toArray, List.set_cons_zero, List.set_cons_succ]
  refine S.anyH_take 12 18 (.bool true) rfl rfl (by kernel_rfl) (by kernel_rfl) (by kernel_rfl) (fun _ _ _ h => h) (Or.inl ⟨by rfl, by intro w hSw; go_simp⟩) (Below.refl _ _) ?_
  try simp only [Act.put, List.setIfInBounds_toArray, List.set_cons_zero, List.set_cons_succ]
  refine S.anyH_take 13 19 (.bool true) rfl rfl (by kernel_rfl) (by kernel_rfl) (by kernel_rfl) (fun _ _ _ h => h) (Or.inl ⟨by rfl, by intro w hSw; go_simp⟩) (Below.refl _ _) ?_
  try simp only [Act.put, List.setIfInBounds_toArray, List.set_cons_zero, List.set_cons_succ]
  refine S.anyH_take 14 20 (.bool true) rfl rfl (by kernel_rfl) (by kernel_rfl) (by kernel_rfl) (fun _ _ _ h => h) (Or.inl ⟨by rfl, by intro w hSw; go_simp⟩) (Below.refl _ _) ?_
  try simp only [Act.put, List.setIfInBounds_toArray, List.set_cons_zero, List.set_cons_succ]
  refine S.anyH_take 15 21 (pkv p a1 len c1) rfl rfl (by kernel_rfl) (by kernel_rfl) (by kernel_rfl) (fun _ _ _ h => h) (Or.inl ⟨by rfl, by intro w' hSw; exact exec_load24 rfl rfl (K3.below (b5.trans (hSw.mono b5.size)))⟩) (Below.refl _ _) ?_
  try simp only [Act.put, List.setIfInBounds_toArray, List.set_cons_zero, List.set_cons_succ]
  refine S.anyH_take 16 22 (pkv p a len cap) rfl rfl (by kernel_rfl) (by kernel_rfl) (by kernel_rfl) (fun _ _ _ h => h) (Or.inl ⟨by rfl, by intro w' hSw; exact exec_load24 rfl rfl (K1.below (b5.trans (hSw.mono b5.size)))⟩) (Below.refl _ _) ?_
  try simp only [Act.put, List.setIfInBounds_toArray, List.set_cons_zero, List.set_cons_succ]
  refine wpAnyH_ready (rs := [17]) (by kernel_rfl) (by simp) ?_
  refine AllReadyH.cons rfl (fun K hK => ?_) AllReadyH.nil
  go_simp
  go_wp2_with (go_at_call 14; refine (rsame_any p p a1 a len c1 len cap _ (R3.below b5) (R1.below b5)).mono ?_; rintro e w6 ⟨rfl, d6⟩; rw [sameP_self])
  refine hK.out _ _ (d6) (fun hS => ?_)
  clear hK
  refine S.anyH_take 18 24 (.bool true) rfl rfl (by kernel_rfl) (by kernel_rfl) (by kernel_rfl) (fun _ _ _ h => h) (Or.inl ⟨by rfl, by intro w hSw; go_simp⟩) (d6) ?_
  try simp only [Act.put, List.setIfInBounds_toArray, List.set_cons_zero, List.set_cons_succ]
  refine S.anyH_take 19 25 (.bool true) rfl rfl (by kernel_rfl) (by kernel_rfl) (by kernel_rfl) (fun _ _ _ h => h) (Or.inl ⟨by rfl, by intro w hSw; go_simp⟩) (d6) ?_
  try simp only [Act.put, List.setIfInBounds_toArray, List.set_cons_zero, List.set_cons_succ]
  refine wpAnyH_ready (rs := [20]) (by kernel_rfl) (by simp) ?_
  refine AllReadyH.cons rfl (fun K hK => ?_) AllReadyH.nil
  go_simp
  go_wp2_with (go_at_call 15; refine (awake_any _ (Td.below (b5.trans (d6.mono b5.size)))).mono ?_; rintro e w7 ⟨rfl, d7⟩; have d67 : Below w5.heap.size w5 w7 := d6.trans (d7.mono d6.size))
  refine hK.out _ _ (d67) (fun hS => ?_)
  clear hK
  refine S.anyH_take 21 27 (.bool true) rfl rfl (by kernel_rfl) (by kernel_rfl) (by kernel_rfl) (fun _ _ _ h => h) (Or.inl ⟨by rfl, by intro w hSw; go_simp⟩) (d67) ?_
  try simp only [Act.put, List.setIfInBounds_toArray, List.set_cons_zero, List.set_cons_succ]
  refine S.anyH_take 22 2 (.bool true) rfl rfl (by kernel_rfl) (by kernel_rfl) (by kernel_rfl) (fun _ _ _ h => h) (Or.inl ⟨by rfl, by intro w hSw; go_simp⟩) (d67) ?_
  try simp only [Act.put, List.setIfInBounds_toArray, List.set_cons_zero, List.set_cons_succ]
  refine wpAnyH_done (by kernel_rfl) ?_ _
  go_wp2
  go_ret
  exact ⟨rfl, (Bd.trans (b5.mono Bd.size)).trans (d67.mono (by have := b5.size; have := Bd.size; omega))⟩

end Go.Proofs.YticmjlnpjopfbaaDoor

namespace Go.Proofs.YticmjlnpjopfbaaDoor
open Go.ChangeShapes Go.WideShapes Go.ChangeAt Go.RowKit Go.Deep
set_option linter.unusedVariables false
set_option linter.unusedSimpArgs false
set_option maxRecDepth 100000

theorem cn2 : Tryd.prog.cellsOf 2 = 1 := by kernel_rfl
theorem cn3 : Tryd.prog.cellsOf 3 = 1 := by kernel_rfl
theorem cn4 : Tryd.prog.cellsOf 4 = 1 := by kernel_rfl
theorem cn9 : Tryd.prog.cellsOf 9 = 1 := by kernel_rfl
theorem cn32 : Tryd.prog.cellsOf 32 = 6 := by kernel_rfl
theorem cn34 : Tryd.prog.cellsOf 34 = 3 := by kernel_rfl
theorem cn36 : Tryd.prog.cellsOf 36 = 4 := by kernel_rfl
theorem cn38 : Tryd.prog.cellsOf 38 = 19 := by kernel_rfl
theorem wf_bd {n : Int} (h : (Lit.int .i64 n).wf = true) : -9223372036854775808 ≤ n ∧ n ≤ 9223372036854775807 := by
  have h2 : IntKind.i64.max = 9223372036854775807 := rfl
  have h3 : IntKind.i64.min = -9223372036854775808 := rfl
  simp only [Lit.wf, Bool.and_eq_true, decide_eq_true_eq, h2, h3] at h
  exact h

section
variable {H : Type} {enc : TypeId × Value → H} {W : World} {base n : Nat} {sp : Nat → Bool} {held : Bool} {x : DataW H × List MemPlace}
theorem open_chan {v0 v1 v2 v3 v4 v5 : Value} (h : DataW.trod enc Tryd.prog W base sp held n 32 [v0, v1, v2, v3, v4, v5] = some x) :
    ∃ (x0 : ByteArray) (x1 : Int) (x2 : Int) (x3 : Bool) (x4 : Int) (x5 : Int), (v0 = .string x0 ∧ v1 = .int .i64 x1 ∧ v2 = .int .i64 x2 ∧ v3 = .bool x3 ∧ v4 = .int .i64 x4 ∧ v5 = .int .i64 x5) ∧ ((-9223372036854775808 ≤ x1 ∧ x1 ≤ 9223372036854775807) ∧ (-9223372036854775808 ≤ x2 ∧ x2 ≤ 9223372036854775807) ∧ (-9223372036854775808 ≤ x4 ∧ x4 ≤ 9223372036854775807) ∧ (-9223372036854775808 ≤ x5 ∧ x5 ≤ 9223372036854775807)) := by
  obtain ⟨xs, k, hk, hxy, _, hxl, hf⟩ := DataW.trod_struct Tryd.underlying32 h
  match xs, hxl with
  | [y0, y1, y2, y3, y4, y5], _ =>
  have e0 := hf 0 _ rfl
  have e1 := hf 1 _ rfl
  have e2 := hf 2 _ rfl
  have e3 := hf 3 _ rfl
  have e4 := hf 4 _ rfl
  have e5 := hf 5 _ rfl
  simp [cn9] at e0
  simp [cn2] at e1
  simp [cn3] at e2
  simp [cn4] at e3
  simp [cn3] at e4
  simp [cn2] at e5
  obtain ⟨x0, q0, _, w0⟩ := DataW.trod_string Tryd.underlying9 e0
  obtain ⟨x1, q1, _, w1⟩ := DataW.trod_int Tryd.underlying2 e1
  obtain ⟨x2, q2, _, w2⟩ := DataW.trod_int Tryd.underlying3 e2
  obtain ⟨x3, q3, _⟩ := DataW.trod_bool Tryd.underlying4 e3
  obtain ⟨x4, q4, _, w4⟩ := DataW.trod_int Tryd.underlying3 e4
  obtain ⟨x5, q5, _, w5⟩ := DataW.trod_int Tryd.underlying2 e5
  simp at q0 q1 q2 q3 q4 q5
  exact ⟨x0, x1, x2, x3, x4, x5, ⟨q0, q1, q2, q3, q4, q5⟩, wf_bd w1, wf_bd w2, wf_bd w4, wf_bd w5⟩
theorem open_reg {v0 v1 v2 : Value} (h : DataW.trod enc Tryd.prog W base sp held n 34 [v0, v1, v2] = some x) :
    ∃ (x0 : Int) (x1 : Int) (x2 : Int), (v0 = .int .i64 x0 ∧ v1 = .int .i64 x1 ∧ v2 = .int .i64 x2) ∧ ((-9223372036854775808 ≤ x0 ∧ x0 ≤ 9223372036854775807) ∧ (-9223372036854775808 ≤ x1 ∧ x1 ≤ 9223372036854775807) ∧ (-9223372036854775808 ≤ x2 ∧ x2 ≤ 9223372036854775807)) := by
  obtain ⟨xs, k, hk, hxy, _, hxl, hf⟩ := DataW.trod_struct Tryd.underlying34 h
  match xs, hxl with
  | [y0, y1, y2], _ =>
  have e0 := hf 0 _ rfl
  have e1 := hf 1 _ rfl
  have e2 := hf 2 _ rfl
  simp [cn2] at e0
  simp [cn3] at e1
  simp [cn2] at e2
  obtain ⟨x0, q0, _, w0⟩ := DataW.trod_int Tryd.underlying2 e0
  obtain ⟨x1, q1, _, w1⟩ := DataW.trod_int Tryd.underlying3 e1
  obtain ⟨x2, q2, _, w2⟩ := DataW.trod_int Tryd.underlying2 e2
  simp at q0 q1 q2
  exact ⟨x0, x1, x2, ⟨q0, q1, q2⟩, wf_bd w0, wf_bd w1, wf_bd w2⟩
theorem open_ext {v0 v1 v2 v3 : Value} (h : DataW.trod enc Tryd.prog W base sp held n 36 [v0, v1, v2, v3] = some x) :
    ∃ (x0 : Bool) (x1 : Int) (x2 : Int) (x3 : Int), (v0 = .bool x0 ∧ v1 = .int .i64 x1 ∧ v2 = .int .i64 x2 ∧ v3 = .int .i64 x3) ∧ ((-9223372036854775808 ≤ x1 ∧ x1 ≤ 9223372036854775807) ∧ (-9223372036854775808 ≤ x2 ∧ x2 ≤ 9223372036854775807) ∧ (-9223372036854775808 ≤ x3 ∧ x3 ≤ 9223372036854775807)) := by
  obtain ⟨xs, k, hk, hxy, _, hxl, hf⟩ := DataW.trod_struct Tryd.underlying36 h
  match xs, hxl with
  | [y0, y1, y2, y3], _ =>
  have e0 := hf 0 _ rfl
  have e1 := hf 1 _ rfl
  have e2 := hf 2 _ rfl
  have e3 := hf 3 _ rfl
  simp [cn4] at e0
  simp [cn2] at e1
  simp [cn3] at e2
  simp [cn2] at e3
  obtain ⟨x0, q0, _⟩ := DataW.trod_bool Tryd.underlying4 e0
  obtain ⟨x1, q1, _, w1⟩ := DataW.trod_int Tryd.underlying2 e1
  obtain ⟨x2, q2, _, w2⟩ := DataW.trod_int Tryd.underlying3 e2
  obtain ⟨x3, q3, _, w3⟩ := DataW.trod_int Tryd.underlying2 e3
  simp at q0 q1 q2 q3
  exact ⟨x0, x1, x2, x3, ⟨q0, q1, q2, q3⟩, wf_bd w1, wf_bd w2, wf_bd w3⟩
structure itBd (x : Itm) : Prop where
  epoch : -9223372036854775808 ≤ x.epoch ∧ x.epoch ≤ 9223372036854775807
  rg : itRg x
theorem open_itm {v0 v1 v2 v3 v4 v5 v6 v7 v8 v9 v10 v11 v12 v13 v14 v15 v16 v17 v18 : Value} (h : DataW.trod enc Tryd.prog W base sp held n 38 [v0, v1, v2, v3, v4, v5, v6, v7, v8, v9, v10, v11, v12, v13, v14, v15, v16, v17, v18] = some x) : ∃ y : Itm, [v0, v1, v2, v3, v4, v5, v6, v7, v8, v9, v10, v11, v12, v13, v14, v15, v16, v17, v18] = itc y ∧ itRg y := by
  obtain ⟨xs, k, hk, hxy, _, hxl, hf⟩ := DataW.trod_struct Tryd.underlying38 h
  match xs, hxl with
  | [y0, y1, y2, y3, y4, y5], _ =>
  have e0 := hf 0 _ rfl
  have e1 := hf 1 _ rfl
  have e2 := hf 2 _ rfl
  have e3 := hf 3 _ rfl
  have e4 := hf 4 _ rfl
  have e5 := hf 5 _ rfl
  simp [cn32] at e0
  simp [cn34] at e1
  simp [cn4] at e2
  simp [cn2] at e3
  simp [cn36] at e4
  simp [cn36] at e5
  obtain ⟨c0, c1, c2, c3, c4, c5, ⟨rfl, rfl, rfl, rfl, rfl, rfl⟩, _⟩ := open_chan e0
  obtain ⟨r0, r1, r2, ⟨rfl, rfl, rfl⟩, _, _, hr2⟩ := open_reg e1
  obtain ⟨hr, q2, _⟩ := DataW.trod_bool Tryd.underlying4 e2
  obtain ⟨re, q3, _, w3⟩ := DataW.trod_int Tryd.underlying2 e3
  obtain ⟨m0, m1, m2, m3, ⟨rfl, rfl, rfl, rfl⟩, hm1, _⟩ := open_ext e4
  obtain ⟨k0, k1, k2, k3, ⟨rfl, rfl, rfl, rfl⟩, hk1, _⟩ := open_ext e5
  simp at q2 q3
  subst q2 q3
  exact ⟨⟨c0, c1, c2, c3, c4, c5, r0, r1, r2, hr, re, ⟨m0, m1, m2, m3⟩, ⟨k0, k1, k2, k3⟩⟩, rfl, ⟨hr2, wf_bd w3, hm1, hk1⟩⟩
theorem list19 {α : Type} {l : List α} (h : l.length = 19) : ∃ v0 v1 v2 v3 v4 v5 v6 v7 v8 v9 v10 v11 v12 v13 v14 v15 v16 v17 v18, l = [v0, v1, v2, v3, v4, v5, v6, v7, v8, v9, v10, v11, v12, v13, v14, v15, v16, v17, v18] := by
  match l, h with
  | [v0, v1, v2, v3, v4, v5, v6, v7, v8, v9, v10, v11, v12, v13, v14, v15, v16, v17, v18], _ => exact ⟨v0, v1, v2, v3, v4, v5, v6, v7, v8, v9, v10, v11, v12, v13, v14, v15, v16, v17, v18, rfl⟩
end

/-- The items of a packet that came in; sl: what the bound on all that came in says of them. -/
theorem open_its {H : Type} {enc : TypeId × Value → H} {W : World} {fuel : Nat} {v : Value} {x : DataW H × List MemPlace}
    (hf : DataW.trod enc Tryd.prog W 0 (fun _ => true) true fuel 22 [v] = some x) : ∃ (a : Option Addr) (len cap : Nat) (its : List Itm), v = .slice a len cap ∧ RowI W a len cap its ∧ (∀ y ∈ its, itRg y) ∧ (cap = 0 ∨ cap * 160 ∈ x.1.weights Tryd.prog 22) := by
  rcases open_slice Tryd.underlying22 hf with ⟨hcs, hx⟩ | ⟨ad, l, c, m, n, D, Pl, hcs, _, hl, hm, hmm, hx, hel⟩
  · simp at hcs
    subst hcs
    exact ⟨none, 0, 0, [], rfl, rowI_nil W, fun y hy => (by simp at hy), .inl rfl⟩
  · simp at hcs
    subst hcs
    have hmc : m = c := by simpa using hmm
    subst hmc
    rw [cn38] at hel
    have each : ∀ i, i < m → ∃ y : Itm, (∀ j v, (itc y)[j]? = some v → W.cell? ((ad.add (i * 19)).add j) = some v) ∧ itRg y := by
      intro i hi
      obtain ⟨cs', h1, h2⟩ := hel i hi
      obtain ⟨_, hlen, hcell⟩ := World.cells?_some h1
      obtain ⟨v0, v1, v2, v3, v4, v5, v6, v7, v8, v9, v10, v11, v12, v13, v14, v15, v16, v17, v18, rfl⟩ := list19 hlen
      obtain ⟨y, hy, hg⟩ := open_itm h2
      refine ⟨y, fun j v hj => ?_, hg⟩
      have hjl : j < 19 := (List.getElem?_eq_some_iff.1 hj).1
      have hc := hcell j hjl
      rw [hy] at hc
      rw [hc]
      exact hj
    haveI : Inhabited Itm := ⟨itZ⟩
    obtain ⟨F, hF⟩ := choose_lt each
    refine ⟨some ad, l, m, (List.range l).map F, rfl, ⟨by simp, hl, by unfold maxLen at hm; omega, fun h => (by cases h), ?_⟩, ?_, .inr ?_⟩
    · by_cases h0 : l = 0
      · exact .inl h0
      · obtain ⟨b, off, spot⟩ := ad
        have hc := (hF 0 (by omega)).1 0 _ rfl
        have hspot : spot = none := by simpa [Addr.add] using World.cell?_spot hc
        subst hspot
        refine .inr ⟨b, off, rfl, World.block_lt_of_cell? _ _ hc, fun j hj => ?_⟩
        have hget : ((List.range l).map F).getD j itZ = F j := by simp [List.getD, hj]
        rw [hget]
        intro i v hv
        have := (hF j (by omega)).1 i v hv
        rw [add_plain, add_plain] at this
        exact this
    · intro y hy
      obtain ⟨i, hi, rfl⟩ := List.mem_map.1 hy
      exact (hF i (by have := List.mem_range.1 hi; omega)).2
    · rw [hx]
      simp only [DataW.weights, Tryd.underlying22, List.length_map, List.length_range]
      rw [show Tryd.prog.bytesOf 38 = 160 by kernel_rfl, show l + (m - l) = m by omega]
      exact List.mem_cons_self
theorem list8 {α : Type} {l : List α} (h : l.length = 8) : ∃ v0 v1 v2 v3 v4 v5 v6 v7, l = [v0, v1, v2, v3, v4, v5, v6, v7] := by
  match l, h with
  | [v0, v1, v2, v3, v4, v5, v6, v7], _ => exact ⟨v0, v1, v2, v3, v4, v5, v6, v7, rfl⟩
/-- A packet that came in. -/
theorem open_pkc {H : Type} {enc : TypeId × Value → H} {W : World} {fuel : Nat} {cs : List Value} {x : DataW H × List MemPlace} (hl : cs.length = 8)
    (hf : DataW.trod enc Tryd.prog W 0 (fun _ => true) true fuel 24 cs = some x) : ∃ (p : Pkt) (a : Option Addr) (len cap : Nat), cs = [.int .i64 p.kind, .int .i64 p.src, .int .i64 p.dst, .int .i64 p.boot, .int .i64 p.life, .int .i64 p.echo, .int .i64 p.echoLife, .slice a len cap] ∧ RowI W a len cap p.items ∧ (∀ y ∈ p.items, itRg y) ∧ (cap = 0 ∨ cap * 160 ∈ x.1.weights Tryd.prog 24) := by
  obtain ⟨v0, v1, v2, v3, v4, v5, v6, v7, rfl⟩ := list8 hl
  obtain ⟨xs, k, hk, hxy, _, hxl, hg⟩ := DataW.trod_struct Tryd.underlying24 hf
  match xs, hxl with
  | [y0, y1, y2, y3, y4, y5, y6, y7], _ =>
  have e0 := hg 0 _ rfl
  have e1 := hg 1 _ rfl
  have e2 := hg 2 _ rfl
  have e3 := hg 3 _ rfl
  have e4 := hg 4 _ rfl
  have e5 := hg 5 _ rfl
  have e6 := hg 6 _ rfl
  have e7 := hg 7 _ rfl
  simp [cn3] at e0 e1 e2
  simp [cn2] at e3 e4 e5 e6
  simp [show Tryd.prog.cellsOf 22 = 1 by kernel_rfl] at e7
  obtain ⟨x0, q0, _, _⟩ := DataW.trod_int Tryd.underlying3 e0
  obtain ⟨x1, q1, _, _⟩ := DataW.trod_int Tryd.underlying3 e1
  obtain ⟨x2, q2, _, _⟩ := DataW.trod_int Tryd.underlying3 e2
  obtain ⟨x3, q3, _, _⟩ := DataW.trod_int Tryd.underlying2 e3
  obtain ⟨x4, q4, _, _⟩ := DataW.trod_int Tryd.underlying2 e4
  obtain ⟨x5, q5, _, _⟩ := DataW.trod_int Tryd.underlying2 e5
  obtain ⟨x6, q6, _, _⟩ := DataW.trod_int Tryd.underlying2 e6
  simp at q0 q1 q2 q3 q4 q5 q6
  subst q0 q1 q2 q3 q4 q5 q6
  obtain ⟨a, len, cap, its, rfl, R, hr, hw⟩ := open_its e7
  refine ⟨⟨x0, x1, x2, x3, x4, x5, x6, its⟩, a, len, cap, rfl, R, hr, hw.imp id fun h => ?_⟩
  rw [hxy]
  simp only [DataW.weights, Tryd.underlying24, List.map_cons, List.map_nil, DataW.weightsEach, List.mem_append]
  simp only [h, or_true, true_or]
set_option maxRecDepth 100000 in
theorem open_pkt {H : Type} {enc : TypeId × Value → H} {W : World} {r : Reach} {b : Nat} {v : Value} {d : DataW H} {ps : List MemPlace} (hv : Value.okWide Tryd.prog W r b 24 v) (h : DataW.Trod enc Tryd.prog W 0 (fun _ => true) true 24 v d ps) :
    ∃ (p : Pkt) (a : Option Addr) (len cap : Nat), v = pkv p a len cap ∧ RowI W a len cap p.items ∧ (∀ y ∈ p.items, itRg y) ∧ (cap = 0 ∨ cap * 160 ∈ d.weights Tryd.prog 24) := by
  simp only [Value.okWide, Tryd.underlying24] at hv
  obtain ⟨cs, rfl, hsz, _⟩ := hv
  rw [show Tryd.prog.cellsOf 24 = 8 by kernel_rfl] at hsz
  obtain ⟨fuel, hf⟩ := h
  obtain ⟨p, a, len, cap, hcs, R, hr, hw⟩ := open_pkc (x := (d, ps)) (by simpa [Value.cells] using hsz) hf
  refine ⟨p, a, len, cap, ?_, R, hr, hw⟩
  have : cs = (cs.toList).toArray := by simp
  rw [this, show cs.toList = _ from hcs]

end Go.Proofs.YticmjlnpjopfbaaDoor

namespace Go.Proofs.YticmjlnpjopfbaaDoor.wireFits
open Go.ChangeShapes Go.WideShapes Go.ChangeAt Go.RowKit
open S (Tab leaf Row)
set_option linter.unusedVariables false

theorem own : ownKnob Tryd.prog.godebug = none := by kernel_rfl
theorem laidOut : laidOutB Tryd.prog = true := by kernel_rfl
theorem gTab : Tryd.prog.globalNamed "eddy/seal.leaves" = some 0 := by kernel_rfl
theorem gTabType : (Tryd.prog.globals[0]?).map (·.type) = some 137 := by kernel_rfl
theorem cellsT : Tryd.prog.cellsOf 137 = 16 := by kernel_rfl
theorem cellsU : Tryd.prog.cellsOf 91 = 1 := by kernel_rfl
def leafI : List Int := [0, 498536548, 997073096, 651767980, 1994146192, 1802195444, 1303535960, 1342533948, 3988292384, 4027552580, 3604390888, 3412177804, 2607071920, 2262029012, 2685067896, 3183342108]
theorem leaf_int : ∀ i : Fin 16, leafI.getD i.val 0 = ((leaf i.val : Nat) : Int) := by decide +kernel
theorem table {W : World} (h : laidMetH Tryd.prog Rows.wireFitsRow.laid W) : Tab W := by
  have t : Lib.TabIs Tryd.prog W "eddy/seal.leaves" .u32 leafI := Lib.tabIs_of_head (rest := []) gTab gTabType Tryd.underlying137 Tryd.underlying91 cellsU cellsT h
  intro i hi
  have := t.cell gTab i (by show i < 16; exact hi)
  rw [leaf_int ⟨i, hi⟩] at this
  exact this

set_option maxRecDepth 100000 in
theorem contract (H : Type) (enc : TypeId × Value → H) (W : World) (base : Nat) (args : Array Value) (ds gs : List (DataW H)) (before : List MemPlace)
    (hval0 : ∀ (j : Nat) t v, Tryd.f3.params[j]? = some t → args[j]? = some v → Value.okWide Tryd.prog W .any base t v)
    (hW : DataW.Whole enc Tryd.prog Tryd.f3.params.toList Rows.wireFitsSpec.vars false W args.toList ds gs before) (hL : laidMetH Tryd.prog Rows.wireFitsRow.laid W)
    (hsz : (DataW.weightsEach Tryd.prog (Tryd.f3.params.toList ++ Rows.wireFitsSpec.plain.varTypes Tryd.prog) (ds ++ gs)).all (· ≤ reachBytes) = true) :
    Calls Tryd.prog 3 args W fun e W' => ∃ v, e = .returned v ∧ Rows.wireFitsSpec.post enc Tryd.prog Tryd.f3 false true false false W args v W' := by
  have hval : ∀ (j : Nat) t v, Tryd.f3.params[j]? = some t → args[j]? = some v → Value.okWide Tryd.prog W .any base t v := hval0
  have hW' := hW
  obtain ⟨p, q, hA0, hV, rfl, hfz, hnd⟩ := hW
  have hA : DataW.TrodAll enc Tryd.prog W 0 (fun _ => true) true Tryd.f3.params.toList args.toList ds p := hA0
  rw [Tryd.params3] at hA hval hsz
  have htab : Tab W := table hL
  obtain ⟨v0, vs0, d0, ds0, p0, q0, hargs, rfl, rfl, h0, r0⟩ := trodAll_cons hA
  obtain ⟨rfl, rfl, rfl⟩ := trodAll_nil r0
  obtain rfl : args = #[v0] := by cases args; simp_all
  obtain ⟨rfl, rfl⟩ := trodVars_none hV
  have k0 := h0
  have lt0 : ∀ x ∈ p0, x.block < W.heap.size := by obtain ⟨m, hm⟩ := k0; exact DataW.trod_lt m _ _ _ hm
  obtain ⟨x0, a0, len0, cap0, rfl, R0, g0, s0⟩ := open_pkt (hval 0 24 v0 rfl rfl) k0
  have hb0 : len0 * 160 ≤ 140737488355328 := by
    have hle := R0.le
    rcases s0 with h | h
    · omega
    · have := List.all_eq_true.1 hsz _ (DataW.weights_mem_each (j := 0) rfl rfl _ h)
      have h2 : cap0 * 160 ≤ reachBytes := by simpa using this
      unfold reachBytes at h2
      omega
  clear hA0 hval0
  refine (fits_walk x0 a0 len0 cap0 W R0 hb0 htab).mono fun e W' ⟨he, bel⟩ => ?_
  subst he
  exact ⟨_, rfl, _, _, _, [], _, [], hW', trodAll_mk1 (shut_bool Tryd.underlying4 _), (trodAll_cons_mk (Below.trod laidOut (by kernel_rfl) (of_decide_eq_true (by kernel_rfl)) k0 bel lt0) trodAll_mk0), rfl, bel.frame _, fun h => by cases h⟩

/-- A world for the witness: the settled one, the table holding what its initialiser lays. -/
def laidObj : Obj → Obj
  | .cells _ t frozen => .cells #[.int .u32 0, .int .u32 498536548, .int .u32 997073096, .int .u32 651767980, .int .u32 1994146192, .int .u32 1802195444, .int .u32 1303535960, .int .u32 1342533948, .int .u32 3988292384, .int .u32 4027552580, .int .u32 3604390888, .int .u32 3412177804, .int .u32 2607071920, .int .u32 2262029012, .int .u32 2685067896, .int .u32 3183342108] t frozen
  | o => o
theorem laid_met (os : Os) : laidMet Tryd.prog Rows.wireFitsRow.laid (({ World.holding Tryd.prog os ⟨#[], #[], []⟩ with heap := (World.holding Tryd.prog os ⟨#[], #[], []⟩).heap.modify 0 laidObj } : World).forCall (fun _ _ => 0) ⟨#[], #[.agg #[.int .i64 0, .int .i64 0, .int .i64 0, .int .i64 0, .int .i64 0, .int .i64 0, .int .i64 0, .slice none 0 0]], []⟩).memory :=
  laidMet_of_run' 8 (by kernel_rfl) (by kernel_rfl)
theorem reads (os : Os) {H : Type} (enc : TypeId × Value → H) : ∃ places, DataW.whole enc Tryd.prog (({ World.holding Tryd.prog os ⟨#[], #[], []⟩ with heap := (World.holding Tryd.prog os ⟨#[], #[], []⟩).heap.modify 0 laidObj } : World).forCall (fun _ _ => 0) ⟨#[], #[.agg #[.int .i64 0, .int .i64 0, .int .i64 0, .int .i64 0, .int .i64 0, .int .i64 0, .int .i64 0, .slice none 0 0]], []⟩).memory Tryd.f3.params.toList Rows.wireFitsSpec.vars false (#[.agg #[.int .i64 0, .int .i64 0, .int .i64 0, .int .i64 0, .int .i64 0, .int .i64 0, .int .i64 0, .slice none 0 0]] : Array Value).toList 8 = some ([.agg [.lit (.int .i64 0), .lit (.int .i64 0), .lit (.int .i64 0), .lit (.int .i64 0), .lit (.int .i64 0), .lit (.int .i64 0), .lit (.int .i64 0), .nil]], [], places) :=
  ⟨[], by kernel_rfl⟩

set_option maxRecDepth 100000 in
theorem lifted (os : Os) (started : os.Started) (H : Type) (enc : TypeId × Value → H) (F : Stop.Interp) :
    ReturnsInHanded {} Tryd.checked os 3 .any ((OpenSpec.ofChange Rows.wireFitsSpec).preRow enc Tryd.prog Tryd.f3 Rows.wireFitsRow.domain false Rows.wireFitsRow.laid) (((OpenSpec.ofChange Rows.wireFitsSpec).at F).post enc Tryd.prog Tryd.f3 false true false false) := by
  obtain ⟨places, hx⟩ := reads os enc
  refine returnsInHanded_of_row (C := Tryd.checked) (s := (OpenSpec.ofChange Rows.wireFitsSpec)) own started (by kernel_rfl) Tryd.func3
    (witness_row_at (enc := enc) (C := Tryd.checked) false ({ World.holding Tryd.prog os ⟨#[], #[], []⟩ with heap := (World.holding Tryd.prog os ⟨#[], #[], []⟩).heap.modify 0 laidObj } : World) #[.agg #[.int .i64 0, .int .i64 0, .int .i64 0, .int .i64 0, .int .i64 0, .int .i64 0, .int .i64 0, .slice none 0 0]] rfl (by kernel_rfl) (by kernel_rfl) (by kernel_rfl)
      (OpenSpec.preRow_of_cond 8 hx (by kernel_rfl) (fun k hk => by cases hk) (by kernel_rfl) (laid_met os))) ?_
  intro W base args ds gs before hval hW _ hcond hsz hL _ _
  exact contract H enc W base args ds gs before hval hW hL hsz

theorem over : Rows.WireFitsSaid :=
  OpenClaim.holds_of_cond 3 Tryd.f3 rfl rfl rfl rfl rfl rfl rfl ⟨rfl, rfl, rfl, rfl, rfl⟩ rfl rfl rfl rfl rfl (by kernel_rfl) Tryd.func3 (by kernel_rfl)
    (of_decide_eq_true (by kernel_rfl)) (by unfold Func.isWrapper; first | (rw [if_pos (by decide +kernel)]; kernel_rfl) | (rw [if_neg (by decide +kernel)]; exact ⟨rfl, rfl⟩))
    (fun os started H enc _ F => by rw [OpenClaim.pre_eq_preRow]; exact lifted os started H enc F)

theorem plain (f : FuncId) (fn : Func) (hf : Tryd.pinned.checked.prog.funcNamed "eddy/eddylaw05.WireFits" = some f) (hfn : Tryd.pinned.checked.prog.funcs[f]? = some fn) :
    true = Tryd.pinned.checked.prog.looks [] ∧ ∀ (j : Nat) t, fn.params[j]? = some t → Tryd.pinned.checked.prog.wantsStandIn t = false := by
  obtain rfl : f = 3 := Option.some.inj ((show Tryd.prog.funcNamed "eddy/eddylaw05.WireFits" = some 3 by kernel_rfl).symm.trans hf) |>.symm
  obtain rfl : fn = Tryd.f3 := (Option.some.inj (Tryd.func3.symm.trans hfn)).symm
  refine ⟨by kernel_rfl, fun j t ht => ?_⟩
  rw [Tryd.params3] at ht
  have h3 : t ∈ [24] := List.mem_of_getElem? (by simpa using ht)
  simp only [List.mem_cons, List.not_mem_nil, or_false] at h3
  rcases h3 with rfl
  · exact (show Tryd.prog.wantsStandIn 24 = false by kernel_rfl)

/-- The statement: the tied card. -/
theorem proved : Rows.WireFitsCardSaid :=
  Claim7.holds_tied_plain_at .later [] _ _ _ _ over (fun _ h => by cases h) (by kernel_rfl) (fun _ h => by cases h) wireFits_row_tie rfl ⟨rfl, rfl⟩ (by kernel_rfl) rfl plain (by kernel_rfl)
#print axioms proved
end Go.Proofs.YticmjlnpjopfbaaDoor.wireFits
