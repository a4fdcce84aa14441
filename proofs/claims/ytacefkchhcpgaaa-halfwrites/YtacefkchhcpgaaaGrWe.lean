/-
  Registers of fit half-edges are read, written, merged and forgotten as the document says, and what is handed in stays (P10.4 to P10.6): the law HalfWrites returns true for every input.
-/
import Derived.Test.YtacefkchhcpgaaaH15
import Derived.Test.YtacefkchhcpgaaaGrWr
import Derived.Test.YtacefkchhcpgaaaH7
import Derived.Test.YtacefkchhcpgaaaG0
import Derived.Lib.SlicesS
import Derived.Test.YtacefkchhcpgaaaH13
import Derived.Test.YtacefkchhcpgaaaF40
import Derived.Deep.Slices
import Derived.ChangeSame
import Derived.OpenShut
import Derived.SizedLaws
import Derived.Test.YtacefkchhcpgaaaH1
import Derived.Test.YtacefkchhcpgaaaRows
import Derived.WalkKit
import Derived.ProofKit
import Derived.ChangeOld
import Derived.Below
import Derived.ShutString
namespace Go.Proofs.Ytacefkchhcpgaaa
open Go.ChangeShapes Go.WideShapes Go.ChangeAt Go.RowKit Go.Maps Go.Shelf
set_option linter.unusedVariables false
set_option linter.unusedSimpArgs false
attribute [local go_sem] Oper.semAt_some

def forgL (name : ByteArray) (hs : List HS) : List HS := hs.map fun x => x.wr name 0 0 0
set_option maxRecDepth 100000 in
set_option maxHeartbeats 8000000 in
theorem forget_any (name : ByteArray) (A : Option Addr) (c : Nat) (hs : List HS) (w : World) (P : Hs w A hs.length c hs) (h8 : ∀ j, j < hs.length → (hs.getD j HS.z).ls.length + 1 ≤ 65536) : Calls Try.prog 36 #[.slice A hs.length c, .string name] w fun e w' => ∃ v es, e = .returned v ∧ Cpy w (forgL name hs) (forgL name hs).length v es w' := by
  have HSM : Hid (hs.length * 64 ≤ 140737488355328) := P.small
  have HF8 : Hid (∀ j, j < hs.length → (hs.getD j HS.z).ls.length + 1 ≤ 65536) := h8
  clear h8
  rw [show (forgL name hs).length = hs.length from by unfold forgL; rw [List.length_map]]
  go_enter Try.func36, Try.ntmps36
  go_wp2
  go_loopg [5, 10] hs.length (fun gk v5 v10 wr => ∃ (i : Nat) (es : List HR) (vv : Value), vv = v5 ∧ v10 = .int .i64 (i : Int) ∧ i + gk = hs.length ∧ Cpy w (forgL name (hs.take i)) i vv es wr)
  case atStart => exact ⟨0, [], _, rfl, by first | rfl | go_num, by omega, Cpy.nil _ _⟩
  case round =>
    obtain ⟨i, es, vv, rfl, rfl, hgk, C⟩ := hrel
    by_cases hi : i < hs.length
    case pos =>
      have HI : Hid (i < hs.length) := hi
      have hiI : (i : Int) < (hs.length : Int) := by omega
      have hwr : IntKind.i64.wrap ((i : Int) + 1) = (i : Int) + 1 := by rw [IntKind.wrap_i64]; have := HSM.out; omega
      obtain ⟨g, o, a1, c1, rfl, k10, r10, R10⟩ := P.at i hi
      have H8 := HF8.out i hi
      obtain ⟨x, e1⟩ : ∃ x, hs.getD i HS.z = x := ⟨_, rfl⟩
      rw [e1] at r10 R10 H8
      have HX : Hid (hs.getD i HS.z = x) := e1
      have HFN : Hid (forgL name (hs.take (i + 1)) = forgL name (hs.take i) ++ [x.wr name 0 0 0]) := by
        show _ = _
        rw [take_next (z := HS.z) hi, e1]
        unfold forgL
        rw [List.map_append]
        rfl
      have hil : (forgL name (hs.take i)).length = i := by unfold forgL; rw [List.length_map, List.length_take]; omega
      clear e1
      obtain ⟨ds, hds⟩ : ∃ ds, forgL name (hs.take i) = ds := ⟨_, rfl⟩
      rw [hds] at C hil HFN
      have HIL : Hid (ds.length = i) := hil
      have HH8 : Hid (x.ls.length + 1 ≤ 65536) := H8
      clear hds hil H8
      have r1 := range_later r10 k10 C.below
      have CA := C.later ((Below.refl _ _).alloc (Nat.le_refl _) (.cells #[.int .i64 x.peer, .int .i64 x.boot, .int .i64 x.life, .slice a1 x.ls.length c1, .bool x.pend, .int .i64 x.miss] 24))
      have T : (wr.alloc (.cells #[.int .i64 x.peer, .int .i64 x.boot, .int .i64 x.life, .slice a1 x.ls.length c1, .bool x.pend, .int .i64 x.miss] 24)).heap[wr.heap.size]? = some (.cells (x.on a1 c1).cells.toArray 24 (0, 0)) := heap_new rfl
      have R1 : RdO (wr.alloc (.cells #[.int .i64 x.peer, .int .i64 x.boot, .int .i64 x.life, .slice a1 x.ls.length c1, .bool x.pend, .int .i64 x.miss] 24)) x a1 c1 := RdL.below R10 CA.below
      have HC : Hid (Cpy w ds i vv es (wr.alloc (.cells #[.int .i64 x.peer, .int .i64 x.boot, .int .i64 x.life, .slice a1 x.ls.length c1, .bool x.pend, .int .i64 x.miss] 24))) := CA
      clear C CA r10 R10
      go_wp2_with (first
        | ((with_reducible show wpList _ _ _ (Oper.mk _ (Op.load 24 (Operand.tmp 12)) _ _ _ _ :: _) _ _); refine wpList_load24 rfl _ rfl g (o + i * 6) (x.on a1 c1) rfl r1 ?_; dsimp only [HS.on, HR.val])
        | ((with_reducible show wpList _ _ _ (Oper.mk _ (Op.load 24 (Operand.tmp 7)) _ _ _ _ :: _) _ _); refine wpList_load24 rfl _ rfl wr.heap.size 0 (x.on a1 c1) rfl (range_rowH T) ?_)
        | (go_at_call 32; refine (write_any x a1 c1 name 0 0 0 _ R1 HH8.out).mono ?_; rintro e w5 ⟨a2, c2, rfl, O5, b5⟩; dsimp only [HS.on, HR.val])
        | ((with_reducible show wpList _ _ _ (Oper.mk _ (Op.call { callee := Callee.builtin Builtin.append, args := _, argTypes := #[25, 25] }) _ _ _ _ :: _) _ _); go_must (have SA := (HC.out.later b5).later ((Below.refl _ _).alloc (Nat.le_refl _) (.cells #[.int .i64 (x.wr name 0 0 0).peer, .int .i64 (x.wr name 0 0 0).boot, .int .i64 (x.wr name 0 0 0).life, .slice a2 (x.wr name 0 0 0).ls.length c2, .bool (x.wr name 0 0 0).pend, .int .i64 (x.wr name 0 0 0).miss] 24)); have X8 := World.alloc_heap_new w5 (.cells #[.int .i64 (x.wr name 0 0 0).peer, .int .i64 (x.wr name 0 0 0).boot, .int .i64 (x.wr name 0 0 0).life, .slice a2 (x.wr name 0 0 0).ls.length c2, .bool (x.wr name 0 0 0).pend, .int .i64 (x.wr name 0 0 0).miss] 24); refine wpList_more_lstH (base := w.heap.size) (k := i) (es := es) (ds := [(x.wr name 0 0 0).on a2 c2]) (ad := ⟨w5.heap.size, 0, none⟩) rfl _ _ rfl rfl rfl SA.row rfl (fun j u hj => by rw [add_plain, Nat.zero_add]; exact row_cell X8 j u (by simpa [csH, HR.cells, HS.on] using hj)) (by have := HSM.out; have := HI.out; omega) SA.below.size ?_; intro v8 w8 O8 g8 b8)))
      have C8 : Cpy w (ds ++ [(x.wr name 0 0 0)]) (i + 1) v8 (es ++ [(x.wr name 0 0 0).on a2 c2]) w8 := by
        have SA' : Cpy w ds ds.length vv es (w5.alloc (.cells #[.int .i64 (x.wr name 0 0 0).peer, .int .i64 (x.wr name 0 0 0).boot, .int .i64 (x.wr name 0 0 0).life, .slice a2 (x.wr name 0 0 0).ls.length c2, .bool (x.wr name 0 0 0).pend, .int .i64 (x.wr name 0 0 0).miss] 24)) := by rw [HIL.out]; exact SA
        have q := SA'.snoc (x := (x.wr name 0 0 0)) (((O5.mono HC.out.below.size).below ((Below.refl _ _).alloc (Nat.le_refl _) _))) g8 b8 (by rw [HIL.out]; exact O8)
        rw [List.length_append, HIL.out] at q
        exact q
      go_roundg (gk - 1)
      case measure => omega
      case rel => exact ⟨i + 1, _, _, rfl, by first | rfl | go_num, by omega, by rw [HFN.out]; exact C8⟩
    case neg =>
      have hiI : ¬ (i : Int) < (hs.length : Int) := by omega
      have hin : i = hs.length := by omega
      subst hin
      rw [List.take_length] at C
      go_wp2
      go_ret
      exact ⟨_, rfl, es, C⟩
set_option maxRecDepth 100000 in
set_option maxHeartbeats 8000000 in
theorem rforget_any (name : ByteArray) (A : Option Addr) (c : Nat) (hs : List HS) (w : World) (P : Hs w A hs.length c hs) (h8 : ∀ j, j < hs.length → (hs.getD j HS.z).ls.length + 1 ≤ 65536) : Calls Try.prog 37 #[.slice A hs.length c, .string name] w fun e w' => ∃ v es, e = .returned v ∧ Cpy w (forgL name hs) (forgL name hs).length v es w' := by
  have HSM : Hid (hs.length * 64 ≤ 140737488355328) := P.small
  have HF8 : Hid (∀ j, j < hs.length → (hs.getD j HS.z).ls.length + 1 ≤ 65536) := h8
  clear h8
  rw [show (forgL name hs).length = hs.length from by unfold forgL; rw [List.length_map]]
  go_enter Try.func37, Try.ntmps37
  go_wp2
  go_loopg [5, 6] hs.length (fun gk v5 v6 wr => ∃ (i : Nat) (es : List HR) (vv : Value), vv = v5 ∧ v6 = .int .i64 (i : Int) ∧ i + gk = hs.length ∧ Cpy w (forgL name (hs.take i)) i vv es wr)
  case atStart => exact ⟨0, [], _, rfl, by first | rfl | go_num, by omega, Cpy.nil _ _⟩
  case round =>
    obtain ⟨i, es, vv, rfl, rfl, hgk, C⟩ := hrel
    by_cases hi : i < hs.length
    case pos =>
      have HI : Hid (i < hs.length) := hi
      have hiI : (i : Int) < (hs.length : Int) := by omega
      have hwr : IntKind.i64.wrap ((i : Int) + 1) = (i : Int) + 1 := by rw [IntKind.wrap_i64]; have := HSM.out; omega
      obtain ⟨g, o, a1, c1, rfl, k10, r10, R10⟩ := P.at i hi
      have H8 := HF8.out i hi
      obtain ⟨x, e1⟩ : ∃ x, hs.getD i HS.z = x := ⟨_, rfl⟩
      rw [e1] at r10 R10 H8
      have HX : Hid (hs.getD i HS.z = x) := e1
      have HFN : Hid (forgL name (hs.take (i + 1)) = forgL name (hs.take i) ++ [x.wr name 0 0 0]) := by
        show _ = _
        rw [take_next (z := HS.z) hi, e1]
        unfold forgL
        rw [List.map_append]
        rfl
      have hil : (forgL name (hs.take i)).length = i := by unfold forgL; rw [List.length_map, List.length_take]; omega
      clear e1
      obtain ⟨ds, hds⟩ : ∃ ds, forgL name (hs.take i) = ds := ⟨_, rfl⟩
      rw [hds] at C hil HFN
      have HIL : Hid (ds.length = i) := hil
      have HH8 : Hid (x.ls.length + 1 ≤ 65536) := H8
      clear hds hil H8
      have r1 := range_later r10 k10 C.below
      have R1 : RdO wr x a1 c1 := RdL.below R10 C.below
      have HC : Hid (Cpy w ds i vv es wr) := C
      clear C r10 R10
      go_wp2_with (first
        | ((with_reducible show wpList _ _ _ (Oper.mk _ (Op.load 24 _) _ _ _ _ :: _) _ _); refine wpList_load24 rfl _ rfl g (o + i * 6) (x.on a1 c1) rfl r1 ?_)
        | (go_at_call 33; refine (rwrite_any x a1 c1 name 0 0 0 _ R1 HH8.out).mono ?_; rintro e w5 ⟨a2, c2, rfl, O5, b5⟩; dsimp only [HS.on, HR.val])
        | ((with_reducible show wpList _ _ _ (Oper.mk _ (Op.call { callee := Callee.builtin Builtin.append, args := _, argTypes := #[25, 25] }) _ _ _ _ :: _) _ _); go_must (have SA := (HC.out.later b5).later ((Below.refl _ _).alloc (Nat.le_refl _) (.cells #[.int .i64 (x.wr name 0 0 0).peer, .int .i64 (x.wr name 0 0 0).boot, .int .i64 (x.wr name 0 0 0).life, .slice a2 (x.wr name 0 0 0).ls.length c2, .bool (x.wr name 0 0 0).pend, .int .i64 (x.wr name 0 0 0).miss] 24)); have X8 := World.alloc_heap_new w5 (.cells #[.int .i64 (x.wr name 0 0 0).peer, .int .i64 (x.wr name 0 0 0).boot, .int .i64 (x.wr name 0 0 0).life, .slice a2 (x.wr name 0 0 0).ls.length c2, .bool (x.wr name 0 0 0).pend, .int .i64 (x.wr name 0 0 0).miss] 24); refine wpList_more_lstH (base := w.heap.size) (k := i) (es := es) (ds := [(x.wr name 0 0 0).on a2 c2]) (ad := ⟨w5.heap.size, 0, none⟩) rfl _ _ rfl rfl rfl SA.row rfl (fun j u hj => by rw [add_plain, Nat.zero_add]; exact row_cell X8 j u (by simpa [csH, HR.cells, HS.on] using hj)) (by have := HSM.out; have := HI.out; omega) SA.below.size ?_; intro v8 w8 O8 g8 b8)))
      have C8 : Cpy w (ds ++ [(x.wr name 0 0 0)]) (i + 1) v8 (es ++ [(x.wr name 0 0 0).on a2 c2]) w8 := by
        have SA' : Cpy w ds ds.length vv es (w5.alloc (.cells #[.int .i64 (x.wr name 0 0 0).peer, .int .i64 (x.wr name 0 0 0).boot, .int .i64 (x.wr name 0 0 0).life, .slice a2 (x.wr name 0 0 0).ls.length c2, .bool (x.wr name 0 0 0).pend, .int .i64 (x.wr name 0 0 0).miss] 24)) := by rw [HIL.out]; exact SA
        have q := SA'.snoc (x := (x.wr name 0 0 0)) (((O5.mono HC.out.below.size).below ((Below.refl _ _).alloc (Nat.le_refl _) _))) g8 b8 (by rw [HIL.out]; exact O8)
        rw [List.length_append, HIL.out] at q
        exact q
      go_roundg (gk - 1)
      case measure => omega
      case rel => exact ⟨i + 1, _, _, rfl, by first | rfl | go_num, by omega, by rw [HFN.out]; exact C8⟩
    case neg =>
      have hiI : ¬ (i : Int) < (hs.length : Int) := by omega
      have hin : i = hs.length := by omega
      subst hin
      rw [List.take_length] at C
      go_wp2
      go_ret
      exact ⟨_, rfl, es, C⟩
end Go.Proofs.Ytacefkchhcpgaaa

namespace Go.Proofs.Ytacefkchhcpgaaa
open Go.ChangeShapes Go.WideShapes Go.ChangeAt Go.RowKit Go.Maps Go.Shelf
set_option linter.unusedVariables false
set_option linter.unusedSimpArgs false
attribute [local go_sem] Oper.semAt_some

theorem fit_list {id : Int} {x : HS} (h : x.fit id = true) : linesB id x.peer x.ls = true := by
  unfold HS.fit at h
  simp only [Bool.and_eq_true] at h
  exact h.2.2.2.2.2.2.2
theorem reg_real {id : Int} {h : HS} (name : ByteArray) (hf : h.fit id = true) : zeroB (regN name h.ls).v (regN name h.ls).p (regN name h.ls).f = true ∨ 1 ≤ (regN name h.ls).v := by
  unfold regN
  cases hh : hitN name h.ls with
  | false => exact .inl rfl
  | true =>
    rw [if_pos rfl]
    have := lines_at (fit_list hf) _ (hit_iff hh).1
    unfold okAt ok1 at this
    simp only [Bool.and_eq_true] at this
    exact fit_real (r := (h.ls.getD (posN name h.ls) LS.z).rs) this.2.2.2
theorem eqL_eq {a b : LS} (h : eqL a b = true) : a = b := by
  obtain ⟨n, v, p, f⟩ := a
  obtain ⟨m, u, q, g⟩ := b
  unfold eqL eqN sameB at h
  rw [Bool.and_eq_true, Go.Lib.bytes_beq_iff, decide_eq_true_eq] at h
  obtain ⟨e0, e1, e2, e3⟩ := h
  simp only at e0 e1 e2 e3
  subst e0 e1 e2 e3
  rfl
theorem eqLs_eq {a b : List LS} (h : eqLs a b = true) : a = b := by
  unfold eqLs at h
  rw [Bool.and_eq_true, decide_eq_true_eq, List.all_eq_true] at h
  refine List.ext_getElem h.1 fun i h1 h2 => ?_
  have := eqL_eq (h.2 i (List.mem_range.2 h1))
  rw [List.getD_eq_getElem?_getD, List.getD_eq_getElem?_getD, List.getElem?_eq_getElem h1, List.getElem?_eq_getElem h2] at this
  exact this
theorem wr_len (name : ByteArray) (v p f : Int) (ls : List LS) : (wrL name v p f ls).length ≤ ls.length + 1 := by
  have hp : posN name ls ≤ ls.length := pos_le _ _
  unfold wrL
  split
  · split
    · rw [List.length_eraseIdx]; split <;> omega
    · omega
  · split
    · rw [List.length_set]; omega
    · split
      · rw [List.length_append, List.length_cons, List.length_take, List.length_drop]; omega
      · omega
/-- What is merged in is told as the document tells it: by the half-edge, or by its register. -/
theorem doc_mgC {id : Int} {x : HS} {name : ByteArray} {v p f : Int} (hf : x.fit id = true) (hb : x.mgB id name v p f = true) : x.mgC id name v p f = !(x.wr name v p f).eq1 x := by
  have hb' := hb
  unfold HS.mgB at hb'
  rw [Bool.and_eq_true] at hb'
  obtain ⟨h1, h2⟩ := hb'
  have hnw := (nw_iff ⟨v, p, f⟩ (regN name x.ls).rs).1 h2
  simp only [LS.rs] at hnw
  have hre := reg_real name hf
  have hz : zeroB v p f = false := by
    cases e : zeroB v p f with
    | false => rfl
    | true =>
      exfalso
      unfold zeroB at e
      have := of_decide_eq_true e
      unfold zeroB at hre
      rcases hre with hq | hq
      · have := of_decide_eq_true hq
        omega
      · omega
  unfold HS.mgC
  rw [hb, Bool.true_and]
  by_cases room : hitN name x.ls = true ∨ x.ls.length < 8
  · obtain ⟨e1, _, _⟩ := wr_reg (name := name) hz room
    rw [e1, sameB_self]
    have hne : (x.wr name v p f).eq1 x = false := by
      cases e : (x.wr name v p f).eq1 x with
      | false => rfl
      | true =>
        exfalso
        unfold HS.eq1 at e
        simp only [Bool.and_eq_true] at e
        have hl : wrL name v p f x.ls = x.ls := eqLs_eq e.2.2.2.2.2
        rw [hl] at e1
        rw [e1] at hnw
        simp only at hnw
        omega
    rw [hne]
    rfl
  · have hh : hitN name x.ls = false := by cases e : hitN name x.ls with
      | false => rfl
      | true => exact absurd (.inl e) room
    have h8 : ¬ x.ls.length < 8 := fun k => room (.inr k)
    have hw : wrL name v p f x.ls = x.ls := by
      unfold wrL
      rw [if_neg (by rw [hz]; decide), if_neg (by rw [hh]; decide), if_neg h8]
    have hx : x.wr name v p f = x := by unfold HS.wr; rw [hw]
    rw [hx, eq1_self, hw]
    have hr : regN name x.ls = LS.z := by unfold regN; rw [hh]; rfl
    rw [hr]
    show sameB 0 0 0 v p f = false
    unfold sameB
    refine decide_eq_false fun k => ?_
    unfold zeroB at hz
    exact absurd hz (by rw [decide_eq_true ⟨k.1.symm, k.2.1.symm, k.2.2.symm⟩]; decide)
set_option maxRecDepth 100000 in
set_option maxHeartbeats 8000000 in
theorem rmerge_unfit (id : Int) (x : HS) (a : Option Addr) (c : Nat) (name : ByteArray) (v p f : Int) (w : World) (R : RdO w x a c) (hn : x.ls.length + 1 ≤ 65536) (hfit : fitB v p f id x.peer = false) : Calls Try.prog 35 #[.int .i64 id, (x.on a c).val, .string name, rg v p f] w fun e w' => ∃ a' c', e = .returned (.tuple #[((x.mg id name v p f).on a' c').val, .bool (x.mgC id name v p f)]) ∧ Own w.heap.size w' (x.mg id name v p f) a' c' ∧ Below w.heap.size w w' := by
  have C0 : Bx w [.cells (x.on a c).cells.toArray 24, .cells #[.int .i64 v, .int .i64 p, .int .i64 f] 42, .cells z6 24] _ := (((Bx.nil w).add rfl (.cells (x.on a c).cells.toArray 24)).add (by simp) (.cells #[.int .i64 v, .int .i64 p, .int .i64 f] 42)).add (by simp) (.cells z6 24)
  obtain ⟨W3, hW3⟩ : ∃ W3, (((w.alloc (.cells (x.on a c).cells.toArray 24)).alloc (.cells #[.int .i64 v, .int .i64 p, .int .i64 f] 42)).alloc (.cells z6 24)) = W3 := ⟨_, rfl⟩
  rw [hW3] at C0
  have T0 : W3.heap[w.heap.size]? = some (.cells (x.on a c).cells.toArray 24 (0, 0)) := C0.at0 _ rfl
  have T1 : W3.heap[w.heap.size + 1]? = some (.cells #[.int .i64 v, .int .i64 p, .int .i64 f] 42 (0, 0)) := C0.at_ 1 _ rfl
  have T2 : W3.heap[w.heap.size + 1 + 1]? = some (.cells z6 24 (0, 0)) := C0.at_ 2 _ rfl
  have R3 : RdO W3 x a c := RdL.below R C0.below
  have kp : ∀ X, Below W3.heap.size W3 X → X.cell? ⟨w.heap.size, 0, none⟩ = some (.int .i64 x.peer) := fun X b => (b.cell (p := ⟨w.heap.size, 0, none⟩) (row_lt T0)).trans (row_cell T0 0 _ rfl)
  have hz3 : w.heap.size + 3 ≤ W3.heap.size := C0.size
  have HZ3 : Hid (w.heap.size + 3 ≤ W3.heap.size) := hz3
  have HB3 : Hid (Below w.heap.size w W3) := C0.below
  have HW3 : Hid ((((w.alloc (.cells #[.int .i64 x.peer, .int .i64 x.boot, .int .i64 x.life, .slice a x.ls.length c, .bool x.pend, .int .i64 x.miss] 24)).alloc (.cells #[.int .i64 v, .int .i64 p, .int .i64 f] 42)).alloc (.cells z6 24)) = W3) := hW3
  clear hW3 C0 hz3
  have hmb : x.mgB id name v p f = false := by unfold HS.mgB; rw [hfit]; rfl
  obtain ⟨m1, m2⟩ := mg_no hmb
  rw [m1, m2]
  clear m1 m2 hmb
  rw [show (x.on a c).val = .agg #[.int .i64 x.peer, .int .i64 x.boot, .int .i64 x.life, .slice a x.ls.length c, .bool x.pend, .int .i64 x.miss] from rfl]
  go_enter Try.func35, Try.ntmps35
  go_wp2_with (fail)
  rw [HW3.out]
  clear HW3
  refine wp_region_any (by kernel_rfl) ?_
  change wpAny _ _ _ _ _ _ _ (World.drew _)
  refine wpAny_narrow (fun W' => Below W3.heap.size W3 W') _ _ _ _ ?_
  refine anyH_take 0 11 (rg v p f) rfl rfl (by kernel_rfl) (by kernel_rfl) (by kernel_rfl) (fun _ _ _ h => h) (Or.inl ⟨by rfl, fun X hSw => exec_load42 rfl (w.heap.size + 1) v p f rfl ((hSw.block _ (row_lt T1)).trans T1)⟩) ((Below.refl _ _).drew) ?_
  try simp only [Act.put, List.setIfInBounds_toArray, List.set_cons_zero, List.set_cons_succ]
  refine anyH_take 1 12 (.int .i64 id) rfl rfl (by kernel_rfl) (by kernel_rfl) (by kernel_rfl) (fun _ _ _ h => h) (Or.inl ⟨by rfl, by intro w hSw; go_simp⟩) ((Below.refl _ _).drew) ?_
  try simp only [Act.put, List.setIfInBounds_toArray, List.set_cons_zero, List.set_cons_succ]
  refine anyH_take 2 13 (.pointer (some ⟨w.heap.size, 0, none⟩)) rfl rfl (by kernel_rfl) (by kernel_rfl) (by kernel_rfl) (fun _ _ _ h => h) (Or.inl ⟨by rfl, by intro w hSw; go_simp⟩) ((Below.refl _ _).drew) ?_
  try simp only [Act.put, List.setIfInBounds_toArray, List.set_cons_zero, List.set_cons_succ]
  refine anyH_take 3 14 (.int .i64 x.peer) rfl rfl (by kernel_rfl) (by kernel_rfl) (by kernel_rfl) (fun _ _ _ h => h) (Or.inl ⟨by rfl, by intro w hSw; have s1 := kp _ hSw; go_simp⟩) ((Below.refl _ _).drew) ?_
  try simp only [Act.put, List.setIfInBounds_toArray, List.set_cons_zero, List.set_cons_succ]
  refine wpAnyH_ready (rs := [4]) (by kernel_rfl) (by simp) ?_
  refine AllReadyH.cons rfl (fun K hK => ?_) AllReadyH.nil
  go_simp
  go_wp2_with (go_at_call 38; refine (rfit_any v p f id x.peer _).mono ?_; rw [hfit]; rintro e w4 ⟨rfl, b4⟩)
  refine hK.out _ _ ((Below.refl _ _).drew.trans b4) (fun hS => ?_)
  clear hK
  refine anyH_take 5 16 (.bool true) rfl rfl (by kernel_rfl) (by kernel_rfl) (by kernel_rfl) (fun _ _ _ h => h) (Or.inl ⟨by rfl, by intro w hSw; go_simp⟩) (hS) ?_
  try simp only [Act.put, List.setIfInBounds_toArray, List.set_cons_zero, List.set_cons_succ]
  refine anyH_take 6 17 (.bool true) rfl rfl (by kernel_rfl) (by kernel_rfl) (by kernel_rfl) (fun _ _ _ h => h) (Or.inl ⟨by rfl, by intro w hSw; go_simp⟩) (hS) ?_
  try simp only [Act.put, List.setIfInBounds_toArray, List.set_cons_zero, List.set_cons_succ]
  refine anyH_take 7 18 (undef) rfl rfl (by kernel_rfl) (by kernel_rfl) (by kernel_rfl) (fun _ _ _ h => h) (Or.inr ⟨by rfl, rfl⟩) (hS) ?_
  try simp only [Act.put, List.setIfInBounds_toArray, List.set_cons_zero, List.set_cons_succ]
  refine anyH_take 8 19 (undef) rfl rfl (by kernel_rfl) (by kernel_rfl) (by kernel_rfl) (fun _ _ _ h => h) (Or.inr ⟨by rfl, rfl⟩) (hS) ?_
  try simp only [Act.put, List.setIfInBounds_toArray, List.set_cons_zero, List.set_cons_succ]
  refine anyH_take 9 20 (undef) rfl rfl (by kernel_rfl) (by kernel_rfl) (by kernel_rfl) (fun _ _ _ h => h) (Or.inr ⟨by rfl, rfl⟩) (hS) ?_
  try simp only [Act.put, List.setIfInBounds_toArray, List.set_cons_zero, List.set_cons_succ]
  refine anyH_take 10 21 (undef) rfl rfl (by kernel_rfl) (by kernel_rfl) (by kernel_rfl) (fun _ _ _ h => h) (Or.inr ⟨by rfl, rfl⟩) (hS) ?_
  try simp only [Act.put, List.setIfInBounds_toArray, List.set_cons_zero, List.set_cons_succ]
  refine anyH_take 11 22 (undef) rfl rfl (by kernel_rfl) (by kernel_rfl) (by kernel_rfl) (fun _ _ _ h => h) (Or.inr ⟨by rfl, rfl⟩) (hS) ?_
  try simp only [Act.put, List.setIfInBounds_toArray, List.set_cons_zero, List.set_cons_succ]
  refine anyH_take 12 23 (undef) rfl rfl (by kernel_rfl) (by kernel_rfl) (by kernel_rfl) (fun _ _ _ h => h) (Or.inr ⟨by rfl, rfl⟩) (hS) ?_
  try simp only [Act.put, List.setIfInBounds_toArray, List.set_cons_zero, List.set_cons_succ]
  refine anyH_take 13 24 (.bool true) rfl rfl (by kernel_rfl) (by kernel_rfl) (by kernel_rfl) (fun _ _ _ h => h) (Or.inl ⟨by rfl, by intro w hSw; go_simp⟩) (hS) ?_
  try simp only [Act.put, List.setIfInBounds_toArray, List.set_cons_zero, List.set_cons_succ]
  refine wpAnyH_done (by kernel_rfl) ?_ _
  have T0' := (hS.block _ (row_lt T0)).trans T0
  have T2' := (hS.block _ (row_lt T2)).trans T2
  have R3' : RdO w4 x a c := RdL.below R3 hS
  have B3 := HB3.out.trans (hS.mono HB3.out.size)
  have hzz := hS.size
  clear kp
  go_wp2_with (first
    | ((with_reducible show wpList _ _ _ (Oper.mk _ (Op.load 24 _) _ _ _ _ :: _) _ _); refine wpList_load24 rfl _ rfl w.heap.size 0 (x.on a c) rfl (range_rowH T0') ?_)
    | (go_at_call 29; refine (one_any x a c _ R3').mono ?_; rintro e w7 ⟨a2, c2, rfl, O7, b7⟩; have X7 := (b7.block _ (row_lt T2')).trans T2'; have B7 := B3.trans (b7.mono B3.size))
    | ((with_reducible show wpList _ _ _ (Oper.mk _ (Op.store 24 _ _) _ _ _ _ :: _) _ _); refine wpList_store24row rfl _ _ rfl (x.on a2 c2) X7 rfl rfl rfl ?_))
  have hz3 := HZ3.out
  refine bodyPost_ret (results_ct rfl _ _ (w.heap.size + 1 + 1) _ rfl (load_24 (d := x.on a2 c2) (setRow_heap _ _ _ _ _ _ X7))) rfl ⟨a2, c2, rfl, ⟨O7.lst.of_block fun g off e => setRow_other _ _ _ _ (by have := O7.new g off e; omega), fun g off e => by have := O7.new g off e; omega⟩, below_row B7 (by omega) _⟩
set_option maxRecDepth 100000 in
set_option maxHeartbeats 8000000 in
theorem rmerge_old (id : Int) (x : HS) (a : Option Addr) (c : Nat) (name : ByteArray) (v p f : Int) (w : World) (R : RdO w x a c) (hn : x.ls.length + 1 ≤ 65536) (hfit : fitB v p f id x.peer = true) (hfl : linesB id x.peer x.ls = true) (hnew : newB v p (regN name x.ls).v (regN name x.ls).p = false) : Calls Try.prog 35 #[.int .i64 id, (x.on a c).val, .string name, rg v p f] w fun e w' => ∃ a' c', e = .returned (.tuple #[((x.mg id name v p f).on a' c').val, .bool (x.mgC id name v p f)]) ∧ Own w.heap.size w' (x.mg id name v p f) a' c' ∧ Below w.heap.size w w' := by
  have C0 : Bx w [.cells (x.on a c).cells.toArray 24, .cells #[.int .i64 v, .int .i64 p, .int .i64 f] 42, .cells z6 24] _ := (((Bx.nil w).add rfl (.cells (x.on a c).cells.toArray 24)).add (by simp) (.cells #[.int .i64 v, .int .i64 p, .int .i64 f] 42)).add (by simp) (.cells z6 24)
  obtain ⟨W3, hW3⟩ : ∃ W3, (((w.alloc (.cells (x.on a c).cells.toArray 24)).alloc (.cells #[.int .i64 v, .int .i64 p, .int .i64 f] 42)).alloc (.cells z6 24)) = W3 := ⟨_, rfl⟩
  rw [hW3] at C0
  have T0 : W3.heap[w.heap.size]? = some (.cells (x.on a c).cells.toArray 24 (0, 0)) := C0.at0 _ rfl
  have T1 : W3.heap[w.heap.size + 1]? = some (.cells #[.int .i64 v, .int .i64 p, .int .i64 f] 42 (0, 0)) := C0.at_ 1 _ rfl
  have T2 : W3.heap[w.heap.size + 1 + 1]? = some (.cells z6 24 (0, 0)) := C0.at_ 2 _ rfl
  have R3 : RdO W3 x a c := RdL.below R C0.below
  have kp : ∀ X, Below W3.heap.size W3 X → X.cell? ⟨w.heap.size, 0, none⟩ = some (.int .i64 x.peer) := fun X b => (b.cell (p := ⟨w.heap.size, 0, none⟩) (row_lt T0)).trans (row_cell T0 0 _ rfl)
  have hz3 : w.heap.size + 3 ≤ W3.heap.size := C0.size
  have HZ3 : Hid (w.heap.size + 3 ≤ W3.heap.size) := hz3
  have HB3 : Hid (Below w.heap.size w W3) := C0.below
  have HW3 : Hid ((((w.alloc (.cells #[.int .i64 x.peer, .int .i64 x.boot, .int .i64 x.life, .slice a x.ls.length c, .bool x.pend, .int .i64 x.miss] 24)).alloc (.cells #[.int .i64 v, .int .i64 p, .int .i64 f] 42)).alloc (.cells z6 24)) = W3) := hW3
  clear hW3 C0 hz3
  have hmb : x.mgB id name v p f = false := by unfold HS.mgB; rw [hfit, hnew]; rfl
  obtain ⟨m1, m2⟩ := mg_no hmb
  rw [m1, m2]
  clear m1 m2 hmb
  have hreg := reg_eq name hfl
  clear hfl
  rw [show (x.on a c).val = .agg #[.int .i64 x.peer, .int .i64 x.boot, .int .i64 x.life, .slice a x.ls.length c, .bool x.pend, .int .i64 x.miss] from rfl]
  go_enter Try.func35, Try.ntmps35
  go_wp2_with (fail)
  rw [HW3.out]
  clear HW3
  refine wp_region_any (by kernel_rfl) ?_
  change wpAny _ _ _ _ _ _ _ (World.drew _)
  refine wpAny_narrow (fun W' => Below W3.heap.size W3 W') _ _ _ _ ?_
  refine anyH_take 0 11 (rg v p f) rfl rfl (by kernel_rfl) (by kernel_rfl) (by kernel_rfl) (fun _ _ _ h => h) (Or.inl ⟨by rfl, fun X hSw => exec_load42 rfl (w.heap.size + 1) v p f rfl ((hSw.block _ (row_lt T1)).trans T1)⟩) ((Below.refl _ _).drew) ?_
  try simp only [Act.put, List.setIfInBounds_toArray, List.set_cons_zero, List.set_cons_succ]
  refine anyH_take 1 12 (.int .i64 id) rfl rfl (by kernel_rfl) (by kernel_rfl) (by kernel_rfl) (fun _ _ _ h => h) (Or.inl ⟨by rfl, by intro w hSw; go_simp⟩) ((Below.refl _ _).drew) ?_
  try simp only [Act.put, List.setIfInBounds_toArray, List.set_cons_zero, List.set_cons_succ]
  refine anyH_take 2 13 (.pointer (some ⟨w.heap.size, 0, none⟩)) rfl rfl (by kernel_rfl) (by kernel_rfl) (by kernel_rfl) (fun _ _ _ h => h) (Or.inl ⟨by rfl, by intro w hSw; go_simp⟩) ((Below.refl _ _).drew) ?_
  try simp only [Act.put, List.setIfInBounds_toArray, List.set_cons_zero, List.set_cons_succ]
  refine anyH_take 3 14 (.int .i64 x.peer) rfl rfl (by kernel_rfl) (by kernel_rfl) (by kernel_rfl) (fun _ _ _ h => h) (Or.inl ⟨by rfl, by intro w hSw; have s1 := kp _ hSw; go_simp⟩) ((Below.refl _ _).drew) ?_
  try simp only [Act.put, List.setIfInBounds_toArray, List.set_cons_zero, List.set_cons_succ]
  refine wpAnyH_ready (rs := [4]) (by kernel_rfl) (by simp) ?_
  refine AllReadyH.cons rfl (fun K hK => ?_) AllReadyH.nil
  go_simp
  go_wp2_with (go_at_call 38; refine (rfit_any v p f id x.peer _).mono ?_; rw [hfit]; rintro e w4 ⟨rfl, b4⟩)
  refine hK.out _ _ ((Below.refl _ _).drew.trans b4) (fun hS => ?_)
  clear hK
  refine anyH_take 5 16 (.bool false) rfl rfl (by kernel_rfl) (by kernel_rfl) (by kernel_rfl) (fun _ _ _ h => h) (Or.inl ⟨by rfl, by intro w hSw; go_simp⟩) (hS) ?_
  try simp only [Act.put, List.setIfInBounds_toArray, List.set_cons_zero, List.set_cons_succ]
  refine anyH_take 6 17 (.bool false) rfl rfl (by kernel_rfl) (by kernel_rfl) (by kernel_rfl) (fun _ _ _ h => h) (Or.inl ⟨by rfl, by intro w hSw; go_simp⟩) (hS) ?_
  try simp only [Act.put, List.setIfInBounds_toArray, List.set_cons_zero, List.set_cons_succ]
  refine anyH_take 7 18 (rg v p f) rfl rfl (by kernel_rfl) (by kernel_rfl) (by kernel_rfl) (fun _ _ _ h => h) (Or.inl ⟨by rfl, fun X hSw => exec_load42 rfl (w.heap.size + 1) v p f rfl ((hSw.block _ (row_lt T1)).trans T1)⟩) (hS) ?_
  try simp only [Act.put, List.setIfInBounds_toArray, List.set_cons_zero, List.set_cons_succ]
  refine anyH_take 8 19 ((x.on a c).val) rfl rfl (by kernel_rfl) (by kernel_rfl) (by kernel_rfl) (fun _ _ _ h => h) (Or.inl ⟨by rfl, fun X hSw => exec_load24 rfl w.heap.size 0 (x.on a c) rfl (range_rowH ((hSw.block _ (row_lt T0)).trans T0))⟩) (hS) ?_
  try simp only [Act.put, List.setIfInBounds_toArray, List.set_cons_zero, List.set_cons_succ]
  refine anyH_take 9 20 (.string name) rfl rfl (by kernel_rfl) (by kernel_rfl) (by kernel_rfl) (fun _ _ _ h => h) (Or.inl ⟨by rfl, by intro w hSw; go_simp⟩) (hS) ?_
  try simp only [Act.put, List.setIfInBounds_toArray, List.set_cons_zero, List.set_cons_succ]
  refine wpAnyH_ready (rs := [10]) (by kernel_rfl) (by simp) ?_
  refine AllReadyH.cons rfl (fun K hK => ?_) AllReadyH.nil
  go_simp
  go_wp2_with (go_at_call 31; refine (rreg_any x a c name _ (RdL.below R3 hS)).mono ?_; rw [hreg]; rintro e w5 ⟨rfl, b5⟩)
  refine hK.out _ _ (hS.trans (b5.mono hS.size)) (fun hS => ?_)
  clear hK
  dsimp only [LS.r]
  refine wpAnyH_ready (rs := [11]) (by kernel_rfl) (by simp) ?_
  refine AllReadyH.cons rfl (fun K hK => ?_) AllReadyH.nil
  go_simp
  go_wp2_with (go_at_call 39; refine (rnewer_any v p f _ _ _ _).mono ?_; rw [hnew]; rintro e w6 ⟨rfl, b6⟩)
  refine hK.out _ _ (hS.trans (b6.mono hS.size)) (fun hS => ?_)
  clear hK
  refine anyH_take 12 23 (.bool true) rfl rfl (by kernel_rfl) (by kernel_rfl) (by kernel_rfl) (fun _ _ _ h => h) (Or.inl ⟨by rfl, by intro w hSw; go_simp⟩) (hS) ?_
  try simp only [Act.put, List.setIfInBounds_toArray, List.set_cons_zero, List.set_cons_succ]
  refine anyH_take 13 24 (.bool true) rfl rfl (by kernel_rfl) (by kernel_rfl) (by kernel_rfl) (fun _ _ _ h => h) (Or.inl ⟨by rfl, by intro w hSw; go_simp⟩) (hS) ?_
  try simp only [Act.put, List.setIfInBounds_toArray, List.set_cons_zero, List.set_cons_succ]
  refine wpAnyH_done (by kernel_rfl) ?_ _
  have T0' := (hS.block _ (row_lt T0)).trans T0
  have T2' := (hS.block _ (row_lt T2)).trans T2
  have R3' : RdO w6 x a c := RdL.below R3 hS
  have B3 := HB3.out.trans (hS.mono HB3.out.size)
  have hzz := hS.size
  clear kp
  go_wp2_with (first
    | ((with_reducible show wpList _ _ _ (Oper.mk _ (Op.load 24 _) _ _ _ _ :: _) _ _); refine wpList_load24 rfl _ rfl w.heap.size 0 (x.on a c) rfl (range_rowH T0') ?_)
    | (go_at_call 29; refine (one_any x a c _ R3').mono ?_; rintro e w7 ⟨a2, c2, rfl, O7, b7⟩; have X7 := (b7.block _ (row_lt T2')).trans T2'; have B7 := B3.trans (b7.mono B3.size))
    | ((with_reducible show wpList _ _ _ (Oper.mk _ (Op.store 24 _ _) _ _ _ _ :: _) _ _); refine wpList_store24row rfl _ _ rfl (x.on a2 c2) X7 rfl rfl rfl ?_))
  have hz3 := HZ3.out
  refine bodyPost_ret (results_ct rfl _ _ (w.heap.size + 1 + 1) _ rfl (load_24 (d := x.on a2 c2) (setRow_heap _ _ _ _ _ _ X7))) rfl ⟨a2, c2, rfl, ⟨O7.lst.of_block fun g off e => setRow_other _ _ _ _ (by have := O7.new g off e; omega), fun g off e => by have := O7.new g off e; omega⟩, below_row B7 (by omega) _⟩
set_option maxRecDepth 100000 in
set_option maxHeartbeats 8000000 in
theorem rmerge_new (id : Int) (x : HS) (a : Option Addr) (c : Nat) (name : ByteArray) (v p f : Int) (w : World) (R : RdO w x a c) (hn : x.ls.length + 1 ≤ 65536) (hf : x.fit id = true) (hfit : fitB v p f id x.peer = true) (hnew : newB v p (regN name x.ls).v (regN name x.ls).p = true) : Calls Try.prog 35 #[.int .i64 id, (x.on a c).val, .string name, rg v p f] w fun e w' => ∃ a' c', e = .returned (.tuple #[((x.mg id name v p f).on a' c').val, .bool (x.mgC id name v p f)]) ∧ Own w.heap.size w' (x.mg id name v p f) a' c' ∧ Below w.heap.size w w' := by
  have C0 : Bx w [.cells (x.on a c).cells.toArray 24, .cells #[.int .i64 v, .int .i64 p, .int .i64 f] 42, .cells z6 24] _ := (((Bx.nil w).add rfl (.cells (x.on a c).cells.toArray 24)).add (by simp) (.cells #[.int .i64 v, .int .i64 p, .int .i64 f] 42)).add (by simp) (.cells z6 24)
  obtain ⟨W3, hW3⟩ : ∃ W3, (((w.alloc (.cells (x.on a c).cells.toArray 24)).alloc (.cells #[.int .i64 v, .int .i64 p, .int .i64 f] 42)).alloc (.cells z6 24)) = W3 := ⟨_, rfl⟩
  rw [hW3] at C0
  have T0 : W3.heap[w.heap.size]? = some (.cells (x.on a c).cells.toArray 24 (0, 0)) := C0.at0 _ rfl
  have T1 : W3.heap[w.heap.size + 1]? = some (.cells #[.int .i64 v, .int .i64 p, .int .i64 f] 42 (0, 0)) := C0.at_ 1 _ rfl
  have T2 : W3.heap[w.heap.size + 1 + 1]? = some (.cells z6 24 (0, 0)) := C0.at_ 2 _ rfl
  have R3 : RdO W3 x a c := RdL.below R C0.below
  have kp : ∀ X, Below W3.heap.size W3 X → X.cell? ⟨w.heap.size, 0, none⟩ = some (.int .i64 x.peer) := fun X b => (b.cell (p := ⟨w.heap.size, 0, none⟩) (row_lt T0)).trans (row_cell T0 0 _ rfl)
  have hz3 : w.heap.size + 3 ≤ W3.heap.size := C0.size
  have HZ3 : Hid (w.heap.size + 3 ≤ W3.heap.size) := hz3
  have HB3 : Hid (Below w.heap.size w W3) := C0.below
  have HW3 : Hid ((((w.alloc (.cells #[.int .i64 x.peer, .int .i64 x.boot, .int .i64 x.life, .slice a x.ls.length c, .bool x.pend, .int .i64 x.miss] 24)).alloc (.cells #[.int .i64 v, .int .i64 p, .int .i64 f] 42)).alloc (.cells z6 24)) = W3) := hW3
  clear hW3 C0 hz3
  have hmb : x.mgB id name v p f = true := by unfold HS.mgB; rw [hfit, hnew]; rfl
  rw [show x.mg id name v p f = x.wr name v p f from by unfold HS.mg; rw [hmb]; rfl, doc_mgC hf hmb]
  have hreg := reg_eq name (fit_list hf)
  have hwl : ((x.wr name v p f).ls).length * 40 ≤ 140737488355328 := by
    have := wr_len name v p f x.ls
    show (wrL name v p f x.ls).length * 40 ≤ _
    omega
  have HWL : Hid (((x.wr name v p f).ls).length * 40 ≤ 140737488355328) := hwl
  have HN : Hid (x.ls.length + 1 ≤ 65536) := hn
  clear hmb hf hwl hn
  rw [show (x.on a c).val = .agg #[.int .i64 x.peer, .int .i64 x.boot, .int .i64 x.life, .slice a x.ls.length c, .bool x.pend, .int .i64 x.miss] from rfl]
  go_enter Try.func35, Try.ntmps35
  go_wp2_with (fail)
  rw [HW3.out]
  clear HW3
  refine wp_region_any (by kernel_rfl) ?_
  change wpAny _ _ _ _ _ _ _ (World.drew _)
  refine wpAny_narrow (fun W' => Below W3.heap.size W3 W') _ _ _ _ ?_
  refine anyH_take 0 11 (rg v p f) rfl rfl (by kernel_rfl) (by kernel_rfl) (by kernel_rfl) (fun _ _ _ h => h) (Or.inl ⟨by rfl, fun X hSw => exec_load42 rfl (w.heap.size + 1) v p f rfl ((hSw.block _ (row_lt T1)).trans T1)⟩) ((Below.refl _ _).drew) ?_
  try simp only [Act.put, List.setIfInBounds_toArray, List.set_cons_zero, List.set_cons_succ]
  refine anyH_take 1 12 (.int .i64 id) rfl rfl (by kernel_rfl) (by kernel_rfl) (by kernel_rfl) (fun _ _ _ h => h) (Or.inl ⟨by rfl, by intro w hSw; go_simp⟩) ((Below.refl _ _).drew) ?_
  try simp only [Act.put, List.setIfInBounds_toArray, List.set_cons_zero, List.set_cons_succ]
  refine anyH_take 2 13 (.pointer (some ⟨w.heap.size, 0, none⟩)) rfl rfl (by kernel_rfl) (by kernel_rfl) (by kernel_rfl) (fun _ _ _ h => h) (Or.inl ⟨by rfl, by intro w hSw; go_simp⟩) ((Below.refl _ _).drew) ?_
  try simp only [Act.put, List.setIfInBounds_toArray, List.set_cons_zero, List.set_cons_succ]
  refine anyH_take 3 14 (.int .i64 x.peer) rfl rfl (by kernel_rfl) (by kernel_rfl) (by kernel_rfl) (fun _ _ _ h => h) (Or.inl ⟨by rfl, by intro w hSw; have s1 := kp _ hSw; go_simp⟩) ((Below.refl _ _).drew) ?_
  try simp only [Act.put, List.setIfInBounds_toArray, List.set_cons_zero, List.set_cons_succ]
  refine wpAnyH_ready (rs := [4]) (by kernel_rfl) (by simp) ?_
  refine AllReadyH.cons rfl (fun K hK => ?_) AllReadyH.nil
  go_simp
  go_wp2_with (go_at_call 38; refine (rfit_any v p f id x.peer _).mono ?_; rw [hfit]; rintro e w4 ⟨rfl, b4⟩)
  refine hK.out _ _ ((Below.refl _ _).drew.trans b4) (fun hS => ?_)
  clear hK
  refine anyH_take 5 16 (.bool false) rfl rfl (by kernel_rfl) (by kernel_rfl) (by kernel_rfl) (fun _ _ _ h => h) (Or.inl ⟨by rfl, by intro w hSw; go_simp⟩) (hS) ?_
  try simp only [Act.put, List.setIfInBounds_toArray, List.set_cons_zero, List.set_cons_succ]
  refine anyH_take 6 17 (.bool false) rfl rfl (by kernel_rfl) (by kernel_rfl) (by kernel_rfl) (fun _ _ _ h => h) (Or.inl ⟨by rfl, by intro w hSw; go_simp⟩) (hS) ?_
  try simp only [Act.put, List.setIfInBounds_toArray, List.set_cons_zero, List.set_cons_succ]
  refine anyH_take 7 18 (rg v p f) rfl rfl (by kernel_rfl) (by kernel_rfl) (by kernel_rfl) (fun _ _ _ h => h) (Or.inl ⟨by rfl, fun X hSw => exec_load42 rfl (w.heap.size + 1) v p f rfl ((hSw.block _ (row_lt T1)).trans T1)⟩) (hS) ?_
  try simp only [Act.put, List.setIfInBounds_toArray, List.set_cons_zero, List.set_cons_succ]
  refine anyH_take 8 19 ((x.on a c).val) rfl rfl (by kernel_rfl) (by kernel_rfl) (by kernel_rfl) (fun _ _ _ h => h) (Or.inl ⟨by rfl, fun X hSw => exec_load24 rfl w.heap.size 0 (x.on a c) rfl (range_rowH ((hSw.block _ (row_lt T0)).trans T0))⟩) (hS) ?_
  try simp only [Act.put, List.setIfInBounds_toArray, List.set_cons_zero, List.set_cons_succ]
  refine anyH_take 9 20 (.string name) rfl rfl (by kernel_rfl) (by kernel_rfl) (by kernel_rfl) (fun _ _ _ h => h) (Or.inl ⟨by rfl, by intro w hSw; go_simp⟩) (hS) ?_
  try simp only [Act.put, List.setIfInBounds_toArray, List.set_cons_zero, List.set_cons_succ]
  refine wpAnyH_ready (rs := [10]) (by kernel_rfl) (by simp) ?_
  refine AllReadyH.cons rfl (fun K hK => ?_) AllReadyH.nil
  go_simp
  go_wp2_with (go_at_call 31; refine (rreg_any x a c name _ (RdL.below R3 hS)).mono ?_; rw [hreg]; rintro e w5 ⟨rfl, b5⟩)
  refine hK.out _ _ (hS.trans (b5.mono hS.size)) (fun hS => ?_)
  clear hK
  dsimp only [LS.r]
  refine wpAnyH_ready (rs := [11]) (by kernel_rfl) (by simp) ?_
  refine AllReadyH.cons rfl (fun K hK => ?_) AllReadyH.nil
  go_simp
  go_wp2_with (go_at_call 39; refine (rnewer_any v p f _ _ _ _).mono ?_; rw [hnew]; rintro e w6 ⟨rfl, b6⟩)
  refine hK.out _ _ (hS.trans (b6.mono hS.size)) (fun hS => ?_)
  clear hK
  refine anyH_take 12 23 (.bool false) rfl rfl (by kernel_rfl) (by kernel_rfl) (by kernel_rfl) (fun _ _ _ h => h) (Or.inl ⟨by rfl, by intro w hSw; go_simp⟩) (hS) ?_
  try simp only [Act.put, List.setIfInBounds_toArray, List.set_cons_zero, List.set_cons_succ]
  refine anyH_take 13 24 (.bool false) rfl rfl (by kernel_rfl) (by kernel_rfl) (by kernel_rfl) (fun _ _ _ h => h) (Or.inl ⟨by rfl, by intro w hSw; go_simp⟩) (hS) ?_
  try simp only [Act.put, List.setIfInBounds_toArray, List.set_cons_zero, List.set_cons_succ]
  refine wpAnyH_done (by kernel_rfl) ?_ _
  have T0' := (hS.block _ (row_lt T0)).trans T0
  have T1' := (hS.block _ (row_lt T1)).trans T1
  have T2' := (hS.block _ (row_lt T2)).trans T2
  have R3' : RdO w6 x a c := RdL.below R3 hS
  have B3 := HB3.out.trans (hS.mono HB3.out.size)
  have HZ6 : Hid (W3.heap.size ≤ w6.heap.size) := hS.size
  clear kp hS
  go_wp2_with (first
    | ((with_reducible show wpList _ _ _ (Oper.mk _ (Op.load 24 _) _ _ _ _ :: _) _ _); refine wpList_load24 rfl _ rfl w.heap.size 0 (x.on a c) rfl (range_rowH T0') ?_)
    | ((with_reducible show wpList _ _ _ (Oper.mk _ (Op.load 42 _) _ _ _ _ :: _) _ _); refine wpList_yieldg (by rfl) _ (exec_load42 rfl (w.heap.size + 1) v p f rfl T1') ?_)
    | (go_at_call 33; refine (rwrite_any x a c name v p f _ R3' HN.out).mono ?_; rintro e w7 ⟨a5, c5, rfl, O7, b7⟩; dsimp only [HS.on, HR.val])
    | fail)
  have X5 := World.alloc_heap_new w7 (.cells #[.int .i64 (x.wr name v p f).peer, .int .i64 (x.wr name v p f).boot, .int .i64 (x.wr name v p f).life, .slice a5 (x.wr name v p f).ls.length c5, .bool (x.wr name v p f).pend, .int .i64 (x.wr name v p f).miss] 24)
  have bA : Below w7.heap.size w7 (w7.alloc (.cells #[.int .i64 (x.wr name v p f).peer, .int .i64 (x.wr name v p f).boot, .int .i64 (x.wr name v p f).life, .slice a5 (x.wr name v p f).ls.length c5, .bool (x.wr name v p f).pend, .int .i64 (x.wr name v p f).miss] 24)) := (Below.refl _ _).alloc (Nat.le_refl _) _
  have b8 := b7.trans (bA.mono b7.size)
  have X0 := (b8.block _ (row_lt T0')).trans T0'
  have X2 := (b8.block _ (row_lt T2')).trans T2'
  have R50' := RdL.below R3' b8
  have O8 := O7.below bA
  have B8 := B3.trans (b8.mono B3.size)
  have HZ7 : Hid (w6.heap.size ≤ w7.heap.size) := b7.size
  obtain ⟨W5, hW5⟩ : ∃ W5, w7.alloc (.cells #[.int .i64 (x.wr name v p f).peer, .int .i64 (x.wr name v p f).boot, .int .i64 (x.wr name v p f).life, .slice a5 (x.wr name v p f).ls.length c5, .bool (x.wr name v p f).pend, .int .i64 (x.wr name v p f).miss] 24) = W5 := ⟨_, rfl⟩
  have hq7 : w7.heap.size < W5.heap.size := by rw [← hW5]; simp
  rw [hW5] at X5 X0 X2 R50' O8 B8 ⊢
  obtain ⟨q5, hq5⟩ : ∃ q : Nat, w7.heap.size = q := ⟨_, rfl⟩
  rw [hq5] at X5 hq7 HZ7
  simp only [hq5]
  have hn0 : w.heap.size ≠ w.heap.size + 1 + 1 := by omega
  have hne : q5 ≠ w.heap.size + 1 + 1 := by have := HZ7.out; have := HZ6.out; have := HZ3.out; omega
  have R5 : RdO W5.drew (x.wr name v p f) a5 c5 := RdL.below (O8.rd HWL.out) (Below.refl _ _).drew
  have R50 : RdO W5.drew x a c := RdL.below R50' (Below.refl _ _).drew
  replace X5 : W5.heap[q5]? = some (.cells ((x.wr name v p f).on a5 c5).cells.toArray 24 (0, 0)) := X5
  clear hW5 hq5 bA b8 T0' T1' T2' R50' R3' b7 O7
  refine wp_region_any (by kernel_rfl) ?_
  change wpAny _ _ _ _ _ _ _ (World.drew _)
  refine wpAny_narrow (fun W' => Only (at1 (w.heap.size + 1 + 1)) W5 W' ∧ ∃ cs, W'.heap[w.heap.size + 1 + 1]? = some (.cells cs 24 (0, 0)) ∧ cs.size = 6) _ _ _ _ ?_
  refine anyH_take 0 31 (((x.wr name v p f).on a5 c5).val) rfl rfl (by kernel_rfl) (by kernel_rfl) (by kernel_rfl) (fun _ _ _ h => h) (Or.inl ⟨by rfl, fun X hSw => exec_load24 rfl q5 0 ((x.wr name v p f).on a5 c5) rfl (range_rowH ((hSw.1.block _ (row_lt X5) hne).trans X5))⟩) (⟨(Only.refl _ _).drew, _, X2, rfl⟩) ?_
  try simp only [Act.put, List.setIfInBounds_toArray, List.set_cons_zero, List.set_cons_succ]
  refine anyH_take 1 32 (((x.wr name v p f).on a5 c5).val) rfl rfl (by kernel_rfl) (by kernel_rfl) (by kernel_rfl) (fun _ _ _ h => h) (Or.inl ⟨by rfl, fun X hSw => exec_load24 rfl q5 0 ((x.wr name v p f).on a5 c5) rfl (range_rowH ((hSw.1.block _ (row_lt X5) hne).trans X5))⟩) (⟨(Only.refl _ _).drew, _, X2, rfl⟩) ?_
  try simp only [Act.put, List.setIfInBounds_toArray, List.set_cons_zero, List.set_cons_succ]
  refine anyH_take 2 33 ((x.on a c).val) rfl rfl (by kernel_rfl) (by kernel_rfl) (by kernel_rfl) (fun _ _ _ h => h) (Or.inl ⟨by rfl, fun X hSw => exec_load24 rfl w.heap.size 0 (x.on a c) rfl (range_rowH ((hSw.1.block _ (row_lt X0) hn0).trans X0))⟩) (⟨(Only.refl _ _).drew, _, X2, rfl⟩) ?_
  try simp only [Act.put, List.setIfInBounds_toArray, List.set_cons_zero, List.set_cons_succ]
  refine wpAnyH_ready (rs := [3]) (by kernel_rfl) (by simp) ?_
  refine AllReadyH.cons rfl (fun K hK => ?_) AllReadyH.nil
  go_simp
  go_wp2_with (go_at_call 20; refine (sone_any (x.wr name v p f) x a5 a c5 c _ R5 R50).mono ?_; rintro e w6 ⟨rfl, b6⟩; have hS6 : (Only (at1 (w.heap.size + 1 + 1)) W5 w6 ∧ ∃ cs, w6.heap[w.heap.size + 1 + 1]? = some (.cells cs 24 (0, 0)) ∧ cs.size = 6) := ⟨((Only.refl _ _).drew).trans (Only.of_below b6), _, (b6.block _ (row_lt X2)).trans X2, rfl⟩)
  refine hK.out _ _ (hS6) (fun hS => ?_)
  clear hK
  refine anyH_take 4 35 (.bool (!(x.wr name v p f).eq1 x)) rfl rfl (by kernel_rfl) (by kernel_rfl) (by kernel_rfl) (fun _ _ _ h => h) (Or.inl ⟨by rfl, by intro w hSw; go_simp⟩) (hS) ?_
  try simp only [Act.put, List.setIfInBounds_toArray, List.set_cons_zero, List.set_cons_succ]
  refine wpAnyH_ready (rs := [5]) (by kernel_rfl) (by simp) ?_
  refine AllReadyH.cons rfl (fun K hK => ?_) AllReadyH.nil
  obtain ⟨o4, cs, Y2, hcs⟩ := _root_.id hS
  refine wp_store24row _ _ rfl ((x.wr name v p f).on a5 c5) Y2 hcs rfl rfl ?_
  refine hK.out _ _ (⟨o4.setRow (C := at1 (w.heap.size + 1 + 1)) (fun _ => rfl) _, _, setRow_heap _ _ _ _ _ _ Y2, rfl⟩) (fun hS9 => ?_)
  clear hK
  try simp only [Act.put, List.setIfInBounds_toArray, List.set_cons_zero, List.set_cons_succ]
  refine anyH_take 6 9 (.bool (!(x.wr name v p f).eq1 x)) rfl rfl (by kernel_rfl) (by kernel_rfl) (by kernel_rfl) (fun _ _ _ h => h) (Or.inl ⟨by rfl, by intro w hSw; go_simp⟩) (hS9) ?_
  try simp only [Act.put, List.setIfInBounds_toArray, List.set_cons_zero, List.set_cons_succ]
  refine wpAnyH_done (by kernel_rfl) ?_ _
  go_wp2
  have hz3 := HZ3.out
  have hz6 := HZ6.out
  have hz7 := HZ7.out
  refine bodyPost_ret (results_ct rfl _ _ (w.heap.size + 1 + 1) _ rfl (load_24 (d := (x.wr name v p f).on a5 c5) (setRow_heap _ _ _ _ _ _ Y2))) rfl ⟨a5, c5, rfl, ⟨O8.lst.of_block fun g off e => hS9.1.block g (O8.lst.lt' e) (by have := O8.new g off e; show ¬ g = _; omega), fun g off e => by have := O8.new g off e; omega⟩, ?_⟩
  exact B8.trans (hS9.1.below (n := w.heap.size) (by omega) (fun q hq => by rw [show q = _ from hq]; omega))
theorem rmergeh_any (id : Int) (x : HS) (a : Option Addr) (c : Nat) (name : ByteArray) (v p f : Int) (w : World) (R : RdO w x a c) (hn : x.ls.length + 1 ≤ 65536) (hf : x.fit id = true) : Calls Try.prog 35 #[.int .i64 id, (x.on a c).val, .string name, rg v p f] w fun e w' => ∃ a' c', e = .returned (.tuple #[((x.mg id name v p f).on a' c').val, .bool (x.mgC id name v p f)]) ∧ Own w.heap.size w' (x.mg id name v p f) a' c' ∧ Below w.heap.size w w' := by
  cases hfit : fitB v p f id x.peer with
  | false => exact rmerge_unfit id x a c name v p f w R hn hfit
  | true =>
    cases hnew : newB v p (regN name x.ls).v (regN name x.ls).p with
    | false => exact rmerge_old id x a c name v p f w R hn hfit (fit_list hf) hnew
    | true => exact rmerge_new id x a c name v p f w R hn hf hfit hnew
end Go.Proofs.Ytacefkchhcpgaaa

namespace Go.Proofs.Ytacefkchhcpgaaa
open Go.ChangeShapes Go.WideShapes Go.ChangeAt Go.RowKit
set_option linter.unusedVariables false
set_option linter.unusedSimpArgs false

theorem mg_nz {id : Int} {x : HS} {name : ByteArray} {v p f : Int} (hf : x.fit id = true) (hb : x.mgB id name v p f = true) : zeroB v p f = false ∧ fitB v p f id x.peer = true := by
  unfold HS.mgB at hb
  rw [Bool.and_eq_true] at hb
  obtain ⟨h1, h2⟩ := hb
  have hnw := (nw_iff ⟨v, p, f⟩ (regN name x.ls).rs).1 h2
  simp only [LS.rs] at hnw
  have hre := reg_real name hf
  refine ⟨?_, h1⟩
  cases e : zeroB v p f with
  | false => rfl
  | true =>
    exfalso
    unfold zeroB at e
    have := of_decide_eq_true e
    unfold zeroB at hre
    rcases hre with hq | hq
    · have := of_decide_eq_true hq
      omega
    · omega
theorem lines_ok {id peer : Int} {ls : List LS} (h : linesB id peer ls = true) (j : Nat) (hj : j < ls.length) : ok1 id peer (ls.getD j LS.z) = true := by
  have := lines_at h j hj
  unfold okAt at this
  rw [Bool.and_eq_true] at this
  exact this.2
theorem lines_of {id peer : Int} {ls : List LS} (hok : ∀ j, j < ls.length → ok1 id peer (ls.getD j LS.z) = true) (hup : ∀ i j, i < j → j < ls.length → ltN (ls.getD i LS.z).name (ls.getD j LS.z).name = true) : linesB id peer ls = true := by
  refine lines_yes fun j hj => ?_
  unfold okAt
  rw [hok j hj, Bool.and_true]
  cases j with
  | zero =>
    have := hok 0 hj
    unfold ok1 at this
    rw [Bool.and_eq_true] at this
    exact lt_nil _ this.1
  | succ j =>
    rw [prevN_succ]
    exact hup j (j + 1) (by omega) hj
/-- What is written into fit lines leaves them fit. -/
theorem wr_lines {id peer : Int} {name : ByteArray} {v p f : Int} {ls : List LS} (h : linesB id peer ls = true) (hn : nameB name = true) (hz : zeroB v p f = false) (hf : fitB v p f id peer = true) : linesB id peer (wrL name v p f ls) = true := by
  have hx : ok1 id peer ⟨name, v, p, f⟩ = true := by unfold ok1; rw [hn, hz, hf]; rfl
  have hp : posN name ls ≤ ls.length := pos_le _ _
  have hlt : ∀ j, j < posN name ls → ltN (ls.getD j LS.z).name name = true := fun j hj => lt_of_pos (lt := fun y : LS => ltN y.name name) LS.z (l := ls) hj
  unfold wrL
  rw [if_neg (by rw [hz]; decide)]
  cases hh : hitN name ls with
  | true =>
    obtain ⟨hl, he⟩ := hit_iff hh
    have en : (ls.getD (posN name ls) LS.z).name = name := by unfold eqN at he; exact (Go.Lib.bytes_beq_iff _ _).1 he
    rw [if_pos rfl]
    have nm : ∀ i, ((ls.set (posN name ls) ⟨name, v, p, f⟩).getD i LS.z).name = (ls.getD i LS.z).name := fun i => by
      rw [getD_set _ _ _ _ _ hl]
      split
      · rename_i e; rw [e, en]
      · rfl
    refine lines_of (fun j hj => ?_) (fun i j hij hj => ?_)
    · rw [List.length_set] at hj
      rw [getD_set _ _ _ _ _ hl]
      split
      · exact hx
      · exact lines_ok h j hj
    · rw [List.length_set] at hj
      rw [nm, nm]
      exact up h i j hij hj
  | false =>
    rw [if_neg (by decide)]
    split
    · have above : ∀ j, posN name ls ≤ j → j < ls.length → ltN name (ls.getD j LS.z).name = true := fun j h1 h2 => by
        have hl : posN name ls < ls.length := by omega
        have e1 := hit_no hh hl
        have e2 : ltN (ls.getD (posN name ls) LS.z).name name = false := at_pos (lt := fun y : LS => ltN y.name name) LS.z hl
        have e3 := lt_tri e2 e1
        by_cases e : j = posN name ls
        · rw [e]; exact e3
        · exact ltN_trans e3 (up h _ j (by omega) h2)
      refine lines_of (fun j hj => ?_) (fun i j hij hj => ?_)
      · rw [ins_len _ _ _ hp] at hj
        rw [getD_ins _ _ _ _ _ hp]
        split
        · exact lines_ok h j (by omega)
        · split
          · exact hx
          · exact lines_ok h (j - 1) (by omega)
      · rw [ins_len _ _ _ hp] at hj
        rw [getD_ins _ _ _ _ _ hp, getD_ins _ _ _ _ _ hp]
        by_cases h1 : i < posN name ls
        · rw [if_pos h1]
          by_cases h2 : j < posN name ls
          · rw [if_pos h2]; exact up h i j hij (by omega)
          · rw [if_neg h2]
            by_cases h3 : j = posN name ls
            · rw [if_pos h3]; exact hlt i h1
            · rw [if_neg h3]; exact up h i (j - 1) (by omega) (by omega)
        · rw [if_neg h1, if_neg (show ¬ j < posN name ls by omega), if_neg (show ¬ j = posN name ls by omega)]
          by_cases h3 : i = posN name ls
          · rw [if_pos h3]; exact above (j - 1) (by omega) (by omega)
          · rw [if_neg h3]; exact up h (i - 1) (j - 1) (by omega) (by omega)
    · exact h
theorem wr_few {name : ByteArray} {v p f : Int} {ls : List LS} (h : ls.length ≤ 8) : (wrL name v p f ls).length ≤ 8 := by
  have hp : posN name ls ≤ ls.length := pos_le _ _
  unfold wrL
  split
  · split
    · rw [List.length_eraseIdx]; split <;> omega
    · exact h
  · split
    · rw [List.length_set]; exact h
    · split
      · rw [List.length_append, List.length_cons, List.length_take, List.length_drop]; omega
      · exact h
theorem mg_fit {id : Int} {x : HS} {name : ByteArray} {v p f : Int} (hf : x.fit id = true) (hn : nameB name = true) : (x.mg id name v p f).fit id = true := by
  cases hb : x.mgB id name v p f with
  | false => rw [(mg_no hb).1]; exact hf
  | true =>
    obtain ⟨hz, hfit⟩ := mg_nz hf hb
    rw [show x.mg id name v p f = x.wr name v p f from by unfold HS.mg; rw [hb]; rfl]
    have hw := wr_lines (fit_list hf) hn hz hfit
    have h8 := wr_few (name := name) (v := v) (p := p) (f := f) (fit_lines hf)
    unfold HS.fit at hf ⊢
    simp only [Bool.and_eq_true] at hf ⊢
    exact ⟨hf.1, hf.2.1, hf.2.2.1, hf.2.2.2.1, hf.2.2.2.2.1, hf.2.2.2.2.2.1, decide_eq_true h8, hw⟩
theorem forg_few {name : ByteArray} {hs : List HS} (h : ∀ j, j < hs.length → (hs.getD j HS.z).ls.length ≤ 8) : ∀ j, j < (forgL name hs).length → ((forgL name hs).getD j HS.z).ls.length * 40 ≤ 140737488355328 := fun j hj => by
  unfold forgL at hj ⊢
  rw [List.length_map] at hj
  have := h j hj
  rw [List.getD_eq_getElem?_getD, List.getElem?_eq_getElem hj] at this
  rw [List.getD_eq_getElem?_getD, List.getElem?_map, List.getElem?_eq_getElem hj]
  have h2 := wr_few (name := name) (v := 0) (p := 0) (f := 0) this
  show (wrL name 0 0 0 (hs[j]).ls).length * 40 ≤ _
  have e : (some hs[j]).getD HS.z = hs[j] := rfl
  rw [e] at h2
  omega
/-- A half-edge in block tb whose lines are being spoilt: all below base stays. -/
structure Spo (base : Nat) (W0 : World) (tb : Nat) (y : HS) (a : Option Addr) (c : Nat) (W : World) : Prop where
  below : Below base W0 W
  tb_ : W.heap[tb]? = some (.cells (y.on a c).cells.toArray 24 (0, 0))
  ls : y.ls.length = 0 ∨ ∃ g off cur, a = some ⟨g, off, none⟩ ∧ base ≤ g ∧ W.heap[g]? = some (.cells cur 44 (0, 0)) ∧ off + 4 * y.ls.length ≤ cur.size
theorem Spo.start {base : Nat} {W0 W : World} {tb : Nat} {y : HS} {a : Option Addr} {c : Nat} (b : Below base W0 W) (t : W.heap[tb]? = some (.cells (y.on a c).cells.toArray 24 (0, 0))) (O : Own base W y a c) : Spo base W0 tb y a c W := by
  refine ⟨b, t, ?_⟩
  rcases O.lst.mem with ⟨e1, e2⟩ | ⟨g, off, cur, e1, hh, hc, _⟩
  · have := O.lst.le
    exact .inl (by omega)
  · have := O.lst.le
    exact .inr ⟨g, off, cur, e1, O.new g off e1, hh, by omega⟩
theorem Spo.set {base : Nat} {W0 W : World} {tb : Nat} {y : HS} {a : Option Addr} {c : Nat} (S : Spo base W0 tb y a c W) {g : Nat} {cur : Array Value} (hg : base ≤ g) (hh : W.heap[g]? = some (.cells cur 44 (0, 0))) (k : Nat) (v : Value) : Spo base W0 tb y a c (W.setCell ⟨g, k, none⟩ v) := by
  refine ⟨S.below.setCell (p := ⟨g, k, none⟩) hg v, set_far S.tb_ ?_ _ _, ?_⟩
  · rintro rfl
    have := S.tb_
    rw [hh] at this
    cases this
  · rcases S.ls with h | ⟨q, off, cur', e1, e2, e3, e4⟩
    · exact .inl h
    · by_cases e : q = g
      · subst e
        rw [hh] at e3
        cases e3
        exact .inr ⟨q, off, _, e1, e2, set_row hh k v, by rw [Array.size_setIfInBounds]; exact e4⟩
      · exact .inr ⟨q, off, cur', e1, e2, set_far e3 e _ _, e4⟩
set_option maxRecDepth 100000 in
set_option maxHeartbeats 8000000 in
theorem writes_unfit (id : Int) (h : HS) (a : Option Addr) (c1 : Nat) (A : Option Addr) (c : Nat) (hs : List HS) (name : ByteArray) (v p f : Int) (w : World) (R0 : RdO w h a c1) (P0 : Hs w A hs.length c hs) (hno : fitsB id hs = false ∨ h.fit id = false ∨ nameB name = false) : Calls Try.prog 5 #[.int .i64 id, .slice A hs.length c, (h.on a c1).val, .string name, rg v p f] w fun e w' => e = .returned (.bool true) ∧ Below w.heap.size w w' := by
  obtain ⟨W0, hW0⟩ : ∃ W0, ((w.alloc (.cells #[.int .i64 h.peer, .int .i64 h.boot, .int .i64 h.life, .slice a h.ls.length c1, .bool h.pend, .int .i64 h.miss] 24)).alloc (.cells #[.int .i64 v, .int .i64 p, .int .i64 f] 42)) = W0 := ⟨_, rfl⟩
  have BW : Below w.heap.size w W0 := by rw [← hW0]; exact ((Below.refl _ _).alloc (Nat.le_refl _) _).alloc (by simp <;> omega) _
  have T : W0.heap[w.heap.size]? = some (.cells (h.on a c1).cells.toArray 24 (0, 0)) := by rw [← hW0]; exact heap_old (by simp) (heap_new rfl)
  have T1 : W0.heap[w.heap.size + 1]? = some (.cells #[.int .i64 v, .int .i64 p, .int .i64 f] 42 (0, 0)) := by rw [← hW0]; exact heap_new (by simp)
  have HW0 : Hid (((w.alloc (.cells #[.int .i64 h.peer, .int .i64 h.boot, .int .i64 h.life, .slice a h.ls.length c1, .bool h.pend, .int .i64 h.miss] 24)).alloc (.cells #[.int .i64 v, .int .i64 p, .int .i64 f] 42)) = W0) := hW0
  have R : RdO W0 h a c1 := RdL.below R0 BW
  have P := P0.below BW
  clear hW0
  have K11 := rfits_any id A c hs W0 P
  have K9 := fun W (b : Below W0.heap.size W0 W) => dfit_any id h a c1 W (RdL.below R b)
  have K28 := fun W => rname_any name W
  cases hf : fitsB id hs with
  | false =>
    rw [hf] at K11
    clear hno hf K9 K28 R0 P0
    rw [show (h.on a c1).val = .agg #[.int .i64 h.peer, .int .i64 h.boot, .int .i64 h.life, .slice a h.ls.length c1, .bool h.pend, .int .i64 h.miss] from rfl]
    go_enter Try.func5, Try.ntmps5
    go_wp2_with (fail)
    rw [HW0.out]
    clear HW0
    go_wp2_with (first
      | (go_at_call 11; refine K11.mono ?_; rintro e w1 ⟨rfl, B1⟩; clear K11; have TT := (B1.block _ (row_lt T)).trans T)
      | (go_at_call 15; refine (awake_any _).mono ?_; rintro e w3 ⟨rfl, b3⟩))
    go_ret
    exact ⟨rfl, (BW.trans (B1.mono BW.size)).trans (b3.mono (Nat.le_trans BW.size B1.size))⟩
  | true =>
    rw [hf] at K11
    cases hx : h.fit id with
    | false =>
      simp only [hx] at K9
      clear hno hf hx K28 R0 P0
      rw [show (h.on a c1).val = .agg #[.int .i64 h.peer, .int .i64 h.boot, .int .i64 h.life, .slice a h.ls.length c1, .bool h.pend, .int .i64 h.miss] from rfl]
      go_enter Try.func5, Try.ntmps5
      go_wp2_with (fail)
      rw [HW0.out]
      clear HW0
      go_wp2_with (first
        | (go_at_call 11; refine K11.mono ?_; rintro e w1 ⟨rfl, B1⟩; clear K11; have TT := (B1.block _ (row_lt T)).trans T)
        | ((with_reducible show wpList _ _ _ (Oper.mk _ (Op.load 24 (Operand.tmp 7)) _ _ _ _ :: _) _ _); refine wpList_load24g (by rfl) rfl w.heap.size (h.on a c1) rfl TT ?_)
        | (go_at_call 9; refine (K9 _ B1).mono ?_; rintro e w2 ⟨rfl, b2⟩; clear K9)
        | (go_at_call 15; refine (awake_any _).mono ?_; rintro e w3 ⟨rfl, b3⟩))
      go_ret
      exact ⟨rfl, ((BW.trans (B1.mono BW.size)).trans (b2.mono (Nat.le_trans BW.size B1.size))).trans (b3.mono (Nat.le_trans (Nat.le_trans BW.size B1.size) b2.size))⟩
    | true =>
      have hnm : nameB name = false := (hno.resolve_left (by rw [hf]; decide)).resolve_left (by rw [hx]; decide)
      simp only [hx] at K9
      simp only [hnm] at K28
      clear hno hf hx hnm R0 P0
      rw [show (h.on a c1).val = .agg #[.int .i64 h.peer, .int .i64 h.boot, .int .i64 h.life, .slice a h.ls.length c1, .bool h.pend, .int .i64 h.miss] from rfl]
      go_enter Try.func5, Try.ntmps5
      go_wp2_with (fail)
      rw [HW0.out]
      clear HW0
      go_wp2_with (first
        | (go_at_call 11; refine K11.mono ?_; rintro e w1 ⟨rfl, B1⟩; clear K11; have TT := (B1.block _ (row_lt T)).trans T)
        | ((with_reducible show wpList _ _ _ (Oper.mk _ (Op.load 24 (Operand.tmp 7)) _ _ _ _ :: _) _ _); refine wpList_load24g (by rfl) rfl w.heap.size (h.on a c1) rfl TT ?_)
        | (go_at_call 9; refine (K9 _ B1).mono ?_; rintro e w2 ⟨rfl, b2⟩; clear K9)
        | (go_at_call 28; refine (K28 _).mono ?_; rintro e w4 ⟨rfl, hw4⟩; rw [hw4]; clear hw4 K28)
        | (go_at_call 15; refine (awake_any _).mono ?_; rintro e w3 ⟨rfl, b3⟩))
      go_ret
      exact ⟨rfl, ((BW.trans (B1.mono BW.size)).trans (b2.mono (Nat.le_trans BW.size B1.size))).trans (b3.mono (Nat.le_trans (Nat.le_trans BW.size B1.size) b2.size))⟩
set_option maxRecDepth 100000 in
set_option maxHeartbeats 16000000 in
theorem writes_fit (id : Int) (h : HS) (a : Option Addr) (c1 : Nat) (A : Option Addr) (c : Nat) (hs : List HS) (name : ByteArray) (v p f : Int) (w : World) (R0 : RdO w h a c1) (P0 : Hs w A hs.length c hs) (hf : fitsB id hs = true) (hx : h.fit id = true) (hnm : nameB name = true) : Calls Try.prog 5 #[.int .i64 id, .slice A hs.length c, (h.on a c1).val, .string name, rg v p f] w fun e w' => e = .returned (.bool true) ∧ Below w.heap.size w w' := by
  obtain ⟨W0, hW0⟩ : ∃ W0, ((w.alloc (.cells #[.int .i64 h.peer, .int .i64 h.boot, .int .i64 h.life, .slice a h.ls.length c1, .bool h.pend, .int .i64 h.miss] 24)).alloc (.cells #[.int .i64 v, .int .i64 p, .int .i64 f] 42)) = W0 := ⟨_, rfl⟩
  have BW : Below w.heap.size w W0 := by rw [← hW0]; exact ((Below.refl _ _).alloc (Nat.le_refl _) _).alloc (by simp <;> omega) _
  have T : W0.heap[w.heap.size]? = some (.cells (h.on a c1).cells.toArray 24 (0, 0)) := by rw [← hW0]; exact heap_old (by simp) (heap_new rfl)
  have T1 : W0.heap[w.heap.size + 1]? = some (.cells #[.int .i64 v, .int .i64 p, .int .i64 f] 42 (0, 0)) := by rw [← hW0]; exact heap_new (by simp)
  have HW0 : Hid (((w.alloc (.cells #[.int .i64 h.peer, .int .i64 h.boot, .int .i64 h.life, .slice a h.ls.length c1, .bool h.pend, .int .i64 h.miss] 24)).alloc (.cells #[.int .i64 v, .int .i64 p, .int .i64 f] 42)) = W0) := hW0
  have R : RdO W0 h a c1 := RdL.below R0 BW
  have P := P0.below BW
  clear hW0
  have h16 := fits_few hf
  have hfl := fits_lines hf
  have h8 := fun j hj => fit_lines (fits_each hf j hj)
  have hx8 := fit_lines hx
  have hreg := reg_eq name (fit_list hx)
  have hmf := mg_fit (v := v) (p := p) (f := f) hx hnm
  have hm8 := fit_lines hmf
  have K11 := rfits_any id A c hs W0 P
  have K9 := fun W (b : Below W0.heap.size W0 W) => dfit_any id h a c1 W (RdL.below R b)
  have K28 := fun W => rname_any name W
  have K29 := fun W (b : Below W0.heap.size W0 W) => one_any h a c1 W (RdL.below R b)
  have K34 := fun W a' c' (r : RdO W h a' c') => merge_hs id h a' c' name v p f W r (by omega)
  have K35 := fun W (b : Below W0.heap.size W0 W) => rmergeh_any id h a c1 name v p f W (RdL.below R b) (by omega) hx
  have K32 := fun W a' c' (r : RdO W h a' c') => write_any h a' c' name v p f W r (by omega)
  have K33 := fun W (b : Below W0.heap.size W0 W) => rwrite_any h a c1 name v p f W (RdL.below R b) (by omega)
  have K31 := fun W (b : Below W0.heap.size W0 W) => rreg_any h a c1 name W (RdL.below R b)
  rw [hreg] at K31
  have K36 := fun W A' c' (H : Hs W A' hs.length c' hs) => forget_any name A' c' hs W H (fun j hj => by have := h8 j hj; omega)
  have K37 := fun W (b : Below W0.heap.size W0 W) => rforget_any name A c hs W (P.below b) (fun j hj => by have := h8 j hj; omega)
  have hgf := forg_few (name := name) h8
  have hgl : (forgL name hs).length = hs.length := by unfold forgL; rw [List.length_map]
  obtain ⟨M, hM⟩ : ∃ M, h.mg id name v p f = M := ⟨_, rfl⟩
  obtain ⟨mb, hmb⟩ : ∃ b, h.mgC id name v p f = b := ⟨_, rfl⟩
  obtain ⟨G, hG⟩ : ∃ G, forgL name hs = G := ⟨_, rfl⟩
  obtain ⟨Y, hY⟩ : ∃ Y, h.wr name v p f = Y := ⟨_, rfl⟩
  obtain ⟨⟨rn, rv, rp, rf⟩, hr⟩ : ∃ r, regN name h.ls = r := ⟨_, rfl⟩
  simp only [hM, hmb] at K34 K35
  simp only [hY] at K32 K33
  have hy9 := wr_len name v p f h.ls
  have hYl : Y.ls.length * 40 ≤ 140737488355328 := by rw [← hY]; show (wrL name v p f h.ls).length * 40 ≤ _; omega
  rw [hM] at hmf hm8
  simp only [hG] at K36 K37
  rw [hG] at hgf hgl
  have K30 := fun W a' c' (r : RdO W h a' c') => reg_any h a' c' name W r
  simp only [hr] at K30 K31
  have hbb : (mb != mb) = false := by simp
  have HSM : Hid (hs.length ≤ 16) := h16
  have HGL : Hid (G.length * 64 ≤ 140737488355328) := by show _ ≤ _; omega
  have HGF : Hid (∀ j, j < G.length → (G.getD j HS.z).ls.length * 40 ≤ 140737488355328) := hgf
  have HYL : Hid (Y.ls.length * 40 ≤ 140737488355328) := hYl
  have HXL : Hid (h.ls.length * 40 ≤ 140737488355328) := by show _ ≤ _; omega
  have HML : Hid (M.ls.length ≤ 8) := hm8
  have HMF : Hid (M.fit id = true) := hmf
  rw [hf] at K11
  simp only [hx] at K9
  simp only [hnm] at K28
  clear hf hx hnm h16 hfl h8 hx8 hreg hmf hm8 hgf hgl hM hmb hG hY hr hy9 hYl R0 P0
  rw [show (h.on a c1).val = .agg #[.int .i64 h.peer, .int .i64 h.boot, .int .i64 h.life, .slice a h.ls.length c1, .bool h.pend, .int .i64 h.miss] from rfl]
  go_enter Try.func5, Try.ntmps5
  go_wp2_with (fail)
  rw [HW0.out]
  clear HW0
  go_wp2_with (first
    | (go_at_call 11; refine K11.mono ?_; rintro e w1 ⟨rfl, B1⟩; clear K11; have TT := (B1.block _ (row_lt T)).trans T)
    | ((with_reducible show wpList _ _ _ (Oper.mk _ (Op.load 24 (Operand.tmp 7)) _ _ _ _ :: _) _ _); refine wpList_load24g (by rfl) rfl w.heap.size (h.on a c1) rfl TT ?_)
    | (go_at_call 9; refine (K9 _ B1).mono ?_; rintro e w2 ⟨rfl, b2⟩; clear K9; have B2 := B1.trans (b2.mono B1.size); have TT := (B2.block _ (row_lt T)).trans T)
    | (go_at_call 28; refine (K28 _).mono ?_; rintro e w4 ⟨rfl, hw4⟩; rw [hw4]; clear hw4 K28)
    | (go_at_call 29; refine (K29 _ B2).mono ?_; rintro e w3 ⟨a3, c3, rfl, O3, b3⟩; clear K29; dsimp only [HS.on, HR.val])
    | fail)
  have B3 := B2.trans (b3.mono B2.size)
  have bA : Below w3.heap.size w3 (w3.alloc (.cells #[.int .i64 h.peer, .int .i64 h.boot, .int .i64 h.life, .slice a3 h.ls.length c3, .bool h.pend, .int .i64 h.miss] 24)) := (Below.refl _ _).alloc (Nat.le_refl _) _
  have B3' := B3.trans (bA.mono B3.size)
  have T3 : (w3.alloc (.cells #[.int .i64 h.peer, .int .i64 h.boot, .int .i64 h.life, .slice a3 h.ls.length c3, .bool h.pend, .int .i64 h.miss] 24)).heap[w3.heap.size]? = some (.cells (h.on a3 c3).cells.toArray 24 (0, 0)) := heap_new rfl
  have R3 : RdO (w3.alloc (.cells #[.int .i64 h.peer, .int .i64 h.boot, .int .i64 h.life, .slice a3 h.ls.length c3, .bool h.pend, .int .i64 h.miss] 24)) h a3 c3 := RdL.below (O3.rd HXL.out) bA
  obtain ⟨q3, hq3⟩ : ∃ q : Nat, w3.heap.size = q := ⟨_, rfl⟩
  obtain ⟨W3, hW3⟩ : ∃ W3, w3.alloc (.cells #[.int .i64 h.peer, .int .i64 h.boot, .int .i64 h.life, .slice a3 h.ls.length c3, .bool h.pend, .int .i64 h.miss] 24) = W3 := ⟨_, rfl⟩
  rw [hW3] at B3' T3 R3 ⊢
  rw [hq3] at T3
  simp only [hq3]
  have T0 := (B3'.block _ (row_lt T)).trans T
  have TR := (B3'.block _ (row_lt T1)).trans T1
  clear hW3 hq3 bA B3 b3 O3 B1 B2 b2 TT
  refine wp_region_any (by kernel_rfl) ?_
  change wpAny _ _ _ _ _ _ _ (World.drew _)
  refine wpAny_narrow (fun W' => Below W3.heap.size W3 W') _ _ _ _ ?_
  refine anyH_take 0 35 ((h.on a3 c3).val) rfl rfl (by kernel_rfl) (by kernel_rfl) (by kernel_rfl) (fun _ _ _ h => h) (Or.inl ⟨by rfl, fun X hSw => exec_load24 rfl q3 0 (h.on a3 c3) rfl (range_rowH ((hSw.block _ (row_lt T3)).trans T3))⟩) ((Below.refl _ _).drew) ?_
  try simp only [Act.put, List.setIfInBounds_toArray, List.set_cons_zero, List.set_cons_succ]
  refine anyH_take 1 36 (.string name) rfl rfl (by kernel_rfl) (by kernel_rfl) (by kernel_rfl) (fun _ _ _ h => h) (Or.inl ⟨by rfl, by intro w hSw; go_simp⟩) ((Below.refl _ _).drew) ?_
  try simp only [Act.put, List.setIfInBounds_toArray, List.set_cons_zero, List.set_cons_succ]
  refine anyH_take 3 38 ((h.on a c1).val) rfl rfl (by kernel_rfl) (by kernel_rfl) (by kernel_rfl) (fun _ _ _ h => h) (Or.inl ⟨by rfl, fun X hSw => exec_load24 rfl w.heap.size 0 (h.on a c1) rfl (range_rowH ((hSw.block _ (row_lt T0)).trans T0))⟩) ((Below.refl _ _).drew) ?_
  try simp only [Act.put, List.setIfInBounds_toArray, List.set_cons_zero, List.set_cons_succ]
  refine anyH_take 4 39 (.string name) rfl rfl (by kernel_rfl) (by kernel_rfl) (by kernel_rfl) (fun _ _ _ h => h) (Or.inl ⟨by rfl, by intro w hSw; go_simp⟩) ((Below.refl _ _).drew) ?_
  try simp only [Act.put, List.setIfInBounds_toArray, List.set_cons_zero, List.set_cons_succ]
  refine wpAnyH_ready (rs := [2]) (by kernel_rfl) (by simp) ?_
  refine AllReadyH.cons rfl (fun K hK => ?_) AllReadyH.nil
  go_simp
  go_wp2_with (go_at_call 30; refine (K30 _ _ _ (RdL.below R3 (Below.refl _ _).drew)).mono ?_; rintro e w4 ⟨rfl, b4⟩; dsimp only [LS.r])
  refine hK.out _ _ ((Below.refl _ _).drew.trans b4) (fun hS => ?_)
  clear hK
  refine wpAnyH_ready (rs := [5]) (by kernel_rfl) (by simp) ?_
  refine AllReadyH.cons rfl (fun K hK => ?_) AllReadyH.nil
  go_simp
  go_wp2_with (go_at_call 31; refine (K31 _ (B3'.trans (hS.mono B3'.size))).mono ?_; rintro e w5 ⟨rfl, b5⟩; dsimp only [LS.r])
  refine hK.out _ _ (hS.trans (b5.mono hS.size)) (fun hS => ?_)
  clear hK
  refine anyH_take 6 41 (.bool false) rfl rfl (by kernel_rfl) (by kernel_rfl) (by kernel_rfl) (fun _ _ _ h => h) (Or.inl ⟨by rfl, fun X hSw => (by rw [exec_neq42 rfl rv rp rf rv rp rf rfl rfl X, sameB_self]; rfl)⟩) (hS) ?_
  try simp only [Act.put, List.setIfInBounds_toArray, List.set_cons_zero, List.set_cons_succ]
  refine anyH_take 7 42 (.bool false) rfl rfl (by kernel_rfl) (by kernel_rfl) (by kernel_rfl) (fun _ _ _ h => h) (Or.inl ⟨by rfl, by intro w hSw; go_simp⟩) (hS) ?_
  try simp only [Act.put, List.setIfInBounds_toArray, List.set_cons_zero, List.set_cons_succ]
  refine anyH_take 8 43 ((h.on a3 c3).val) rfl rfl (by kernel_rfl) (by kernel_rfl) (by kernel_rfl) (fun _ _ _ h => h) (Or.inl ⟨by rfl, fun X hSw => exec_load24 rfl q3 0 (h.on a3 c3) rfl (range_rowH ((hSw.block _ (row_lt T3)).trans T3))⟩) (hS) ?_
  try simp only [Act.put, List.setIfInBounds_toArray, List.set_cons_zero, List.set_cons_succ]
  refine anyH_take 9 44 (.string name) rfl rfl (by kernel_rfl) (by kernel_rfl) (by kernel_rfl) (fun _ _ _ h => h) (Or.inl ⟨by rfl, by intro w hSw; go_simp⟩) (hS) ?_
  try simp only [Act.put, List.setIfInBounds_toArray, List.set_cons_zero, List.set_cons_succ]
  refine anyH_take 10 45 (rg v p f) rfl rfl (by kernel_rfl) (by kernel_rfl) (by kernel_rfl) (fun _ _ _ h => h) (Or.inl ⟨by rfl, fun X hSw => exec_load42 rfl (w.heap.size + 1) v p f rfl ((hSw.block _ (row_lt TR)).trans TR)⟩) (hS) ?_
  try simp only [Act.put, List.setIfInBounds_toArray, List.set_cons_zero, List.set_cons_succ]
  refine anyH_take 12 47 ((h.on a c1).val) rfl rfl (by kernel_rfl) (by kernel_rfl) (by kernel_rfl) (fun _ _ _ h => h) (Or.inl ⟨by rfl, fun X hSw => exec_load24 rfl w.heap.size 0 (h.on a c1) rfl (range_rowH ((hSw.block _ (row_lt T0)).trans T0))⟩) (hS) ?_
  try simp only [Act.put, List.setIfInBounds_toArray, List.set_cons_zero, List.set_cons_succ]
  refine anyH_take 13 48 (.string name) rfl rfl (by kernel_rfl) (by kernel_rfl) (by kernel_rfl) (fun _ _ _ h => h) (Or.inl ⟨by rfl, by intro w hSw; go_simp⟩) (hS) ?_
  try simp only [Act.put, List.setIfInBounds_toArray, List.set_cons_zero, List.set_cons_succ]
  refine anyH_take 14 49 (rg v p f) rfl rfl (by kernel_rfl) (by kernel_rfl) (by kernel_rfl) (fun _ _ _ h => h) (Or.inl ⟨by rfl, fun X hSw => exec_load42 rfl (w.heap.size + 1) v p f rfl ((hSw.block _ (row_lt TR)).trans TR)⟩) (hS) ?_
  try simp only [Act.put, List.setIfInBounds_toArray, List.set_cons_zero, List.set_cons_succ]
  refine wpAnyH_ready (rs := [11]) (by kernel_rfl) (by simp) ?_
  refine AllReadyH.cons rfl (fun K hK => ?_) AllReadyH.nil
  go_simp
  go_wp2_with (go_at_call 32; refine (K32 _ _ _ (RdL.below R3 hS)).mono ?_; rintro e w6 ⟨a6, c6, rfl, O6, b6⟩)
  refine hK.out _ _ (hS.trans (b6.mono hS.size)) (fun hS => ?_)
  clear hK
  refine wpAnyH_ready (rs := [15]) (by kernel_rfl) (by simp) ?_
  refine AllReadyH.cons rfl (fun K hK => ?_) AllReadyH.nil
  go_simp
  go_wp2_with (go_at_call 33; refine (K33 _ (B3'.trans (hS.mono B3'.size))).mono ?_; rintro e w7 ⟨a7, c7, rfl, O7, b7⟩)
  refine hK.out _ _ (hS.trans (b7.mono hS.size)) (fun hS => ?_)
  clear hK
  refine wpAnyH_ready (rs := [16]) (by kernel_rfl) (by simp) ?_
  refine AllReadyH.cons rfl (fun K hK => ?_) AllReadyH.nil
  go_simp
  go_wp2_with (go_at_call 20; refine (sone_any Y Y a6 a7 c6 c7 _ (RdL.below (O6.rd HYL.out) b7) (O7.rd HYL.out)).mono ?_; rintro e w8 ⟨rfl, b8⟩; rw [eq1_self])
  refine hK.out _ _ (hS.trans (b8.mono hS.size)) (fun hS => ?_)
  clear hK
  refine anyH_take 17 52 (.bool false) rfl rfl (by kernel_rfl) (by kernel_rfl) (by kernel_rfl) (fun _ _ _ h => h) (Or.inl ⟨by rfl, by intro w hSw; go_simp⟩) (hS) ?_
  try simp only [Act.put, List.setIfInBounds_toArray, List.set_cons_zero, List.set_cons_succ]
  refine anyH_take 18 53 (.bool false) rfl rfl (by kernel_rfl) (by kernel_rfl) (by kernel_rfl) (fun _ _ _ h => h) (Or.inl ⟨by rfl, by intro w hSw; go_simp⟩) (hS) ?_
  try simp only [Act.put, List.setIfInBounds_toArray, List.set_cons_zero, List.set_cons_succ]
  refine wpAnyH_done (by kernel_rfl) ?_ _
  have B8 := B3'.trans (hS.mono B3'.size)
  have T38 := (hS.block _ (row_lt T3)).trans T3
  have T08 := (hS.block _ (row_lt T0)).trans T0
  have TR8 := (hS.block _ (row_lt TR)).trans TR
  have R38 : RdO w8 h a3 c3 := RdL.below R3 hS
  clear hS b4 b5 b6 b7 b8 O6 O7 T3 T0 TR R3 B3' K30 K31 K32 K33
  go_wp2_with (first
    | ((with_reducible show wpList _ _ _ (Oper.mk _ (Op.load 24 (Operand.tmp 11)) _ _ _ _ :: _) _ _); refine wpList_load24g (by rfl) rfl q3 (h.on a3 c3) rfl T38 ?_)
    | ((with_reducible show wpList _ _ _ (Oper.mk _ (Op.load 24 (Operand.tmp 7)) _ _ _ _ :: _) _ _); refine wpList_load24g (by rfl) rfl w.heap.size (h.on a c1) rfl T0A ?_)
    | ((with_reducible show wpList _ _ _ (Oper.mk _ (Op.load 24 (Operand.tmp 12)) _ _ _ _ :: _) _ _); refine wpList_load24g (by rfl) rfl w9.heap.size (M.on a9 c9) rfl T9B ?_)
    | ((with_reducible show wpList _ _ _ (Oper.mk _ (Op.load 24 (Operand.tmp 14)) _ _ _ _ :: _) _ _); refine wpList_load24g (by rfl) rfl w10.heap.size (M.on a10 c10) rfl T10 ?_)
    | ((with_reducible show wpList _ _ _ (Oper.mk _ (Op.load 42 (Operand.tmp 9)) _ _ _ _ :: _) _ _); refine wpList_yieldg (by rfl) _ (exec_load42 rfl (w.heap.size + 1) v p f rfl TR8) ?_)
    | (go_at_call 34; refine (K34 _ _ _ R38).mono ?_; rintro e w9 ⟨a9, c9, rfl, O9, b9⟩; clear K34; dsimp only [HS.on, HR.val]; have bA : Below w9.heap.size w9 (w9.alloc (.cells #[.int .i64 M.peer, .int .i64 M.boot, .int .i64 M.life, .slice a9 M.ls.length c9, .bool M.pend, .int .i64 M.miss] 24)) := (Below.refl _ _).alloc (Nat.le_refl _) _; have b9' := b9.trans (bA.mono b9.size); have B9 := B8.trans (b9'.mono B8.size); have T9 : (w9.alloc (.cells #[.int .i64 M.peer, .int .i64 M.boot, .int .i64 M.life, .slice a9 M.ls.length c9, .bool M.pend, .int .i64 M.miss] 24)).heap[w9.heap.size]? = some (.cells (M.on a9 c9).cells.toArray 24 (0, 0)) := heap_new rfl; have T0A := (b9'.block _ (row_lt T08)).trans T08; replace TR8 := (b9'.block _ (row_lt TR8)).trans TR8; have O9' := O9.below bA)
    | (go_at_call 35; refine (K35 _ B9).mono ?_; rintro e w10 ⟨a10, c10, rfl, O10, b10⟩; clear K35; dsimp only [HS.on, HR.val]; have bB : Below w10.heap.size w10 (w10.alloc (.cells #[.int .i64 M.peer, .int .i64 M.boot, .int .i64 M.life, .slice a10 M.ls.length c10, .bool M.pend, .int .i64 M.miss] 24)) := (Below.refl _ _).alloc (Nat.le_refl _) _; have b10' := b10.trans (bB.mono b10.size); have B10 := B9.trans (b10'.mono B9.size); have T10 : (w10.alloc (.cells #[.int .i64 M.peer, .int .i64 M.boot, .int .i64 M.life, .slice a10 M.ls.length c10, .bool M.pend, .int .i64 M.miss] 24)).heap[w10.heap.size]? = some (.cells (M.on a10 c10).cells.toArray 24 (0, 0)) := heap_new rfl; have T9B := (b10'.block _ (row_lt T9)).trans T9; have O9B := O9'.below b10'; have O10B := O10.below bB)
    | (go_at_call 20; refine (sone_any M M a9 a10 c9 c10 _ (O9B.rd (by have := HML.out; omega)) (O10B.rd (by have := HML.out; omega))).mono ?_; rintro e w11 ⟨rfl, b11⟩; rw [eq1_self]; replace T9B := (b11.block _ (row_lt T9B)).trans T9B; have O9C := O9B.below b11)
    | (go_at_call 9; refine (dfit_any id M a9 c9 _ (O9C.rd (by have := HML.out; omega))).mono ?_; rintro e w12 ⟨rfl, b12⟩; rw [HMF.out])
    | fail)
  have b8z : Below w8.heap.size w8 w12 := ((b9'.trans (b10'.mono b9'.size)).trans (b11.mono (Nat.le_trans b9'.size b10'.size))).trans (b12.mono (Nat.le_trans (Nat.le_trans b9'.size b10'.size) b11.size))
  have T9Z := (b12.block _ (row_lt T9B)).trans T9B
  have S0 : Spo w8.heap.size w8 w9.heap.size M a9 c9 w12 := Spo.start b8z T9Z (O9C.below b12)
  obtain ⟨q9, hq9⟩ : ∃ q : Nat, w9.heap.size = q := ⟨_, rfl⟩
  rw [hq9] at S0
  simp only [hq9]
  have HB8 : Hid (Below W0.heap.size W0 w8) := B8
  have HT3 : Hid (w8.heap[q3]? = some (.cells (h.on a3 c3).cells.toArray 24 (0, 0))) := T38
  have HR3 : Hid (RdO w8 h a3 c3) := R38
  have HT0 : Hid (w8.heap[w.heap.size]? = some (.cells (h.on a c1).cells.toArray 24 (0, 0))) := T08
  clear hq9 b8z T9Z b9 b9' b10 b10' b11 b12 bA bB B8 B9 B10 T38 T08 TR8 R38 T9 T9B T10 T0A O9 O9' O9B O9C O10 O10B hbb
  go_loopg [16] M.ls.length (fun gk v16 wr => ∃ j : Nat, v16 = .int .i64 (j : Int) ∧ j + gk = M.ls.length ∧ Spo w8.heap.size w8 q9 M a9 c9 wr)
  case atStart => exact ⟨0, by first | rfl | go_num, by omega, S0⟩
  case round =>
    obtain ⟨j, rfl, hgj, Sj⟩ := hrel
    have rP : wr.cell? ⟨q9, 3, none⟩ = some (.slice a9 M.ls.length c9) := row_cell Sj.tb_ 3 _ rfl
    by_cases hj : j < M.ls.length
    case pos =>
      have hjI : (j : Int) < (M.ls.length : Int) := by omega
      have hwj : IntKind.i64.wrap ((j : Int) + 1) = (j : Int) + 1 := by rw [IntKind.wrap_i64]; have := HML.out; omega
      rcases Sj.ls with h0 | ⟨g2, o2, cur, e1, e2, e3, e4⟩
      · omega
      · subst e1
        have hlt : o2 + j * 4 < cur.size := by omega
        have c9' : wr.cell? ⟨g2, o2 + j * 4, none⟩ = some (cur[o2 + j * 4]'hlt) := row_cell e3 _ _ (Array.getElem?_eq_getElem hlt)
        have f9 : wr.frozen? ⟨g2, o2 + j * 4, none⟩ = false := row_free e3 _
        have S9 := Sj.set e2 e3 (o2 + j * 4) (.string { data := #[115, 112, 111, 105, 108, 116] })
        clear e4 e3
        go_wp2
        go_roundg (gk - 1)
        case measure => omega
        case rel => exact ⟨j + 1, by first | rfl | go_num, by omega, S9⟩
    case neg =>
      have hjI : ¬ (j : Int) < (M.ls.length : Int) := by omega
      have BX : Below W0.heap.size W0 wr := HB8.out.trans (Sj.below.mono HB8.out.size)
      have T3X := (Sj.below.block _ (row_lt HT3.out)).trans HT3.out
      have T0X := (Sj.below.block _ (row_lt HT0.out)).trans HT0.out
      have R3X : RdO wr h a3 c3 := RdL.below HR3.out Sj.below
      have K14 := rcopy_any A c hs wr (P.below BX)
      clear S0 Sj
      go_wp2_with (first
        | (go_at_call 14; refine K14.mono ?_; rintro e w21 ⟨⟨a21, c21, rfl, H21⟩, b21⟩; clear K14; have B21 := BX.trans (b21.mono BX.size))
        | (go_at_call 36; refine (K36 _ _ _ H21).mono ?_; rintro e w22 ⟨v22, es22, rfl, C22⟩; clear K36; obtain ⟨a22, c22, e22, H22⟩ := C22.hs HGL.out HGF.out; subst e22; have b22 := C22.below; have B22 := B21.trans (b22.mono B21.size))
        | (go_at_call 37; refine (K37 _ B22).mono ?_; rintro e w23 ⟨v23, es23, rfl, C23⟩; clear K37; obtain ⟨a23, c23, e23, H23⟩ := C23.hs HGL.out HGF.out; subst e23; have b23 := C23.below; have B23 := B22.trans (b23.mono B22.size); have H22' := H22.below b23)
        | (go_at_call 13; refine (rsame_any a22 a23 c22 c23 G G _ H22' H23).mono ?_; rintro e w24 ⟨rfl, b24⟩; rw [eqHs_self]; have B24 := B23.trans (b24.mono B23.size); have b2z := ((b21.trans (b22.mono b21.size)).trans (b23.mono (Nat.le_trans b21.size b22.size))).trans (b24.mono (Nat.le_trans (Nat.le_trans b21.size b22.size) b23.size)); have T3Y := (b2z.block _ (row_lt T3X)).trans T3X; have T0Y := (b2z.block _ (row_lt T0X)).trans T0X; have R3Y : RdO w24 h a3 c3 := RdL.below R3X b2z)
        | ((with_reducible show wpList _ _ _ (Oper.mk _ (Op.load 24 (Operand.tmp 11)) _ _ _ _ :: _) _ _); refine wpList_load24g (by rfl) rfl q3 (h.on a3 c3) rfl T3Y ?_)
        | ((with_reducible show wpList _ _ _ (Oper.mk _ (Op.load 24 (Operand.tmp 7)) _ _ _ _ :: _) _ _); refine wpList_load24g (by rfl) rfl w.heap.size (h.on a c1) rfl T0Y ?_)
        | (go_at_call 20; refine (sone_any h h a3 a c3 c1 _ R3Y (RdL.below R B24)).mono ?_; rintro e w25 ⟨rfl, b25⟩; rw [eq1_self]; have B25 := B24.trans (b25.mono B24.size))
        | (go_at_call 15; refine (awake_any _).mono ?_; rintro e w26 ⟨rfl, b26⟩; have B26 := B25.trans (b26.mono B25.size)))
      go_ret
      exact ⟨rfl, BW.trans (B26.mono BW.size)⟩
end Go.Proofs.Ytacefkchhcpgaaa

namespace Go.Proofs.Ytacefkchhcpgaaa
open Go.ChangeShapes Go.WideShapes Go.ChangeAt Go.RowKit Go.Deep
set_option linter.unusedVariables false
set_option linter.unusedSimpArgs false
theorem cn44 : Try.prog.cellsOf 44 = 4 := by kernel_rfl
theorem cn24 : Try.prog.cellsOf 24 = 6 := by kernel_rfl
theorem cn22 : Try.prog.cellsOf 22 = 1 := by kernel_rfl
theorem cn9 : Try.prog.cellsOf 9 = 1 := by kernel_rfl
theorem cn4 : Try.prog.cellsOf 4 = 1 := by kernel_rfl
theorem by44 : Try.prog.bytesOf 44 = 40 := by kernel_rfl
theorem by24 : Try.prog.bytesOf 24 = 64 := by kernel_rfl
theorem range_csL {W : World} {b off : Nat} {l : List LS} (h : ∀ j, j < l.length → W.rangeAt b (off + j * 4) (l.getD j LS.z).cells) : W.rangeAt b off (csL l) := by
  intro q v hv
  have hq := (List.getElem?_eq_some_iff.1 hv).1
  rw [csL_len] at hq
  have e := csL_get l (q / 4) (q % 4) _ (get_zL l (q / 4) (by omega)) (by omega)
  rw [show 4 * (q / 4) + q % 4 = q by omega, hv] at e
  have := h (q / 4) (by omega) (q % 4) v e.symm
  rw [show off + q / 4 * 4 + q % 4 = off + q by omega] at this
  exact this
theorem open_lnc {H : Type} {enc : TypeId × Value → H} {W : World} {fuel : Nat} {cs : List Value} {x : DataW H × List MemPlace} (hl : cs.length = 4)
    (hf : DataW.trod enc Try.prog W 0 (fun _ => true) true fuel 44 cs = some x) : ∃ q : LS, cs = q.cells := by
  match cs, hl with
  | [v0, v1, v2, v3], _ =>
  obtain ⟨xs, k, hk, hxy, _, hxl, hg⟩ := DataW.trod_struct Try.underlying44 hf
  match xs, hxl with
  | [y0, y1], _ =>
  have e0 := hg 0 _ rfl
  have e1 := hg 1 _ rfl
  simp [cn9, cn42] at e0 e1
  obtain ⟨x0, q0, _, w0⟩ := DataW.trod_string Try.underlying9 e0
  simp at q0
  subst q0
  obtain ⟨⟨v, p, f⟩, hr⟩ := open_regc (by rfl) e1
  simp at hr
  obtain ⟨rfl, rfl, rfl⟩ := hr
  exact ⟨⟨x0, v, p, f⟩, rfl⟩
theorem open_lns {H : Type} {enc : TypeId × Value → H} {W : World} {fuel : Nat} {v : Value} {d : DataW H} {ps : List MemPlace}
    (hf : DataW.trod enc Try.prog W 0 (fun _ => true) true fuel 22 [v] = some (d, ps)) (hB : ∀ k ∈ d.weights Try.prog 22, k ≤ reachBytes) :
    ∃ a cap, ∃ l : List LS, v = .slice a l.length cap ∧ RdL W a l.length cap l := by
  rcases open_slice Try.underlying22 hf with ⟨hcs, hx⟩ | ⟨x, len, c, m, n, D, Pl, hcs, _, hl, hm, hmm, hx, hel⟩
  · simp [Value.cells] at hcs
    subst hcs
    exact ⟨none, 0, [], rfl, rdL_nil _⟩
  · simp [Value.cells] at hcs
    subst hcs
    have hmc : m = c := by simpa using hmm
    subst hmc
    simp only [Prod.mk.injEq] at hx
    obtain ⟨hd, _⟩ := hx
    rw [cn44] at hel
    have each : ∀ i, i < m → ∃ q : LS, (∀ j v, q.cells[j]? = some v → W.cell? ((x.add (i * 4)).add j) = some v) := by
      intro i hi
      obtain ⟨cs', h1, h2⟩ := hel i hi
      obtain ⟨_, hlen, hcell⟩ := World.cells?_some h1
      obtain ⟨q, hcs'⟩ := open_lnc hlen h2
      refine ⟨q, fun j v hj => ?_⟩
      have hjl : j < 4 := (List.getElem?_eq_some_iff.1 hj).1
      have hc := hcell j hjl
      rw [hcs'] at hc
      rw [hc]
      exact hj
    haveI : Inhabited LS := ⟨LS.z⟩
    obtain ⟨F, hF⟩ := choose_lt each
    have h0 := hB (m * 40) (by
      rw [hd]
      simp only [DataW.weights, Try.underlying22]
      refine List.mem_cons.2 (.inl ?_)
      rw [by44]
      simp only [List.length_map, List.length_range, List.length_take, List.length_drop]
      first | omega | (simp; omega))
    unfold reachBytes at h0
    have hlen : ((List.range len).map F).length = len := by simp
    refine ⟨some x, m, (List.range len).map F, by rw [hlen], ?_⟩
    rw [hlen]
    refine ⟨hlen, by omega, by omega, ?_⟩
    by_cases h0 : len = 0
    · exact .inr (.inl ⟨h0, x, rfl⟩)
    · obtain ⟨b, off, spot⟩ := x
      have hc := (hF 0 (by omega)) 0 _ rfl
      have hspot : spot = none := by simpa [Addr.add] using World.cell?_spot hc
      subst hspot
      refine .inr (.inr ⟨b, off, rfl, World.block_lt_of_cell? _ _ hc, range_csL fun j hj => ?_⟩)
      rw [hlen] at hj
      have hget : ((List.range len).map F).getD j LS.z = F j := by rw [List.getD_eq_getElem?_getD]; simp [hj]
      rw [hget]
      intro i v hv
      have := (hF j (by omega)) i v hv
      rw [add_plain', add_plain'] at this
      exact this
theorem open_halfc {H : Type} {enc : TypeId × Value → H} {W : World} {fuel : Nat} {cs : List Value} {x : DataW H × List MemPlace} (hl : cs.length = 6)
    (hf : DataW.trod enc Try.prog W 0 (fun _ => true) true fuel 24 cs = some x) (hB : ∀ k ∈ x.1.weights Try.prog 24, k ≤ reachBytes) : ∃ h a c, cs = (HS.on h a c).cells ∧ RdO W h a c := by
  match cs, hl with
  | [v0, v1, v2, v3, v4, v5], _ =>
  obtain ⟨xs, k, hk, hxy, _, hxl, hg⟩ := DataW.trod_struct Try.underlying24 hf
  match xs, hxl with
  | [y0, y1, y2, y3, y4, y5], _ =>
  have e0 := hg 0 _ rfl
  have e1 := hg 1 _ rfl
  have e2 := hg 2 _ rfl
  have e3 := hg 3 _ rfl
  have e4 := hg 4 _ rfl
  have e5 := hg 5 _ rfl
  simp [cn2, cn3, cn22, cn4] at e0 e1 e2 e3 e4 e5
  obtain ⟨x0, q0, _, w0⟩ := DataW.trod_int Try.underlying3 e0
  obtain ⟨x1, q1, _, w1⟩ := DataW.trod_int Try.underlying2 e1
  obtain ⟨x2, q2, _, w2⟩ := DataW.trod_int Try.underlying2 e2
  obtain ⟨x4, q4, _⟩ := DataW.trod_bool Try.underlying4 e4
  obtain ⟨x5, q5, _, w5⟩ := DataW.trod_int Try.underlying3 e5
  simp at q0 q1 q2 q4 q5
  subst q0 q1 q2 q4 q5
  subst hxy
  obtain ⟨a, cap, l, rfl, R⟩ := open_lns (d := y3.1) (ps := y3.2) e3 (fun n hn => hB n (by
    simp only [DataW.weights, Try.underlying24]
    exact DataW.weights_mem_each (j := 3) (t := 22) rfl rfl n hn))
  exact ⟨⟨x0, x1, x2, l, x4, x5⟩, a, cap, rfl, R⟩
set_option maxRecDepth 100000 in
theorem open_half {H : Type} {enc : TypeId × Value → H} {W : World} {r : Reach} {b : Nat} {v : Value} {d : DataW H} {ps : List MemPlace} (hv : Value.okWide Try.prog W r b 24 v) (h : DataW.Trod enc Try.prog W 0 (fun _ => true) true 24 v d ps) (hB : ∀ k ∈ d.weights Try.prog 24, k ≤ reachBytes) :
    ∃ h a c, v = (HS.on h a c).val ∧ RdO W h a c := by
  simp only [Value.okWide, Try.underlying24] at hv
  obtain ⟨cs, rfl, hsz, _⟩ := hv
  rw [cn24] at hsz
  obtain ⟨fuel, hf⟩ := h
  obtain ⟨h, a, c, hcs, R⟩ := open_halfc (x := (d, ps)) (by simpa [Value.cells] using hsz) hf hB
  refine ⟨h, a, c, ?_, R⟩
  have : cs = (cs.toList).toArray := by simp
  rw [this, show cs.toList = _ from hcs]
  rfl
end Go.Proofs.Ytacefkchhcpgaaa

namespace Go.Proofs.Ytacefkchhcpgaaa
open Go.ChangeShapes Go.WideShapes Go.ChangeAt Go.RowKit Go.Deep
set_option linter.unusedVariables false
set_option linter.unusedSimpArgs false
theorem range_csH {W : World} {b off : Nat} {l : List HR} (h : ∀ j, j < l.length → W.rangeAt b (off + j * 6) (l.getD j HR.z).cells) : W.rangeAt b off (csH l) := by
  intro q v hv
  have hq := (List.getElem?_eq_some_iff.1 hv).1
  rw [csH_len] at hq
  have e := csH_get l (q / 6) (q % 6) _ (get_zH l (q / 6) (by omega)) (by omega)
  rw [show 6 * (q / 6) + q % 6 = q by omega, hv] at e
  have := h (q / 6) (by omega) (q % 6) v e.symm
  rw [show off + q / 6 * 6 + q % 6 = off + q by omega] at this
  exact this
theorem weights_in {H : Type} {P : Program} {e : TypeId} : ∀ {l : List (DataW H)} {d : DataW H}, d ∈ l → ∀ n ∈ d.weights P e, n ∈ DataW.weightsAll P e l
  | d' :: r, d, hd, n, hn => by
    simp only [DataW.weightsAll, List.mem_append]
    rcases List.mem_cons.1 hd with rfl | h
    · exact Or.inl hn
    · exact Or.inr (weights_in h n hn)
theorem open_hlvs {H : Type} {enc : TypeId × Value → H} {W : World} {fuel : Nat} {v : Value} {d : DataW H} {ps : List MemPlace}
    (hf : DataW.trod enc Try.prog W 0 (fun _ => true) true fuel 25 [v] = some (d, ps)) (hB : ∀ k ∈ d.weights Try.prog 25, k ≤ reachBytes) :
    ∃ a cap, ∃ l : List HS, v = .slice a l.length cap ∧ Hs W a l.length cap l := by
  rcases open_slice Try.underlying25 hf with ⟨hcs, hx⟩ | ⟨x, len, c, m, n, D, Pl, hcs, _, hl, hm, hmm, hx, hel⟩
  · simp [Value.cells] at hcs
    subst hcs
    exact ⟨none, 0, [], rfl, rfl, [], rdH_nil _, fun i hi => by cases hi⟩
  · simp [Value.cells] at hcs
    subst hcs
    have hmc : m = c := by simpa using hmm
    subst hmc
    simp only [Prod.mk.injEq] at hx
    obtain ⟨hd, _⟩ := hx
    rw [cn24] at hel
    have each : ∀ i, i < len → ∃ q : HS × Option Addr × Nat, (∀ j v, (q.1.on q.2.1 q.2.2).cells[j]? = some v → W.cell? ((x.add (i * 6)).add j) = some v) ∧ RdO W q.1 q.2.1 q.2.2 := by
      intro i hi
      obtain ⟨cs', h1, h2⟩ := hel i (by omega)
      obtain ⟨_, hlen, hcell⟩ := World.cells?_some h1
      obtain ⟨h, a, k, hcs', R⟩ := open_halfc hlen h2 (fun k hk => hB k (by
        rw [hd]
        simp only [DataW.weights, Try.underlying25]
        refine List.mem_cons.2 (.inr (List.mem_append.2 (.inl ?_)))
        exact weights_in (List.mem_map.2 ⟨i, List.mem_range.2 hi, rfl⟩) k hk))
      refine ⟨(h, a, k), fun j v hj => ?_, R⟩
      have hjl : j < 6 := (List.getElem?_eq_some_iff.1 hj).1
      have hc := hcell j hjl
      rw [hcs'] at hc
      rw [hc]
      exact hj
    haveI : Inhabited (HS × Option Addr × Nat) := ⟨(HS.z, none, 0)⟩
    obtain ⟨F, hF⟩ := choose_lt each
    have h0 := hB (m * 64) (by
      rw [hd]
      simp only [DataW.weights, Try.underlying25]
      refine List.mem_cons.2 (.inl ?_)
      rw [by24]
      simp only [List.length_map, List.length_range, List.length_take, List.length_drop]
      first | omega | (simp; omega))
    unfold reachBytes at h0
    have hlen : ((List.range len).map (fun i => (F i).1)).length = len := by simp
    have hlen2 : ((List.range len).map (fun i => (F i).1.on (F i).2.1 (F i).2.2)).length = len := by simp
    have hg1 : ∀ j, j < len → ((List.range len).map (fun i => (F i).1)).getD j HS.z = (F j).1 := fun j hj => by rw [List.getD_eq_getElem?_getD]; simp [hj]
    have hg2 : ∀ j, j < len → ((List.range len).map (fun i => (F i).1.on (F i).2.1 (F i).2.2)).getD j HR.z = (F j).1.on (F j).2.1 (F j).2.2 := fun j hj => by rw [List.getD_eq_getElem?_getD]; simp [hj]
    refine ⟨some x, m, (List.range len).map (fun i => (F i).1), by rw [hlen], ?_⟩
    rw [hlen]
    refine ⟨hlen, (List.range len).map (fun i => (F i).1.on (F i).2.1 (F i).2.2), ⟨hlen2, by omega, by omega, ?_⟩, fun i hi => ⟨(F i).2.1, (F i).2.2, ?_⟩⟩
    · by_cases h0 : len = 0
      · exact .inr (.inl ⟨h0, x, rfl⟩)
      · obtain ⟨b, off, spot⟩ := x
        have hc := (hF 0 (by omega)).1 0 _ rfl
        have hspot : spot = none := by simpa [Addr.add] using World.cell?_spot hc
        subst hspot
        refine .inr (.inr ⟨b, off, rfl, World.block_lt_of_cell? _ _ hc, range_csH fun j hj => ?_⟩)
        rw [hlen2] at hj
        rw [hg2 j hj]
        intro i v hv
        have := (hF j hj).1 i v hv
        rw [add_plain', add_plain'] at this
        exact this
    · rw [hg1 i hi, hg2 i hi]
      exact ⟨rfl, (hF i hi).2⟩
theorem open_halves {H : Type} {enc : TypeId × Value → H} {W : World} {a : Option Addr} {len cap : Nat} {d : DataW H} {ps : List MemPlace} (h : DataW.Trod enc Try.prog W 0 (fun _ => true) true 25 (.slice a len cap) d ps) (hB : ∀ k ∈ d.weights Try.prog 25, k ≤ reachBytes) :
    ∃ l : List HS, l.length = len ∧ Hs W a l.length cap l := by
  obtain ⟨fuel, hf⟩ := h
  obtain ⟨a', cap', l, e, R⟩ := open_hlvs hf hB
  cases e
  exact ⟨l, rfl, R⟩
end Go.Proofs.Ytacefkchhcpgaaa

namespace Go.Proofs.Ytacefkchhcpgaaa.halfWrites
open Go.ChangeShapes Go.WideShapes Go.ChangeAt Go.RowKit Go.Deep
open Go.ChangeMaps (open_string shut_string)
set_option linter.unusedVariables false
set_option linter.unusedSimpArgs false

theorem own : ownKnob Try.prog.godebug = none := by kernel_rfl
theorem laidOut : laidOutB Try.prog = true := by kernel_rfl
theorem sized_arg {H : Type} {ts : List TypeId} {ds : List (DataW H)} (h : (DataW.weightsEach Try.prog ts ds).all (· ≤ reachBytes) = true) {j : Nat} {t : TypeId} {d : DataW H} (ht : ts[j]? = some t) (hd : ds[j]? = some d) : ∀ k ∈ d.weights Try.prog t, k ≤ reachBytes := by
  intro k hk
  have := List.all_eq_true.1 h _ (DataW.weights_mem_each ht hd k hk)
  simpa using this

theorem walk (id : Int) (h : HS) (a : Option Addr) (c1 : Nat) (A : Option Addr) (c : Nat) (hs : List HS) (name : ByteArray) (v p f : Int) (w : World) (R : RdO w h a c1) (P : Hs w A hs.length c hs) : Calls Try.prog 5 #[.int .i64 id, .slice A hs.length c, (h.on a c1).val, .string name, rg v p f] w fun e w' => e = .returned (.bool true) ∧ Below w.heap.size w w' := by
  cases hf : fitsB id hs with
  | false => exact writes_unfit id h a c1 A c hs name v p f w R P (.inl hf)
  | true =>
    cases hx : h.fit id with
    | false => exact writes_unfit id h a c1 A c hs name v p f w R P (.inr (.inl hx))
    | true =>
      cases hn : nameB name with
      | false => exact writes_unfit id h a c1 A c hs name v p f w R P (.inr (.inr hn))
      | true => exact writes_fit id h a c1 A c hs name v p f w R P hf hx hn
set_option maxRecDepth 100000 in
theorem lifted (os : Os) (started : os.Started) (H : Type) (enc : TypeId × Value → H) :
    ReturnsInHanded {} Try.checked os 5 .any (Rows.halfWritesSpec.pre6 enc Try.prog Try.f5 Rows.halfWritesRow.domain false) (Rows.halfWritesSpec.post enc Try.prog Try.f5 false true false false) := by
  refine returnsInHanded_of_change_sized (C := Try.checked) own started (by kernel_rfl) Try.func5
    (ChangeSpec.witness6 (enc := enc) (C := Try.checked) false ⟨#[], #[.int .i64 0, .slice none 0 0, .agg #[.int .i64 0, .int .i64 0, .int .i64 0, .slice none 0 0, .bool false, .int .i64 0], .string ⟨#[]⟩, .agg #[.int .i64 0, .int .i64 0, .int .i64 0]], []⟩ 8 (by kernel_rfl) (by kernel_rfl) (by kernel_rfl) (by kernel_rfl)) ?_
  intro W base args ds gs before hval0 hW hcnd hsz0 _
  have hsz : (DataW.weightsEach Try.prog (Try.f5.params.toList ++ Rows.halfWritesSpec.plain.varTypes Try.prog) (ds ++ gs)).all (· ≤ reachBytes) = true := hsz0
  clear hsz0
  have hval : ∀ (j : Nat) t v, Try.f5.params[j]? = some t → args[j]? = some v → Value.okWide Try.prog W .any base t v := hval0
  have hW' := hW
  obtain ⟨p, q, hA0, hV, rfl, hfz, hnd⟩ := hW
  have hA : DataW.TrodAll enc Try.prog W 0 (fun _ => true) true Try.f5.params.toList args.toList ds p := hA0
  rw [Try.params5] at hA hval hsz
  obtain ⟨v0, vs0, d0, ds0, p0, q0, hargs, rfl, rfl, h0, r0⟩ := trodAll_cons hA
  obtain ⟨v1, vs1, d1, ds1, p1, q1, rfl, rfl, rfl, h1, r1⟩ := trodAll_cons r0
  obtain ⟨v2, vs2, d2, ds2, p2, q2, rfl, rfl, rfl, h2, r2⟩ := trodAll_cons r1
  obtain ⟨v3, vs3, d3, ds3, p3, q3, rfl, rfl, rfl, h3, r3⟩ := trodAll_cons r2
  obtain ⟨v4, vs4, d4, ds4, p4, q4, rfl, rfl, rfl, h4, r4⟩ := trodAll_cons r3
  obtain ⟨rfl, rfl, rfl⟩ := trodAll_nil r4
  obtain rfl : args = #[v0, v1, v2, v3, v4] := by cases args; simp_all
  obtain ⟨rfl, rfl⟩ := trodVars_none hV
  obtain ⟨a0, rfl, rfl, rfl, w0⟩ := open_int Try.underlying3 (hval 0 3 v0 rfl rfl) h0
  have k1 := h1
  have lt1 : ∀ x ∈ p1, x.block < W.heap.size := by obtain ⟨m, hm⟩ := k1; exact DataW.trod_lt m _ _ _ hm
  obtain ⟨a2, len2, cap2, rfl⟩ := okWide_slice Try.underlying25 (hval 1 25 v1 rfl rfl)
  obtain ⟨l2, rfl, O2⟩ := open_halves k1 (sized_arg hsz (j := 1) (t := 25) rfl rfl)
  have k2 := h2
  have lt2 : ∀ x ∈ p2, x.block < W.heap.size := by obtain ⟨m, hm⟩ := k2; exact DataW.trod_lt m _ _ _ hm
  obtain ⟨hh, ha, hc, rfl, R1⟩ := open_half (hval 2 24 v2 rfl rfl) k2 (sized_arg hsz (j := 2) (t := 24) rfl rfl)
  obtain ⟨nm, rfl, rfl, rfl, w3⟩ := open_string Try.underlying9 (hval 3 9 v3 rfl rfl) h3
  have k4 := h4
  have lt4 : ∀ x ∈ p4, x.block < W.heap.size := by obtain ⟨m, hm⟩ := k4; exact DataW.trod_lt m _ _ _ hm
  obtain ⟨⟨rv, rp, rf⟩, rfl⟩ := open_reg (hval 4 42 v4 rfl rfl) k4
  clear hA0 hval0
  refine (walk a0 hh ha hc a2 cap2 l2 nm rv rp rf W R1 O2).mono fun e W' ⟨he, bel⟩ => ?_
  subst he
  exact ⟨_, rfl, _, _, _, [], _, [], hW', trodAll_mk1 (shut_bool Try.underlying4 _), (trodAll_cons_mk (shut_int Try.underlying3 w0) (trodAll_cons_mk (Below.trod laidOut (by kernel_rfl) (of_decide_eq_true (by kernel_rfl)) k1 bel lt1) (trodAll_cons_mk (Below.trod laidOut (by kernel_rfl) (of_decide_eq_true (by kernel_rfl)) k2 bel lt2) (trodAll_cons_mk (shut_string Try.underlying9 w3) (trodAll_cons_mk (Below.trod laidOut (by kernel_rfl) (of_decide_eq_true (by kernel_rfl)) k4 bel lt4) trodAll_mk0))))), rfl, bel.frame _, fun h => by cases h⟩

theorem over : Rows.halfWritesRow.holds Try.pinned (OpenSpec.ofChange Rows.halfWritesSpec) :=
  OpenClaim.holds_of_wide 5 Try.f5 rfl rfl rfl rfl rfl rfl rfl ⟨rfl, rfl, rfl, rfl, rfl⟩ rfl rfl rfl rfl rfl (by kernel_rfl) Try.func5 (by kernel_rfl)
    (of_decide_eq_true (by kernel_rfl)) (by unfold Func.isWrapper; first | (rw [if_pos (by decide +kernel)]; kernel_rfl) | (rw [if_neg (by decide +kernel)]; exact ⟨rfl, rfl⟩))
    (fun os started H enc _ => lifted os started H enc)

/-- The statement. -/
theorem proved : Rows.HalfWritesSaid := over
#print axioms proved
end Go.Proofs.Ytacefkchhcpgaaa.halfWrites
