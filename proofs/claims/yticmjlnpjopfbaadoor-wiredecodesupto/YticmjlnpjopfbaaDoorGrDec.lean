/-
  Decode answers as the document says, whatever the bytes, and the bytes of any packet, sealed, and with one of them turned (P5.3): the law WireDecodes returns true for every input of bulk at most 1048576.
-/
import Derived.Test.YticmjlnpjopfbaaDoorSRow
import Derived.ProofKit
import Derived.OpenShut
import Derived.Test.YticmjlnpjopfbaaDoorRows
import Derived.Test.YticmjlnpjopfbaaDoorLoad
import Derived.ChangeSame
import Derived.Test.YticmjlnpjopfbaaDoorRowI
import Derived.Test.YticmjlnpjopfbaaDoorGrDa
import Derived.Deep.Slices
import Derived.SizedLaws
import Derived.Deep.DeepHandedRow
import Derived.Test.YticmjlnpjopfbaaDoorCards
import Derived.Test.YticmjlnpjopfbaaDoorTie
import Derived.WalkKit
import Derived.ChangeOld
import Derived.Below
import Derived.Lib.LaidTab
namespace Go.Proofs.YticmjlnpjopfbaaDoor
open Go.ChangeShapes Go.WideShapes Go.ChangeAt Go.RowKit
open S (Row)
set_option linter.unusedVariables false
theorem cells5 : Tryd.prog.cellsOf 5 = 1 := by kernel_rfl
theorem row_mk {kd : IntKind} {w : World} {x : Addr} {len cap : Nat} {zs : List Int} (hl : len ≤ cap) (hz : zs.length = cap)
    (hcell : ∀ i, i < zs.length → w.cell? (x.add i) = some (.int kd (zs.getD i 0))) (hwz : ∀ n ∈ zs, (Lit.int kd n).wf = true) : Row kd w (some x) len cap (zs.take len) where
  size := by simp; omega
  le := hl
  nil := fun h => by cases h
  wf := fun n hn => hwz n (List.mem_of_mem_take hn)
  mem := by
    by_cases h0 : len = 0
    · exact .inl h0
    · obtain ⟨b, off, spot⟩ := x
      have hc := hcell 0 (by omega)
      have hspot : spot = none := by simpa [Addr.add] using World.cell?_spot hc
      subst hspot
      refine .inr ⟨b, off, rfl, World.block_lt_of_cell? _ _ hc, fun k hk => ?_⟩
      have hc2 := hcell k (by omega)
      have hplain : (⟨b, off, none⟩ : Addr).add k = ⟨b, off + k, none⟩ := by unfold Addr.add; split <;> simp_all
      rw [← hplain, hc2, List.getD_eq_getElem?_getD, List.getD_eq_getElem?_getD, List.getElem?_take, if_pos hk]

end Go.Proofs.YticmjlnpjopfbaaDoor

namespace Go.Proofs.YticmjlnpjopfbaaDoor
open Go.ChangeShapes Go.WideShapes Go.ChangeAt Go.RowKit
set_option linter.unusedVariables false

theorem cell_int {P : Program} {w : World} {r : Reach} {b t : Nat} {k : IntKind} {v : Value} (ht : P.underlying t = some (.int k)) (h : Cell.okWide P w r b t v) : ∃ n, v = .int k n ∧ k.has n := by
  simp only [Cell.okWide, Cell.ok, ht] at h
  cases v <;> simp_all
theorem cell_bool {P : Program} {w : World} {r : Reach} {b t : Nat} {v : Value} (ht : P.underlying t = some .bool) (h : Cell.okWide P w r b t v) : ∃ n, v = .bool n := by
  simp only [Cell.okWide, Cell.ok, ht] at h
  cases v <;> simp_all
theorem cell_string {P : Program} {w : World} {r : Reach} {b t : Nat} {v : Value} (ht : P.underlying t = some .string) (h : Cell.okWide P w r b t v) : ∃ n, v = .string n ∧ (n.size : Int) ≤ IntKind.i64.max := by
  simp only [Cell.okWide, Cell.ok, ht] at h
  cases v <;> simp_all
theorem okWide_cell {P : Program} {w : World} {r : Reach} {b t : Nat} {v : Value} (h : Value.okWide P w r b t v) (ht : (match P.underlying t with | some (.struct _) => false | some (.array _ _) => false | _ => true) = true) : Cell.okWide P w r b t v := by
  unfold Value.okWide at h
  split at h <;> simp_all

/-- The numbers of an item are 64 bits wide. -/
structure itWf (x : Itm) : Prop where
  name : (x.name.size : Int) ≤ IntKind.i64.max
  epoch : IntKind.i64.has x.epoch
  maker : IntKind.i64.has x.maker
  kind : IntKind.i64.has x.kind
  scale : IntKind.i64.has x.scale
  ver : IntKind.i64.has x.ver
  writer : IntKind.i64.has x.writer
  flow : IntKind.i64.has x.flow
  rest : IntKind.i64.has x.rest
  mnv : IntKind.i64.has x.mn.value
  mno : IntKind.i64.has x.mn.origin
  mna : IntKind.i64.has x.mn.age
  mxv : IntKind.i64.has x.mx.value
  mxo : IntKind.i64.has x.mx.origin
  mxa : IntKind.i64.has x.mx.age
theorem cells38 : Tryd.prog.cellsOf 38 = 19 := by kernel_rfl
theorem types38 : Tryd.prog.cellTypes Tryd.prog.depth 38 = some [9, 2, 3, 4, 3, 2, 2, 3, 2, 4, 2, 4, 2, 3, 2, 4, 2, 3, 2] := by kernel_rfl
set_option maxRecDepth 100000 in
theorem open_item {w : World} {r : Reach} {b : Nat} {v : Value} (h : Value.okWide Tryd.prog w r b 38 v) : ∃ x : Itm, v = itv x ∧ itWf x := by
  simp only [Value.okWide, Tryd.underlying38] at h
  obtain ⟨cs, rfl, hsz, ts, hts, _, hc⟩ := h
  rw [cells38] at hsz
  rw [types38] at hts
  cases hts
  have key : ∀ (i : Nat) (t : Nat), i < 19 → [9, 2, 3, 4, 3, 2, 2, 3, 2, 4, 2, 4, 2, 3, 2, 4, 2, 3, 2][i]? = some t → ∃ v, cs[i]? = some v ∧ Cell.okWide Tryd.prog w r b t v := by
    intro i t hi ht
    have hlt : i < cs.size := by rw [hsz]; exact hi
    obtain ⟨u, hu, hk⟩ := hc i (cs[i]'hlt) (Array.getElem?_eq_getElem hlt)
    rw [show ([9, 2, 3, 4, 3, 2, 2, 3, 2, 4, 2, 4, 2, 3, 2, 4, 2, 3, 2] : List Nat).length = 19 from rfl, Nat.mod_eq_of_lt hi, ht] at hu
    cases hu
    exact ⟨_, Array.getElem?_eq_getElem hlt, hk⟩
  obtain ⟨v0, c0, k0⟩ := key 0 9 (by omega) rfl
  obtain ⟨v1, c1, k1⟩ := key 1 2 (by omega) rfl
  obtain ⟨v2, c2, k2⟩ := key 2 3 (by omega) rfl
  obtain ⟨v3, c3, k3⟩ := key 3 4 (by omega) rfl
  obtain ⟨v4, c4, k4⟩ := key 4 3 (by omega) rfl
  obtain ⟨v5, c5, k5⟩ := key 5 2 (by omega) rfl
  obtain ⟨v6, c6, k6⟩ := key 6 2 (by omega) rfl
  obtain ⟨v7, c7, k7⟩ := key 7 3 (by omega) rfl
  obtain ⟨v8, c8, k8⟩ := key 8 2 (by omega) rfl
  obtain ⟨v9, c9, k9⟩ := key 9 4 (by omega) rfl
  obtain ⟨v10, c10, k10⟩ := key 10 2 (by omega) rfl
  obtain ⟨v11, c11, k11⟩ := key 11 4 (by omega) rfl
  obtain ⟨v12, c12, k12⟩ := key 12 2 (by omega) rfl
  obtain ⟨v13, c13, k13⟩ := key 13 3 (by omega) rfl
  obtain ⟨v14, c14, k14⟩ := key 14 2 (by omega) rfl
  obtain ⟨v15, c15, k15⟩ := key 15 4 (by omega) rfl
  obtain ⟨v16, c16, k16⟩ := key 16 2 (by omega) rfl
  obtain ⟨v17, c17, k17⟩ := key 17 3 (by omega) rfl
  obtain ⟨v18, c18, k18⟩ := key 18 2 (by omega) rfl
  obtain ⟨x0, rfl, h0⟩ := cell_string Tryd.underlying9 k0
  obtain ⟨x1, rfl, h1⟩ := cell_int Tryd.underlying2 k1
  obtain ⟨x2, rfl, h2⟩ := cell_int Tryd.underlying3 k2
  obtain ⟨x3, rfl⟩ := cell_bool Tryd.underlying4 k3
  obtain ⟨x4, rfl, h4⟩ := cell_int Tryd.underlying3 k4
  obtain ⟨x5, rfl, h5⟩ := cell_int Tryd.underlying2 k5
  obtain ⟨x6, rfl, h6⟩ := cell_int Tryd.underlying2 k6
  obtain ⟨x7, rfl, h7⟩ := cell_int Tryd.underlying3 k7
  obtain ⟨x8, rfl, h8⟩ := cell_int Tryd.underlying2 k8
  obtain ⟨x9, rfl⟩ := cell_bool Tryd.underlying4 k9
  obtain ⟨x10, rfl, h10⟩ := cell_int Tryd.underlying2 k10
  obtain ⟨x11, rfl⟩ := cell_bool Tryd.underlying4 k11
  obtain ⟨x12, rfl, h12⟩ := cell_int Tryd.underlying2 k12
  obtain ⟨x13, rfl, h13⟩ := cell_int Tryd.underlying3 k13
  obtain ⟨x14, rfl, h14⟩ := cell_int Tryd.underlying2 k14
  obtain ⟨x15, rfl⟩ := cell_bool Tryd.underlying4 k15
  obtain ⟨x16, rfl, h16⟩ := cell_int Tryd.underlying2 k16
  obtain ⟨x17, rfl, h17⟩ := cell_int Tryd.underlying3 k17
  obtain ⟨x18, rfl, h18⟩ := cell_int Tryd.underlying2 k18
  refine ⟨⟨x0, x1, x2, x3, x4, x5, x6, x7, x8, x9, x10, ⟨x11, x12, x13, x14⟩, ⟨x15, x16, x17, x18⟩⟩, ?_, ⟨h0, h1, h2, h4, h5, h6, h7, h8, h10, h12, h13, h14, h16, h17, h18⟩⟩
  have e : cs = (itc ⟨x0, x1, x2, x3, x4, x5, x6, x7, x8, x9, x10, ⟨x11, x12, x13, x14⟩, ⟨x15, x16, x17, x18⟩⟩).toArray := by
    apply Array.ext_getElem?
    intro i
    by_cases hi : i < 19
    · match i, hi with
      | 0, _ => exact c0
      | 1, _ => exact c1
      | 2, _ => exact c2
      | 3, _ => exact c3
      | 4, _ => exact c4
      | 5, _ => exact c5
      | 6, _ => exact c6
      | 7, _ => exact c7
      | 8, _ => exact c8
      | 9, _ => exact c9
      | 10, _ => exact c10
      | 11, _ => exact c11
      | 12, _ => exact c12
      | 13, _ => exact c13
      | 14, _ => exact c14
      | 15, _ => exact c15
      | 16, _ => exact c16
      | 17, _ => exact c17
      | 18, _ => exact c18
      | n + 19, h => exact absurd h (by omega)
    · rw [Array.getElem?_eq_none (by omega), Array.getElem?_eq_none (by simp [itc]; omega)]
  rw [e]
  rfl

end Go.Proofs.YticmjlnpjopfbaaDoor

namespace Go.Proofs.YticmjlnpjopfbaaDoor
open Go.ChangeShapes Go.WideShapes Go.ChangeAt Go.RowKit Go.Deep
set_option linter.unusedVariables false
set_option linter.unusedSimpArgs false
set_option maxRecDepth 100000

theorem cn2 : Tryd.prog.cellsOf 2 = 1 := by kernel_rfl
theorem cn3 : Tryd.prog.cellsOf 3 = 1 := by kernel_rfl
theorem cn4 : Tryd.prog.cellsOf 4 = 1 := by kernel_rfl
theorem cn9 : Tryd.prog.cellsOf 9 = 1 := by kernel_rfl
theorem cn32 : Tryd.prog.cellsOf 32 = 6 := by kernel_rfl
theorem cn34 : Tryd.prog.cellsOf 34 = 3 := by kernel_rfl
theorem cn36 : Tryd.prog.cellsOf 36 = 4 := by kernel_rfl
theorem cn38 : Tryd.prog.cellsOf 38 = 19 := by kernel_rfl
theorem wf_bd {n : Int} (h : (Lit.int .i64 n).wf = true) : -9223372036854775808 ≤ n ∧ n ≤ 9223372036854775807 := by
  have h2 : IntKind.i64.max = 9223372036854775807 := rfl
  have h3 : IntKind.i64.min = -9223372036854775808 := rfl
  simp only [Lit.wf, Bool.and_eq_true, decide_eq_true_eq, h2, h3] at h
  exact h

section
variable {H : Type} {enc : TypeId × Value → H} {W : World} {base n : Nat} {sp : Nat → Bool} {held : Bool} {x : DataW H × List MemPlace}
theorem open_chan {v0 v1 v2 v3 v4 v5 : Value} (h : DataW.trod enc Tryd.prog W base sp held n 32 [v0, v1, v2, v3, v4, v5] = some x) :
    ∃ (x0 : ByteArray) (x1 : Int) (x2 : Int) (x3 : Bool) (x4 : Int) (x5 : Int), (v0 = .string x0 ∧ v1 = .int .i64 x1 ∧ v2 = .int .i64 x2 ∧ v3 = .bool x3 ∧ v4 = .int .i64 x4 ∧ v5 = .int .i64 x5) ∧ ((-9223372036854775808 ≤ x1 ∧ x1 ≤ 9223372036854775807) ∧ (-9223372036854775808 ≤ x2 ∧ x2 ≤ 9223372036854775807) ∧ (-9223372036854775808 ≤ x4 ∧ x4 ≤ 9223372036854775807) ∧ (-9223372036854775808 ≤ x5 ∧ x5 ≤ 9223372036854775807)) := by
  obtain ⟨xs, k, hk, hxy, _, hxl, hf⟩ := DataW.trod_struct Tryd.underlying32 h
  match xs, hxl with
  | [y0, y1, y2, y3, y4, y5], _ =>
  have e0 := hf 0 _ rfl
  have e1 := hf 1 _ rfl
  have e2 := hf 2 _ rfl
  have e3 := hf 3 _ rfl
  have e4 := hf 4 _ rfl
  have e5 := hf 5 _ rfl
  simp [cn9] at e0
  simp [cn2] at e1
  simp [cn3] at e2
  simp [cn4] at e3
  simp [cn3] at e4
  simp [cn2] at e5
  obtain ⟨x0, q0, _, w0⟩ := DataW.trod_string Tryd.underlying9 e0
  obtain ⟨x1, q1, _, w1⟩ := DataW.trod_int Tryd.underlying2 e1
  obtain ⟨x2, q2, _, w2⟩ := DataW.trod_int Tryd.underlying3 e2
  obtain ⟨x3, q3, _⟩ := DataW.trod_bool Tryd.underlying4 e3
  obtain ⟨x4, q4, _, w4⟩ := DataW.trod_int Tryd.underlying3 e4
  obtain ⟨x5, q5, _, w5⟩ := DataW.trod_int Tryd.underlying2 e5
  simp at q0 q1 q2 q3 q4 q5
  exact ⟨x0, x1, x2, x3, x4, x5, ⟨q0, q1, q2, q3, q4, q5⟩, wf_bd w1, wf_bd w2, wf_bd w4, wf_bd w5⟩
theorem open_reg {v0 v1 v2 : Value} (h : DataW.trod enc Tryd.prog W base sp held n 34 [v0, v1, v2] = some x) :
    ∃ (x0 : Int) (x1 : Int) (x2 : Int), (v0 = .int .i64 x0 ∧ v1 = .int .i64 x1 ∧ v2 = .int .i64 x2) ∧ ((-9223372036854775808 ≤ x0 ∧ x0 ≤ 9223372036854775807) ∧ (-9223372036854775808 ≤ x1 ∧ x1 ≤ 9223372036854775807) ∧ (-9223372036854775808 ≤ x2 ∧ x2 ≤ 9223372036854775807)) := by
  obtain ⟨xs, k, hk, hxy, _, hxl, hf⟩ := DataW.trod_struct Tryd.underlying34 h
  match xs, hxl with
  | [y0, y1, y2], _ =>
  have e0 := hf 0 _ rfl
  have e1 := hf 1 _ rfl
  have e2 := hf 2 _ rfl
  simp [cn2] at e0
  simp [cn3] at e1
  simp [cn2] at e2
  obtain ⟨x0, q0, _, w0⟩ := DataW.trod_int Tryd.underlying2 e0
  obtain ⟨x1, q1, _, w1⟩ := DataW.trod_int Tryd.underlying3 e1
  obtain ⟨x2, q2, _, w2⟩ := DataW.trod_int Tryd.underlying2 e2
  simp at q0 q1 q2
  exact ⟨x0, x1, x2, ⟨q0, q1, q2⟩, wf_bd w0, wf_bd w1, wf_bd w2⟩
theorem open_ext {v0 v1 v2 v3 : Value} (h : DataW.trod enc Tryd.prog W base sp held n 36 [v0, v1, v2, v3] = some x) :
    ∃ (x0 : Bool) (x1 : Int) (x2 : Int) (x3 : Int), (v0 = .bool x0 ∧ v1 = .int .i64 x1 ∧ v2 = .int .i64 x2 ∧ v3 = .int .i64 x3) ∧ ((-9223372036854775808 ≤ x1 ∧ x1 ≤ 9223372036854775807) ∧ (-9223372036854775808 ≤ x2 ∧ x2 ≤ 9223372036854775807) ∧ (-9223372036854775808 ≤ x3 ∧ x3 ≤ 9223372036854775807)) := by
  obtain ⟨xs, k, hk, hxy, _, hxl, hf⟩ := DataW.trod_struct Tryd.underlying36 h
  match xs, hxl with
  | [y0, y1, y2, y3], _ =>
  have e0 := hf 0 _ rfl
  have e1 := hf 1 _ rfl
  have e2 := hf 2 _ rfl
  have e3 := hf 3 _ rfl
  simp [cn4] at e0
  simp [cn2] at e1
  simp [cn3] at e2
  simp [cn2] at e3
  obtain ⟨x0, q0, _⟩ := DataW.trod_bool Tryd.underlying4 e0
  obtain ⟨x1, q1, _, w1⟩ := DataW.trod_int Tryd.underlying2 e1
  obtain ⟨x2, q2, _, w2⟩ := DataW.trod_int Tryd.underlying3 e2
  obtain ⟨x3, q3, _, w3⟩ := DataW.trod_int Tryd.underlying2 e3
  simp at q0 q1 q2 q3
  exact ⟨x0, x1, x2, x3, ⟨q0, q1, q2, q3⟩, wf_bd w1, wf_bd w2, wf_bd w3⟩
structure itBd (x : Itm) : Prop where
  epoch : -9223372036854775808 ≤ x.epoch ∧ x.epoch ≤ 9223372036854775807
  rg : itRg x
theorem open_itm {v0 v1 v2 v3 v4 v5 v6 v7 v8 v9 v10 v11 v12 v13 v14 v15 v16 v17 v18 : Value} (h : DataW.trod enc Tryd.prog W base sp held n 38 [v0, v1, v2, v3, v4, v5, v6, v7, v8, v9, v10, v11, v12, v13, v14, v15, v16, v17, v18] = some x) : ∃ y : Itm, [v0, v1, v2, v3, v4, v5, v6, v7, v8, v9, v10, v11, v12, v13, v14, v15, v16, v17, v18] = itc y ∧ itRg y := by
  obtain ⟨xs, k, hk, hxy, _, hxl, hf⟩ := DataW.trod_struct Tryd.underlying38 h
  match xs, hxl with
  | [y0, y1, y2, y3, y4, y5], _ =>
  have e0 := hf 0 _ rfl
  have e1 := hf 1 _ rfl
  have e2 := hf 2 _ rfl
  have e3 := hf 3 _ rfl
  have e4 := hf 4 _ rfl
  have e5 := hf 5 _ rfl
  simp [cn32] at e0
  simp [cn34] at e1
  simp [cn4] at e2
  simp [cn2] at e3
  simp [cn36] at e4
  simp [cn36] at e5
  obtain ⟨c0, c1, c2, c3, c4, c5, ⟨rfl, rfl, rfl, rfl, rfl, rfl⟩, _⟩ := open_chan e0
  obtain ⟨r0, r1, r2, ⟨rfl, rfl, rfl⟩, _, _, hr2⟩ := open_reg e1
  obtain ⟨hr, q2, _⟩ := DataW.trod_bool Tryd.underlying4 e2
  obtain ⟨re, q3, _, w3⟩ := DataW.trod_int Tryd.underlying2 e3
  obtain ⟨m0, m1, m2, m3, ⟨rfl, rfl, rfl, rfl⟩, hm1, _⟩ := open_ext e4
  obtain ⟨k0, k1, k2, k3, ⟨rfl, rfl, rfl, rfl⟩, hk1, _⟩ := open_ext e5
  simp at q2 q3
  subst q2 q3
  exact ⟨⟨c0, c1, c2, c3, c4, c5, r0, r1, r2, hr, re, ⟨m0, m1, m2, m3⟩, ⟨k0, k1, k2, k3⟩⟩, rfl, ⟨hr2, wf_bd w3, hm1, hk1⟩⟩
theorem list19 {α : Type} {l : List α} (h : l.length = 19) : ∃ v0 v1 v2 v3 v4 v5 v6 v7 v8 v9 v10 v11 v12 v13 v14 v15 v16 v17 v18, l = [v0, v1, v2, v3, v4, v5, v6, v7, v8, v9, v10, v11, v12, v13, v14, v15, v16, v17, v18] := by
  match l, h with
  | [v0, v1, v2, v3, v4, v5, v6, v7, v8, v9, v10, v11, v12, v13, v14, v15, v16, v17, v18], _ => exact ⟨v0, v1, v2, v3, v4, v5, v6, v7, v8, v9, v10, v11, v12, v13, v14, v15, v16, v17, v18, rfl⟩
end

/-- The items of a packet that came in; sl: what the bound on all that came in says of them. -/
theorem open_its {H : Type} {enc : TypeId × Value → H} {W : World} {fuel : Nat} {v : Value} {x : DataW H × List MemPlace}
    (hf : DataW.trod enc Tryd.prog W 0 (fun _ => true) true fuel 22 [v] = some x) : ∃ (a : Option Addr) (len cap : Nat) (its : List Itm), v = .slice a len cap ∧ RowI W a len cap its ∧ (∀ y ∈ its, itRg y) ∧ (cap = 0 ∨ cap * 160 ∈ x.1.weights Tryd.prog 22) := by
  rcases open_slice Tryd.underlying22 hf with ⟨hcs, hx⟩ | ⟨ad, l, c, m, n, D, Pl, hcs, _, hl, hm, hmm, hx, hel⟩
  · simp at hcs
    subst hcs
    exact ⟨none, 0, 0, [], rfl, rowI_nil W, fun y hy => (by simp at hy), .inl rfl⟩
  · simp at hcs
    subst hcs
    have hmc : m = c := by simpa using hmm
    subst hmc
    rw [cn38] at hel
    have each : ∀ i, i < m → ∃ y : Itm, (∀ j v, (itc y)[j]? = some v → W.cell? ((ad.add (i * 19)).add j) = some v) ∧ itRg y := by
      intro i hi
      obtain ⟨cs', h1, h2⟩ := hel i hi
      obtain ⟨_, hlen, hcell⟩ := World.cells?_some h1
      obtain ⟨v0, v1, v2, v3, v4, v5, v6, v7, v8, v9, v10, v11, v12, v13, v14, v15, v16, v17, v18, rfl⟩ := list19 hlen
      obtain ⟨y, hy, hg⟩ := open_itm h2
      refine ⟨y, fun j v hj => ?_, hg⟩
      have hjl : j < 19 := (List.getElem?_eq_some_iff.1 hj).1
      have hc := hcell j hjl
      rw [hy] at hc
      rw [hc]
      exact hj
    haveI : Inhabited Itm := ⟨itZ⟩
    obtain ⟨F, hF⟩ := choose_lt each
    refine ⟨some ad, l, m, (List.range l).map F, rfl, ⟨by simp, hl, by unfold maxLen at hm; omega, fun h => (by cases h), ?_⟩, ?_, .inr ?_⟩
    · by_cases h0 : l = 0
      · exact .inl h0
      · obtain ⟨b, off, spot⟩ := ad
        have hc := (hF 0 (by omega)).1 0 _ rfl
        have hspot : spot = none := by simpa [Addr.add] using World.cell?_spot hc
        subst hspot
        refine .inr ⟨b, off, rfl, World.block_lt_of_cell? _ _ hc, fun j hj => ?_⟩
        have hget : ((List.range l).map F).getD j itZ = F j := by simp [List.getD, hj]
        rw [hget]
        intro i v hv
        have := (hF j (by omega)).1 i v hv
        rw [add_plain, add_plain] at this
        exact this
    · intro y hy
      obtain ⟨i, hi, rfl⟩ := List.mem_map.1 hy
      exact (hF i (by have := List.mem_range.1 hi; omega)).2
    · rw [hx]
      simp only [DataW.weights, Tryd.underlying22, List.length_map, List.length_range]
      rw [show Tryd.prog.bytesOf 38 = 160 by kernel_rfl, show l + (m - l) = m by omega]
      exact List.mem_cons_self
theorem list8 {α : Type} {l : List α} (h : l.length = 8) : ∃ v0 v1 v2 v3 v4 v5 v6 v7, l = [v0, v1, v2, v3, v4, v5, v6, v7] := by
  match l, h with
  | [v0, v1, v2, v3, v4, v5, v6, v7], _ => exact ⟨v0, v1, v2, v3, v4, v5, v6, v7, rfl⟩
/-- A packet that came in. -/
theorem open_pkc {H : Type} {enc : TypeId × Value → H} {W : World} {fuel : Nat} {cs : List Value} {x : DataW H × List MemPlace} (hl : cs.length = 8)
    (hf : DataW.trod enc Tryd.prog W 0 (fun _ => true) true fuel 24 cs = some x) : ∃ (p : Pkt) (a : Option Addr) (len cap : Nat), cs = [.int .i64 p.kind, .int .i64 p.src, .int .i64 p.dst, .int .i64 p.boot, .int .i64 p.life, .int .i64 p.echo, .int .i64 p.echoLife, .slice a len cap] ∧ RowI W a len cap p.items ∧ (∀ y ∈ p.items, itRg y) ∧ (cap = 0 ∨ cap * 160 ∈ x.1.weights Tryd.prog 24) := by
  obtain ⟨v0, v1, v2, v3, v4, v5, v6, v7, rfl⟩ := list8 hl
  obtain ⟨xs, k, hk, hxy, _, hxl, hg⟩ := DataW.trod_struct Tryd.underlying24 hf
  match xs, hxl with
  | [y0, y1, y2, y3, y4, y5, y6, y7], _ =>
  have e0 := hg 0 _ rfl
  have e1 := hg 1 _ rfl
  have e2 := hg 2 _ rfl
  have e3 := hg 3 _ rfl
  have e4 := hg 4 _ rfl
  have e5 := hg 5 _ rfl
  have e6 := hg 6 _ rfl
  have e7 := hg 7 _ rfl
  simp [cn3] at e0 e1 e2
  simp [cn2] at e3 e4 e5 e6
  simp [show Tryd.prog.cellsOf 22 = 1 by kernel_rfl] at e7
  obtain ⟨x0, q0, _, _⟩ := DataW.trod_int Tryd.underlying3 e0
  obtain ⟨x1, q1, _, _⟩ := DataW.trod_int Tryd.underlying3 e1
  obtain ⟨x2, q2, _, _⟩ := DataW.trod_int Tryd.underlying3 e2
  obtain ⟨x3, q3, _, _⟩ := DataW.trod_int Tryd.underlying2 e3
  obtain ⟨x4, q4, _, _⟩ := DataW.trod_int Tryd.underlying2 e4
  obtain ⟨x5, q5, _, _⟩ := DataW.trod_int Tryd.underlying2 e5
  obtain ⟨x6, q6, _, _⟩ := DataW.trod_int Tryd.underlying2 e6
  simp at q0 q1 q2 q3 q4 q5 q6
  subst q0 q1 q2 q3 q4 q5 q6
  obtain ⟨a, len, cap, its, rfl, R, hr, hw⟩ := open_its e7
  refine ⟨⟨x0, x1, x2, x3, x4, x5, x6, its⟩, a, len, cap, rfl, R, hr, hw.imp id fun h => ?_⟩
  rw [hxy]
  simp only [DataW.weights, Tryd.underlying24, List.map_cons, List.map_nil, DataW.weightsEach, List.mem_append]
  simp only [h, or_true, true_or]
set_option maxRecDepth 100000 in
theorem open_pkt {H : Type} {enc : TypeId × Value → H} {W : World} {r : Reach} {b : Nat} {v : Value} {d : DataW H} {ps : List MemPlace} (hv : Value.okWide Tryd.prog W r b 24 v) (h : DataW.Trod enc Tryd.prog W 0 (fun _ => true) true 24 v d ps) :
    ∃ (p : Pkt) (a : Option Addr) (len cap : Nat), v = pkv p a len cap ∧ RowI W a len cap p.items ∧ (∀ y ∈ p.items, itRg y) ∧ (cap = 0 ∨ cap * 160 ∈ d.weights Tryd.prog 24) := by
  simp only [Value.okWide, Tryd.underlying24] at hv
  obtain ⟨cs, rfl, hsz, _⟩ := hv
  rw [show Tryd.prog.cellsOf 24 = 8 by kernel_rfl] at hsz
  obtain ⟨fuel, hf⟩ := h
  obtain ⟨p, a, len, cap, hcs, R, hr, hw⟩ := open_pkc (x := (d, ps)) (by simpa [Value.cells] using hsz) hf
  refine ⟨p, a, len, cap, ?_, R, hr, hw⟩
  have : cs = (cs.toList).toArray := by simp
  rw [this, show cs.toList = _ from hcs]

end Go.Proofs.YticmjlnpjopfbaaDoor

namespace Go.Proofs.YticmjlnpjopfbaaDoor
open Go.ChangeShapes Go.WideShapes Go.ChangeAt Go.RowKit Go.Deep
set_option linter.unusedVariables false
set_option linter.unusedSimpArgs false
theorem bulk_1 {H : Type} (d : DataW H) : 1 ≤ Rows.uptoBulk d := by
  cases d with
  | lit l => cases l <;> simp [Rows.uptoBulk]
  | _ => simp [Rows.uptoBulk]
theorem bulk_l {H : Type} (l : List (DataW H)) : l.length ≤ Rows.uptoBulkAll l := by
  induction l with
  | nil => simp [Rows.uptoBulkAll]
  | cons x r ih => have := bulk_1 x; simp only [Rows.uptoBulkAll, List.length_cons]; omega
theorem bulk_m {H : Type} {l : List (DataW H)} {d : DataW H} (h : d ∈ l) : Rows.uptoBulk d ≤ Rows.uptoBulkAll l := by
  induction l with
  | nil => cases h
  | cons x r ih =>
    simp only [Rows.uptoBulkAll]
    rcases List.mem_cons.1 h with rfl | h
    · omega
    · have := ih h; omega
section
variable {H : Type} {enc : TypeId × Value → H} {W : World} {base n : Nat} {sp : Nat → Bool} {held : Bool} {x : DataW H × List MemPlace}
theorem name_chan {v0 v1 v2 v3 v4 v5 : Value} (h : DataW.trod enc Tryd.prog W base sp held n 32 [v0, v1, v2, v3, v4, v5] = some x) : ∃ s, v0 = .string s ∧ s.size ≤ Rows.uptoBulk x.1 := by
  obtain ⟨xs, k, hk, hxy, _, hxl, hf⟩ := DataW.trod_struct Tryd.underlying32 h
  match xs, hxl with
  | [y0, y1, y2, y3, y4, y5], _ =>
  have e0 := hf 0 _ rfl
  simp [cn9] at e0
  obtain ⟨x0, q0, r0, w0⟩ := DataW.trod_string Tryd.underlying9 e0
  simp at q0
  refine ⟨x0, q0, ?_⟩
  rw [hxy]
  simp only [List.map_cons, List.map_nil, Rows.uptoBulk, Rows.uptoBulkAll]
  rw [r0]
  simp [Rows.uptoBulk]
  omega
theorem name_itm {v0 v1 v2 v3 v4 v5 v6 v7 v8 v9 v10 v11 v12 v13 v14 v15 v16 v17 v18 : Value} (h : DataW.trod enc Tryd.prog W base sp held n 38 [v0, v1, v2, v3, v4, v5, v6, v7, v8, v9, v10, v11, v12, v13, v14, v15, v16, v17, v18] = some x) : ∃ s, v0 = .string s ∧ s.size ≤ Rows.uptoBulk x.1 := by
  obtain ⟨xs, k, hk, hxy, _, hxl, hf⟩ := DataW.trod_struct Tryd.underlying38 h
  match xs, hxl with
  | [y0, y1, y2, y3, y4, y5], _ =>
  have e0 := hf 0 _ rfl
  simp [cn32] at e0
  obtain ⟨s, hs, hb⟩ := name_chan e0
  refine ⟨s, hs, ?_⟩
  rw [hxy]
  simp only [List.map_cons, List.map_nil, Rows.uptoBulk, Rows.uptoBulkAll]
  omega
end
theorem open_itsU {H : Type} {enc : TypeId × Value → H} {W : World} {fuel : Nat} {v : Value} {x : DataW H × List MemPlace}
    (hf : DataW.trod enc Tryd.prog W 0 (fun _ => true) true fuel 22 [v] = some x) : ∃ (a : Option Addr) (len cap : Nat) (its : List Itm), v = .slice a len cap ∧ RowI W a len cap its ∧ (∀ y ∈ its, itRg y) ∧ (cap ≤ Rows.uptoBulk x.1 ∧ ∀ y ∈ its, y.name.size ≤ Rows.uptoBulk x.1) := by
  rcases open_slice Tryd.underlying22 hf with ⟨hcs, hx⟩ | ⟨ad, l, c, m, n, D, Pl, hcs, _, hl, hm, hmm, hx, hel⟩
  · simp at hcs
    subst hcs
    exact ⟨none, 0, 0, [], rfl, rowI_nil W, fun y hy => (by simp at hy), Nat.zero_le _, fun y hy => (by simp at hy)⟩
  · simp at hcs
    subst hcs
    have hmc : m = c := by simpa using hmm
    subst hmc
    rw [cn38] at hel
    have each : ∀ i, i < m → ∃ y : Itm, (∀ j v, (itc y)[j]? = some v → W.cell? ((ad.add (i * 19)).add j) = some v) ∧ itRg y ∧ y.name.size ≤ Rows.uptoBulk (D i) := by
      intro i hi
      obtain ⟨cs', h1, h2⟩ := hel i hi
      obtain ⟨_, hlen, hcell⟩ := World.cells?_some h1
      obtain ⟨v0, v1, v2, v3, v4, v5, v6, v7, v8, v9, v10, v11, v12, v13, v14, v15, v16, v17, v18, rfl⟩ := list19 hlen
      obtain ⟨y, hy, hg⟩ := open_itm h2
      obtain ⟨s, hs, hb⟩ := name_itm h2
      have hys : y.name = s := by have e := congrArg (fun l => l[0]?) hy; simp [itc, hs] at e; exact e.symm
      refine ⟨y, fun j v hj => ?_, hg, by rw [hys]; exact hb⟩
      have hjl : j < 19 := (List.getElem?_eq_some_iff.1 hj).1
      have hc := hcell j hjl
      rw [hy] at hc
      rw [hc]
      exact hj
    haveI : Inhabited Itm := ⟨itZ⟩
    obtain ⟨F, hF⟩ := choose_lt each
    refine ⟨some ad, l, m, (List.range l).map F, rfl, ⟨by simp, hl, by unfold maxLen at hm; omega, fun h => (by cases h), ?_⟩, ?_, ?_, ?_⟩
    · by_cases h0 : l = 0
      · exact .inl h0
      · obtain ⟨b, off, spot⟩ := ad
        have hc := (hF 0 (by omega)).1 0 _ rfl
        have hspot : spot = none := by simpa [Addr.add] using World.cell?_spot hc
        subst hspot
        refine .inr ⟨b, off, rfl, World.block_lt_of_cell? _ _ hc, fun j hj => ?_⟩
        have hget : ((List.range l).map F).getD j itZ = F j := by simp [List.getD, hj]
        rw [hget]
        intro i v hv
        have := (hF j (by omega)).1 i v hv
        rw [add_plain, add_plain] at this
        exact this
    · intro y hy
      obtain ⟨i, hi, rfl⟩ := List.mem_map.1 hy
      exact (hF i (by have := List.mem_range.1 hi; omega)).2.1
    · rw [hx]
      have h1 := bulk_l (H := H) ((List.range l).map D)
      have h2 := bulk_l (H := H) ((List.range (m - l)).map fun i => D (l + i))
      simp only [List.length_map, List.length_range] at h1 h2
      simp only [Rows.uptoBulk]
      omega
    · intro y hy
      obtain ⟨i, hi, rfl⟩ := List.mem_map.1 hy
      have hil := List.mem_range.1 hi
      have h1 := (hF i (by omega)).2.2
      have h2 := bulk_m (H := H) (l := (List.range l).map D) (List.mem_map.2 ⟨i, hi, rfl⟩)
      rw [hx]
      simp only [Rows.uptoBulk]
      omega
theorem open_pkcU {H : Type} {enc : TypeId × Value → H} {W : World} {fuel : Nat} {cs : List Value} {x : DataW H × List MemPlace} (hl : cs.length = 8)
    (hf : DataW.trod enc Tryd.prog W 0 (fun _ => true) true fuel 24 cs = some x) : ∃ (p : Pkt) (a : Option Addr) (len cap : Nat), cs = [.int .i64 p.kind, .int .i64 p.src, .int .i64 p.dst, .int .i64 p.boot, .int .i64 p.life, .int .i64 p.echo, .int .i64 p.echoLife, .slice a len cap] ∧ RowI W a len cap p.items ∧ (∀ y ∈ p.items, itRg y) ∧ (cap ≤ Rows.uptoBulk x.1 ∧ ∀ y ∈ p.items, y.name.size ≤ Rows.uptoBulk x.1) := by
  obtain ⟨v0, v1, v2, v3, v4, v5, v6, v7, rfl⟩ := list8 hl
  obtain ⟨xs, k, hk, hxy, _, hxl, hg⟩ := DataW.trod_struct Tryd.underlying24 hf
  match xs, hxl with
  | [y0, y1, y2, y3, y4, y5, y6, y7], _ =>
  have e0 := hg 0 _ rfl
  have e1 := hg 1 _ rfl
  have e2 := hg 2 _ rfl
  have e3 := hg 3 _ rfl
  have e4 := hg 4 _ rfl
  have e5 := hg 5 _ rfl
  have e6 := hg 6 _ rfl
  have e7 := hg 7 _ rfl
  simp [cn3] at e0 e1 e2
  simp [cn2] at e3 e4 e5 e6
  simp [show Tryd.prog.cellsOf 22 = 1 by kernel_rfl] at e7
  obtain ⟨x0, q0, _, _⟩ := DataW.trod_int Tryd.underlying3 e0
  obtain ⟨x1, q1, _, _⟩ := DataW.trod_int Tryd.underlying3 e1
  obtain ⟨x2, q2, _, _⟩ := DataW.trod_int Tryd.underlying3 e2
  obtain ⟨x3, q3, _, _⟩ := DataW.trod_int Tryd.underlying2 e3
  obtain ⟨x4, q4, _, _⟩ := DataW.trod_int Tryd.underlying2 e4
  obtain ⟨x5, q5, _, _⟩ := DataW.trod_int Tryd.underlying2 e5
  obtain ⟨x6, q6, _, _⟩ := DataW.trod_int Tryd.underlying2 e6
  simp at q0 q1 q2 q3 q4 q5 q6
  subst q0 q1 q2 q3 q4 q5 q6
  obtain ⟨a, len, cap, its, rfl, R, hr, hw⟩ := open_itsU e7
  have hxb : Rows.uptoBulk y7.1 ≤ Rows.uptoBulk x.1 := by
    rw [hxy]
    simp only [List.map_cons, List.map_nil, Rows.uptoBulk, Rows.uptoBulkAll]
    omega
  exact ⟨⟨x0, x1, x2, x3, x4, x5, x6, its⟩, a, len, cap, rfl, R, hr, Nat.le_trans hw.1 hxb, fun y hy => Nat.le_trans (hw.2 y hy) hxb⟩
set_option maxRecDepth 100000 in
theorem open_pktU {H : Type} {enc : TypeId × Value → H} {W : World} {r : Reach} {b : Nat} {v : Value} {d : DataW H} {ps : List MemPlace} (hv : Value.okWide Tryd.prog W r b 24 v) (h : DataW.Trod enc Tryd.prog W 0 (fun _ => true) true 24 v d ps) :
    ∃ (p : Pkt) (a : Option Addr) (len cap : Nat), v = pkv p a len cap ∧ RowI W a len cap p.items ∧ (∀ y ∈ p.items, itRg y) ∧ (cap ≤ Rows.uptoBulk d ∧ ∀ y ∈ p.items, y.name.size ≤ Rows.uptoBulk d) := by
  simp only [Value.okWide, Tryd.underlying24] at hv
  obtain ⟨cs, rfl, hsz, _⟩ := hv
  rw [show Tryd.prog.cellsOf 24 = 8 by kernel_rfl] at hsz
  obtain ⟨fuel, hf⟩ := h
  obtain ⟨p, a, len, cap, hcs, R, hr, hw⟩ := open_pkcU (x := (d, ps)) (by simpa [Value.cells] using hsz) hf
  refine ⟨p, a, len, cap, ?_, R, hr, hw⟩
  have : cs = (cs.toList).toArray := by simp
  rw [this, show cs.toList = _ from hcs]

theorem body_few {p : Pkt} (hl : p.items.length ≤ 1048576) (hn : ∀ y ∈ p.items, y.name.size ≤ 1048576) : (bodyP p).length ≤ 70368740000000 := by
  have h1 := hdF_len p
  have h2 := itsF_len p.items 1048576 hn
  rw [bodyP, List.length_append]
  have : (190 + 1048576) * p.items.length ≤ (190 + 1048576) * 1048576 := Nat.mul_le_mul_left _ hl
  omega
end Go.Proofs.YticmjlnpjopfbaaDoor

namespace Go.Proofs.YticmjlnpjopfbaaDoor
open Go.ChangeShapes Go.WideShapes Go.ChangeAt Go.RowKit Go.Deep
open S (Row)
set_option linter.unusedVariables false
theorem has_i64 {x : Int} (h : IntKind.i64.has x) : -9223372036854775808 ≤ x ∧ x ≤ 9223372036854775807 := by
  first
    | exact h
    | simpa [IntKind.has, IntKind.min, IntKind.max, IntKind.signed, IntKind.bits] using h
theorem has_u8 {x : Int} (h : IntKind.u8.has x) : 0 ≤ x ∧ x < 256 := by
  have h2 : 0 ≤ x ∧ x ≤ 255 := by
    first
      | exact h
      | simpa [IntKind.has, IntKind.min, IntKind.max, IntKind.signed, IntKind.bits] using h
  omega
/-- How long a list of numbers is, out of its bulk. -/
theorem bulk_lits {H : Type} (k : IntKind) (zs : List Int) (len : Nat) : zs.length + 1 ≤ Rows.uptoBulk (DataW.slice (H := H) (lits k (zs.take len)) (lits k (zs.drop len))) := by
  have h1 := bulk_l (H := H) (lits k (zs.take len))
  have h2 := bulk_l (H := H) (lits k (zs.drop len))
  simp only [lits, List.length_map, List.length_take, List.length_drop] at h1 h2
  simp only [Rows.uptoBulk, lits]
  omega

/-- A list of numbers that came in: what the walk is told, and its length. -/
theorem open_row {H : Type} {enc : TypeId × Value → H} {W : World} {t e : TypeId} {k : IntKind} {a : Option Addr} {len cap : Nat} {d : DataW H} {ps : List MemPlace} (ht : Tryd.prog.underlying t = some (.slice e)) (he : Tryd.prog.underlying e = some (.int k)) (hc : Tryd.prog.cellsOf e = 1)
    (h : DataW.Trod enc Tryd.prog W 0 (fun _ => true) true t (.slice a len cap) d ps) : ∃ zs, Row k W a len cap zs ∧ cap + 1 ≤ Rows.uptoBulk d ∧ cap ≤ maxLen := by
  obtain ⟨fuel, hf⟩ := h
  rcases open_ints ht he hc hf with ⟨hcs, hx⟩ | ⟨x, l, c, zs, hcs, _, hl, hm, hz, hx, hcell, hwz⟩
  · simp [Value.cells] at hcs
    obtain ⟨rfl, rfl, rfl⟩ := hcs
    exact ⟨[], S.row_nil k W, by have := bulk_1 d; omega, Nat.zero_le _⟩
  · simp [Value.cells] at hcs
    obtain ⟨rfl, rfl, rfl⟩ := hcs
    simp only [Prod.mk.injEq] at hx
    obtain ⟨hd, _⟩ := hx
    subst hd
    have hz' : zs.length = cap := by simpa using hz
    exact ⟨zs.take len, row_mk hl hz' hcell hwz, by have := bulk_lits (H := H) k zs len; omega, hm⟩
end Go.Proofs.YticmjlnpjopfbaaDoor

namespace Go.Proofs.YticmjlnpjopfbaaDoor.wireDecodes
open Go.ChangeShapes Go.WideShapes Go.ChangeAt Go.RowKit
open S (Tab leaf Row)
set_option linter.unusedVariables false

theorem own : ownKnob Tryd.prog.godebug = none := by kernel_rfl
theorem laidOut : laidOutB Tryd.prog = true := by kernel_rfl
theorem gTab : Tryd.prog.globalNamed "eddy/seal.leaves" = some 0 := by kernel_rfl
theorem gTabType : (Tryd.prog.globals[0]?).map (·.type) = some 137 := by kernel_rfl
theorem cellsT : Tryd.prog.cellsOf 137 = 16 := by kernel_rfl
theorem cellsU : Tryd.prog.cellsOf 91 = 1 := by kernel_rfl
def leafI : List Int := [0, 498536548, 997073096, 651767980, 1994146192, 1802195444, 1303535960, 1342533948, 3988292384, 4027552580, 3604390888, 3412177804, 2607071920, 2262029012, 2685067896, 3183342108]
theorem leaf_int : ∀ i : Fin 16, leafI.getD i.val 0 = ((leaf i.val : Nat) : Int) := by decide +kernel
theorem table {W : World} (h : laidMetH Tryd.prog Rows.wireDecodesUptoRow.laid W) : Tab W := by
  have t : Lib.TabIs Tryd.prog W "eddy/seal.leaves" .u32 leafI := Lib.tabIs_of_head (rest := []) gTab gTabType Tryd.underlying137 Tryd.underlying91 cellsU cellsT h
  intro i hi
  have := t.cell gTab i (by show i < 16; exact hi)
  rw [leaf_int ⟨i, hi⟩] at this
  exact this

set_option maxRecDepth 100000 in
theorem contract (H : Type) (enc : TypeId × Value → H) (W : World) (base : Nat) (args : Array Value) (ds gs : List (DataW H)) (before : List MemPlace)
    (hval0 : ∀ (j : Nat) t v, Tryd.f5.params[j]? = some t → args[j]? = some v → Value.okWide Tryd.prog W .any base t v)
    (hW : DataW.Whole enc Tryd.prog Tryd.f5.params.toList Rows.wireDecodesSpec.vars false W args.toList ds gs before) (hL : laidMetH Tryd.prog Rows.wireDecodesUptoRow.laid W)
    (hk : Rows.uptoSmall H (ds ++ gs) = true) :
    Calls Tryd.prog 5 args W fun e W' => ∃ v, e = .returned v ∧ Rows.wireDecodesSpec.post enc Tryd.prog Tryd.f5 false true false false W args v W' := by
  have hval : ∀ (j : Nat) t v, Tryd.f5.params[j]? = some t → args[j]? = some v → Value.okWide Tryd.prog W .any base t v := hval0
  have hW' := hW
  obtain ⟨p, q, hA0, hV, rfl, hfz, hnd⟩ := hW
  have hA : DataW.TrodAll enc Tryd.prog W 0 (fun _ => true) true Tryd.f5.params.toList args.toList ds p := hA0
  rw [Tryd.params5] at hA hval
  have htab : Tab W := table hL
  obtain ⟨v0, vs0, d0, ds0, p0, q0, hargs, rfl, rfl, h0, r0⟩ := trodAll_cons hA
  obtain ⟨v1, vs1, d1, ds1, p1, q1, rfl, rfl, rfl, h1, r1⟩ := trodAll_cons r0
  obtain ⟨v2, vs2, d2, ds2, p2, q2, rfl, rfl, rfl, h2, r2⟩ := trodAll_cons r1
  obtain ⟨v3, vs3, d3, ds3, p3, q3, rfl, rfl, rfl, h3, r3⟩ := trodAll_cons r2
  obtain ⟨rfl, rfl, rfl⟩ := trodAll_nil r3
  obtain rfl : args = #[v0, v1, v2, v3] := by cases args; simp_all
  obtain ⟨rfl, rfl⟩ := trodVars_none hV
  have hb := of_decide_eq_true hk
  simp only [List.append_nil, Rows.uptoBulkAll, Nat.add_zero] at hb
  have k0 := h0
  have lt0 : ∀ x ∈ p0, x.block < W.heap.size := by obtain ⟨m, hm⟩ := k0; exact DataW.trod_lt m _ _ _ hm
  obtain ⟨a0, len0, cap0, rfl⟩ := okWide_slice Tryd.underlying27 (hval 0 27 v0 rfl rfl)
  obtain ⟨z0, R0, u0, m0⟩ := open_row Tryd.underlying27 Tryd.underlying5 cells5 k0
  have le0 := R0.le
  unfold maxLen at m0
  have k1 := h1
  have lt1 : ∀ x ∈ p1, x.block < W.heap.size := by obtain ⟨m, hm⟩ := k1; exact DataW.trod_lt m _ _ _ hm
  obtain ⟨p1x, a1, len1, cap1, rfl, R1, hr1, hu1, hn1⟩ := open_pktU (hval 1 24 v1 rfl rfl) k1
  have le1 := R1.le
  have sz1 := R1.size
  have k2 := h2
  have lt2 : ∀ x ∈ p2, x.block < W.heap.size := by obtain ⟨m, hm⟩ := k2; exact DataW.trod_lt m _ _ _ hm
  obtain ⟨x2, rfl, w2⟩ := cell_int Tryd.underlying3 (okWide_cell (hval 2 3 v2 rfl rfl) (by rw [Tryd.underlying3]))
  have k3 := h3
  have lt3 : ∀ x ∈ p3, x.block < W.heap.size := by obtain ⟨m, hm⟩ := k3; exact DataW.trod_lt m _ _ _ hm
  obtain ⟨x3, rfl, w3⟩ := cell_int Tryd.underlying5 (okWide_cell (hval 3 5 v3 rfl rfl) (by rw [Tryd.underlying5]))
  clear hA0 hval0
  refine (decodes_walk a0 len0 cap0 z0 p1x a1 len1 cap1 x2 x3 W R0 R1 (body_few (by omega) (fun y hy => by have := hn1 y hy; omega)) hr1 (body_byte hr1 (fun y hy => by have := hn1 y hy; omega)) (by omega) (by omega) (has_i64 w2) (has_u8 w3) htab).mono fun e W' ⟨he, bel⟩ => ?_
  subst he
  exact ⟨_, rfl, _, _, _, [], _, [], hW', trodAll_mk1 (shut_bool Tryd.underlying4 _), (trodAll_cons_mk (Below.trod laidOut (by kernel_rfl) (of_decide_eq_true (by kernel_rfl)) k0 bel lt0) (trodAll_cons_mk (Below.trod laidOut (by kernel_rfl) (of_decide_eq_true (by kernel_rfl)) k1 bel lt1) (trodAll_cons_mk (Below.trod laidOut (by kernel_rfl) (of_decide_eq_true (by kernel_rfl)) k2 bel lt2) (trodAll_cons_mk (Below.trod laidOut (by kernel_rfl) (of_decide_eq_true (by kernel_rfl)) k3 bel lt3) trodAll_mk0)))), rfl, bel.frame _, fun h => by cases h⟩

/-- A world for the witness: the settled one, the table holding what its initialiser lays. -/
def laidObj : Obj → Obj
  | .cells _ t frozen => .cells #[.int .u32 0, .int .u32 498536548, .int .u32 997073096, .int .u32 651767980, .int .u32 1994146192, .int .u32 1802195444, .int .u32 1303535960, .int .u32 1342533948, .int .u32 3988292384, .int .u32 4027552580, .int .u32 3604390888, .int .u32 3412177804, .int .u32 2607071920, .int .u32 2262029012, .int .u32 2685067896, .int .u32 3183342108] t frozen
  | o => o
theorem laid_met (os : Os) : laidMet Tryd.prog Rows.wireDecodesUptoRow.laid (({ World.holding Tryd.prog os ⟨#[], #[], []⟩ with heap := (World.holding Tryd.prog os ⟨#[], #[], []⟩).heap.modify 0 laidObj } : World).forCall (fun _ _ => 0) ⟨#[], #[.slice none 0 0, .agg #[.int .i64 0, .int .i64 0, .int .i64 0, .int .i64 0, .int .i64 0, .int .i64 0, .int .i64 0, .slice none 0 0], .int .i64 0, .int .u8 0], []⟩).memory :=
  laidMet_of_run' 8 (by kernel_rfl) (by kernel_rfl)
theorem reads (os : Os) {H : Type} (enc : TypeId × Value → H) : ∃ places, DataW.whole enc Tryd.prog (({ World.holding Tryd.prog os ⟨#[], #[], []⟩ with heap := (World.holding Tryd.prog os ⟨#[], #[], []⟩).heap.modify 0 laidObj } : World).forCall (fun _ _ => 0) ⟨#[], #[.slice none 0 0, .agg #[.int .i64 0, .int .i64 0, .int .i64 0, .int .i64 0, .int .i64 0, .int .i64 0, .int .i64 0, .slice none 0 0], .int .i64 0, .int .u8 0], []⟩).memory Tryd.f5.params.toList Rows.wireDecodesSpec.vars false (#[.slice none 0 0, .agg #[.int .i64 0, .int .i64 0, .int .i64 0, .int .i64 0, .int .i64 0, .int .i64 0, .int .i64 0, .slice none 0 0], .int .i64 0, .int .u8 0] : Array Value).toList 8 = some ([.nil, .agg [.lit (.int .i64 0), .lit (.int .i64 0), .lit (.int .i64 0), .lit (.int .i64 0), .lit (.int .i64 0), .lit (.int .i64 0), .lit (.int .i64 0), .nil], .lit (.int .i64 0), .lit (.int .u8 0)], [], places) :=
  ⟨[], by kernel_rfl⟩

set_option maxRecDepth 100000 in
theorem lifted (os : Os) (started : os.Started) (H : Type) (enc : TypeId × Value → H) (F : Stop.Interp) :
    ReturnsInHanded {} Tryd.checked os 5 .any ((Rows.OpenSpec.upto Rows.wireDecodesSpec).preRow enc Tryd.prog Tryd.f5 Rows.wireDecodesUptoRow.domain false Rows.wireDecodesUptoRow.laid) (((Rows.OpenSpec.upto Rows.wireDecodesSpec).at F).post enc Tryd.prog Tryd.f5 false true false false) := by
  obtain ⟨places, hx⟩ := reads os enc
  refine returnsInHanded_of_row (C := Tryd.checked) (s := (Rows.OpenSpec.upto Rows.wireDecodesSpec)) own started (by kernel_rfl) Tryd.func5
    (witness_row_at (enc := enc) (C := Tryd.checked) false ({ World.holding Tryd.prog os ⟨#[], #[], []⟩ with heap := (World.holding Tryd.prog os ⟨#[], #[], []⟩).heap.modify 0 laidObj } : World) #[.slice none 0 0, .agg #[.int .i64 0, .int .i64 0, .int .i64 0, .int .i64 0, .int .i64 0, .int .i64 0, .int .i64 0, .slice none 0 0], .int .i64 0, .int .u8 0] rfl (by kernel_rfl) (by kernel_rfl) (by kernel_rfl)
      (OpenSpec.preRow_of_cond 8 hx (by kernel_rfl) (fun k hk => by cases hk; kernel_rfl) (by kernel_rfl) (laid_met os))) ?_
  intro W base args ds gs before hval hW _ hcond hsz hL _ _
  exact contract H enc W base args ds gs before hval hW hL (hcond _ rfl)

theorem over : Rows.WireDecodesUptoSaid :=
  OpenClaim.holds_of_cond 5 Tryd.f5 rfl rfl rfl rfl rfl rfl rfl ⟨rfl, rfl, rfl, rfl, rfl⟩ rfl rfl rfl rfl rfl (by kernel_rfl) Tryd.func5 (by kernel_rfl)
    (of_decide_eq_true (by kernel_rfl)) (by unfold Func.isWrapper; first | (rw [if_pos (by decide +kernel)]; kernel_rfl) | (rw [if_neg (by decide +kernel)]; exact ⟨rfl, rfl⟩))
    (fun os started H enc _ F => by rw [OpenClaim.pre_eq_preRow]; exact lifted os started H enc F)

theorem plain (f : FuncId) (fn : Func) (hf : Tryd.pinned.checked.prog.funcNamed "eddy/eddylaw05.WireDecodes" = some f) (hfn : Tryd.pinned.checked.prog.funcs[f]? = some fn) :
    true = Tryd.pinned.checked.prog.looks [] ∧ ∀ (j : Nat) t, fn.params[j]? = some t → Tryd.pinned.checked.prog.wantsStandIn t = false := by
  obtain rfl : f = 5 := Option.some.inj ((show Tryd.prog.funcNamed "eddy/eddylaw05.WireDecodes" = some 5 by kernel_rfl).symm.trans hf) |>.symm
  obtain rfl : fn = Tryd.f5 := (Option.some.inj (Tryd.func5.symm.trans hfn)).symm
  refine ⟨by kernel_rfl, fun j t ht => ?_⟩
  rw [Tryd.params5] at ht
  have h3 : t ∈ [27, 24, 3, 5] := List.mem_of_getElem? (by simpa using ht)
  simp only [List.mem_cons, List.not_mem_nil, or_false] at h3
  rcases h3 with rfl | rfl | rfl | rfl
  · exact (show Tryd.prog.wantsStandIn 27 = false by kernel_rfl)
  · exact (show Tryd.prog.wantsStandIn 24 = false by kernel_rfl)
  · exact (show Tryd.prog.wantsStandIn 3 = false by kernel_rfl)
  · exact (show Tryd.prog.wantsStandIn 5 = false by kernel_rfl)

/-- The statement: the tied card. -/
theorem proved : Rows.WireDecodesUptoCardSaid :=
  Claim7.holds_tied_plain_at .later [] _ _ _ _ over (fun _ h => by cases h) (by kernel_rfl) (fun _ h => by cases h) wireDecodesUpto_row_tie rfl ⟨rfl, rfl⟩ (by kernel_rfl) rfl plain (by kernel_rfl)
#print axioms proved
end Go.Proofs.YticmjlnpjopfbaaDoor.wireDecodes
