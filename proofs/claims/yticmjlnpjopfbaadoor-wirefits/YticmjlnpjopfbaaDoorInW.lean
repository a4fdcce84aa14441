/-
  An item, a text, a number that came in: what the walk is told of them.
-/
import Derived.Test.YticmjlnpjopfbaaDoorRows
import Derived.Test.YticmjlnpjopfbaaDoorLoad
import Derived.ChangeSame
import Derived.ProofKit
import Derived.OpenShut
namespace Go.Proofs.YticmjlnpjopfbaaDoor
open Go.ChangeShapes Go.WideShapes Go.ChangeAt Go.RowKit
set_option linter.unusedVariables false

theorem cell_int {P : Program} {w : World} {r : Reach} {b t : Nat} {k : IntKind} {v : Value} (ht : P.underlying t = some (.int k)) (h : Cell.okWide P w r b t v) : ∃ n, v = .int k n ∧ k.has n := by
  simp only [Cell.okWide, Cell.ok, ht] at h
  cases v <;> simp_all
theorem cell_bool {P : Program} {w : World} {r : Reach} {b t : Nat} {v : Value} (ht : P.underlying t = some .bool) (h : Cell.okWide P w r b t v) : ∃ n, v = .bool n := by
  simp only [Cell.okWide, Cell.ok, ht] at h
  cases v <;> simp_all
theorem cell_string {P : Program} {w : World} {r : Reach} {b t : Nat} {v : Value} (ht : P.underlying t = some .string) (h : Cell.okWide P w r b t v) : ∃ n, v = .string n ∧ (n.size : Int) ≤ IntKind.i64.max := by
  simp only [Cell.okWide, Cell.ok, ht] at h
  cases v <;> simp_all
theorem okWide_cell {P : Program} {w : World} {r : Reach} {b t : Nat} {v : Value} (h : Value.okWide P w r b t v) (ht : (match P.underlying t with | some (.struct _) => false | some (.array _ _) => false | _ => true) = true) : Cell.okWide P w r b t v := by
  unfold Value.okWide at h
  split at h <;> simp_all

/-- The numbers of an item are 64 bits wide. -/
structure itWf (x : Itm) : Prop where
  name : (x.name.size : Int) ≤ IntKind.i64.max
  epoch : IntKind.i64.has x.epoch
  maker : IntKind.i64.has x.maker
  kind : IntKind.i64.has x.kind
  scale : IntKind.i64.has x.scale
  ver : IntKind.i64.has x.ver
  writer : IntKind.i64.has x.writer
  flow : IntKind.i64.has x.flow
  rest : IntKind.i64.has x.rest
  mnv : IntKind.i64.has x.mn.value
  mno : IntKind.i64.has x.mn.origin
  mna : IntKind.i64.has x.mn.age
  mxv : IntKind.i64.has x.mx.value
  mxo : IntKind.i64.has x.mx.origin
  mxa : IntKind.i64.has x.mx.age
theorem cells38 : Tryd.prog.cellsOf 38 = 19 := by kernel_rfl
theorem types38 : Tryd.prog.cellTypes Tryd.prog.depth 38 = some [9, 2, 3, 4, 3, 2, 2, 3, 2, 4, 2, 4, 2, 3, 2, 4, 2, 3, 2] := by kernel_rfl
set_option maxRecDepth 100000 in
theorem open_item {w : World} {r : Reach} {b : Nat} {v : Value} (h : Value.okWide Tryd.prog w r b 38 v) : ∃ x : Itm, v = itv x ∧ itWf x := by
  simp only [Value.okWide, Tryd.underlying38] at h
  obtain ⟨cs, rfl, hsz, ts, hts, _, hc⟩ := h
  rw [cells38] at hsz
  rw [types38] at hts
  cases hts
  have key : ∀ (i : Nat) (t : Nat), i < 19 → [9, 2, 3, 4, 3, 2, 2, 3, 2, 4, 2, 4, 2, 3, 2, 4, 2, 3, 2][i]? = some t → ∃ v, cs[i]? = some v ∧ Cell.okWide Tryd.prog w r b t v := by
    intro i t hi ht
    have hlt : i < cs.size := by rw [hsz]; exact hi
    obtain ⟨u, hu, hk⟩ := hc i (cs[i]'hlt) (Array.getElem?_eq_getElem hlt)
    rw [show ([9, 2, 3, 4, 3, 2, 2, 3, 2, 4, 2, 4, 2, 3, 2, 4, 2, 3, 2] : List Nat).length = 19 from rfl, Nat.mod_eq_of_lt hi, ht] at hu
    cases hu
    exact ⟨_, Array.getElem?_eq_getElem hlt, hk⟩
  obtain ⟨v0, c0, k0⟩ := key 0 9 (by omega) rfl
  obtain ⟨v1, c1, k1⟩ := key 1 2 (by omega) rfl
  obtain ⟨v2, c2, k2⟩ := key 2 3 (by omega) rfl
  obtain ⟨v3, c3, k3⟩ := key 3 4 (by omega) rfl
  obtain ⟨v4, c4, k4⟩ := key 4 3 (by omega) rfl
  obtain ⟨v5, c5, k5⟩ := key 5 2 (by omega) rfl
  obtain ⟨v6, c6, k6⟩ := key 6 2 (by omega) rfl
  obtain ⟨v7, c7, k7⟩ := key 7 3 (by omega) rfl
  obtain ⟨v8, c8, k8⟩ := key 8 2 (by omega) rfl
  obtain ⟨v9, c9, k9⟩ := key 9 4 (by omega) rfl
  obtain ⟨v10, c10, k10⟩ := key 10 2 (by omega) rfl
  obtain ⟨v11, c11, k11⟩ := key 11 4 (by omega) rfl
  obtain ⟨v12, c12, k12⟩ := key 12 2 (by omega) rfl
  obtain ⟨v13, c13, k13⟩ := key 13 3 (by omega) rfl
  obtain ⟨v14, c14, k14⟩ := key 14 2 (by omega) rfl
  obtain ⟨v15, c15, k15⟩ := key 15 4 (by omega) rfl
  obtain ⟨v16, c16, k16⟩ := key 16 2 (by omega) rfl
  obtain ⟨v17, c17, k17⟩ := key 17 3 (by omega) rfl
  obtain ⟨v18, c18, k18⟩ := key 18 2 (by omega) rfl
  obtain ⟨x0, rfl, h0⟩ := cell_string Tryd.underlying9 k0
  obtain ⟨x1, rfl, h1⟩ := cell_int Tryd.underlying2 k1
  obtain ⟨x2, rfl, h2⟩ := cell_int Tryd.underlying3 k2
  obtain ⟨x3, rfl⟩ := cell_bool Tryd.underlying4 k3
  obtain ⟨x4, rfl, h4⟩ := cell_int Tryd.underlying3 k4
  obtain ⟨x5, rfl, h5⟩ := cell_int Tryd.underlying2 k5
  obtain ⟨x6, rfl, h6⟩ := cell_int Tryd.underlying2 k6
  obtain ⟨x7, rfl, h7⟩ := cell_int Tryd.underlying3 k7
  obtain ⟨x8, rfl, h8⟩ := cell_int Tryd.underlying2 k8
  obtain ⟨x9, rfl⟩ := cell_bool Tryd.underlying4 k9
  obtain ⟨x10, rfl, h10⟩ := cell_int Tryd.underlying2 k10
  obtain ⟨x11, rfl⟩ := cell_bool Tryd.underlying4 k11
  obtain ⟨x12, rfl, h12⟩ := cell_int Tryd.underlying2 k12
  obtain ⟨x13, rfl, h13⟩ := cell_int Tryd.underlying3 k13
  obtain ⟨x14, rfl, h14⟩ := cell_int Tryd.underlying2 k14
  obtain ⟨x15, rfl⟩ := cell_bool Tryd.underlying4 k15
  obtain ⟨x16, rfl, h16⟩ := cell_int Tryd.underlying2 k16
  obtain ⟨x17, rfl, h17⟩ := cell_int Tryd.underlying3 k17
  obtain ⟨x18, rfl, h18⟩ := cell_int Tryd.underlying2 k18
  refine ⟨⟨x0, x1, x2, x3, x4, x5, x6, x7, x8, x9, x10, ⟨x11, x12, x13, x14⟩, ⟨x15, x16, x17, x18⟩⟩, ?_, ⟨h0, h1, h2, h4, h5, h6, h7, h8, h10, h12, h13, h14, h16, h17, h18⟩⟩
  have e : cs = (itc ⟨x0, x1, x2, x3, x4, x5, x6, x7, x8, x9, x10, ⟨x11, x12, x13, x14⟩, ⟨x15, x16, x17, x18⟩⟩).toArray := by
    apply Array.ext_getElem?
    intro i
    by_cases hi : i < 19
    · match i, hi with
      | 0, _ => exact c0
      | 1, _ => exact c1
      | 2, _ => exact c2
      | 3, _ => exact c3
      | 4, _ => exact c4
      | 5, _ => exact c5
      | 6, _ => exact c6
      | 7, _ => exact c7
      | 8, _ => exact c8
      | 9, _ => exact c9
      | 10, _ => exact c10
      | 11, _ => exact c11
      | 12, _ => exact c12
      | 13, _ => exact c13
      | 14, _ => exact c14
      | 15, _ => exact c15
      | 16, _ => exact c16
      | 17, _ => exact c17
      | 18, _ => exact c18
      | n + 19, h => exact absurd h (by omega)
    · rw [Array.getElem?_eq_none (by omega), Array.getElem?_eq_none (by simp [itc]; omega)]
  rw [e]
  rfl

end Go.Proofs.YticmjlnpjopfbaaDoor
