/-
  What came in: extreme values, and lists of them.
-/
import Derived.Test.YtoeebofappbneaaGreatEX0
import Derived.Deep.Slices
import Derived.Deep.MidRow
import Derived.ChangeSame
import Derived.OpenShut
namespace Go.Proofs.YtoeebofappbneaaGreat.E
open Go.ChangeShapes Go.WideShapes Go.ChangeAt Go.RowKit Go.Deep
set_option linter.unusedVariables false
set_option linter.unusedSimpArgs false

theorem cn2 : Tryz.prog.cellsOf 2 = 1 := by kernel_rfl
theorem cn3 : Tryz.prog.cellsOf 3 = 1 := by kernel_rfl
theorem cn4 : Tryz.prog.cellsOf 4 = 1 := by kernel_rfl
theorem cn23 : Tryz.prog.cellsOf 38 = 4 := by kernel_rfl
abbrev EX.l (x : EX) : List Value := [.bool x.h, .int .i64 x.v, .int .i64 x.o, .int .i64 x.g]
theorem list4 {α : Type} {l : List α} (h : l.length = 4) : ∃ v0 v1 v2 v3, l = [v0, v1, v2, v3] := by
  match l, h with
  | [v0, v1, v2, v3], _ => exact ⟨v0, v1, v2, v3, rfl⟩
theorem open_extc {H : Type} {enc : TypeId × Value → H} {W : World} {fuel : Nat} {cs : List Value} {x : DataW H × List MemPlace} (hl : cs.length = 4)
    (hf : DataW.trod enc Tryz.prog W 0 (fun _ => true) true fuel 38 cs = some x) : ∃ q : EX, cs = q.l := by
  obtain ⟨v0, v1, v2, v3, rfl⟩ := list4 hl
  obtain ⟨xs, k, hk, hxy, _, hxl, hg⟩ := DataW.trod_struct Tryz.underlying38 hf
  match xs, hxl with
  | [y0, y1, y2, y3], _ =>
  have e0 := hg 0 _ rfl
  have e1 := hg 1 _ rfl
  have e2 := hg 2 _ rfl
  have e3 := hg 3 _ rfl
  simp [cn2, cn3, cn4] at e0 e1 e2 e3
  obtain ⟨x0, q0, _⟩ := DataW.trod_bool Tryz.underlying4 e0
  obtain ⟨x1, q1, _, w1⟩ := DataW.trod_int Tryz.underlying2 e1
  obtain ⟨x2, q2, _, w2⟩ := DataW.trod_int Tryz.underlying3 e2
  obtain ⟨x3, q3, _, w3⟩ := DataW.trod_int Tryz.underlying2 e3
  simp at q0 q1 q2 q3
  subst q0 q1 q2 q3
  exact ⟨⟨x0, x1, x2, x3⟩, rfl⟩
set_option maxRecDepth 100000 in
theorem open_ext {H : Type} {enc : TypeId × Value → H} {W : World} {r : Reach} {b : Nat} {v : Value} {d : DataW H} {ps : List MemPlace} (hv : Value.okWide Tryz.prog W r b 38 v) (h : DataW.Trod enc Tryz.prog W 0 (fun _ => true) true 38 v d ps) :
    ∃ q : EX, v = q.val := by
  simp only [Value.okWide, Tryz.underlying38] at hv
  obtain ⟨cs, rfl, hsz, _⟩ := hv
  rw [cn23] at hsz
  obtain ⟨fuel, hf⟩ := h
  obtain ⟨q, hcs⟩ := open_extc (x := (d, ps)) (by simpa [Value.cells] using hsz) hf
  refine ⟨q, ?_⟩
  have : cs = (cs.toList).toArray := by simp
  rw [this, show cs.toList = _ from hcs]
theorem add_plain (g o j : Nat) : (⟨g, o, none⟩ : Addr).add j = ⟨g, o + j, none⟩ := by unfold Addr.add; split <;> simp_all
/-- The values that a slice leads to. -/
structure Exs (W : World) (a : Option Addr) (n : Nat) (l : List EX) : Prop where
  size : l.length = n
  max : n ≤ 9223372036854775807
  mem : n = 0 ∨ ∃ b off, a = some ⟨b, off, none⟩ ∧ b < W.heap.size ∧ ∀ j (h : j < l.length), W.rangeAt b (off + j * 4) (l[j]'h).l
end Go.Proofs.YtoeebofappbneaaGreat.E
