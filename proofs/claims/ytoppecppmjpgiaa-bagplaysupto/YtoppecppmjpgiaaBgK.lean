/-
  What came in: a call; the law BagNobody, walked.
-/
import Derived.Test.YtoppecppmjpgiaaBgJ
import Derived.Test.YtoppecppmjpgiaaBgO
import Derived.Deep.Slices
import Derived.ChangeSame
import Derived.OpenShut
namespace Go.Proofs.Ytoppecppmjpgiaa
open Go.ChangeShapes Go.WideShapes Go.ChangeAt Go.RowKit Go.Deep
set_option linter.unusedVariables false
set_option linter.unusedSimpArgs false

theorem cn2 : Try.prog.cellsOf 2 = 1 := by kernel_rfl
theorem cn3 : Try.prog.cellsOf 3 = 1 := by kernel_rfl
theorem cn9 : Try.prog.cellsOf 9 = 1 := by kernel_rfl
theorem cn40 : Try.prog.cellsOf 40 = 5 := by kernel_rfl
theorem has_i64 {x : Int} (h : (Lit.int .i64 x).wf = true) : I64 x := by
  have h1 : IntKind.i64.min = -9223372036854775808 := rfl
  have h2 : IntKind.i64.max = 9223372036854775807 := rfl
  simp only [Lit.wf, Bool.and_eq_true, decide_eq_true_eq] at h
  unfold I64
  omega
/-- A call. -/
structure ActS where
  kd : Int
  nn : Int
  x : Int
  y : Int
  s : ByteArray
structure ActOk (q : ActS) : Prop where
  nn : I64 q.nn
  x : I64 q.x
  y : I64 q.y
theorem list5 {α : Type} {l : List α} (h : l.length = 5) : ∃ v0 v1 v2 v3 v4, l = [v0, v1, v2, v3, v4] := by
  match l, h with
  | [v0, v1, v2, v3, v4], _ => exact ⟨v0, v1, v2, v3, v4, rfl⟩
theorem open_actc {H : Type} {enc : TypeId × Value → H} {W : World} {fuel : Nat} {cs : List Value} {x : DataW H × List MemPlace} (hl : cs.length = 5)
    (hf : DataW.trod enc Try.prog W 0 (fun _ => true) true fuel 40 cs = some x) : ∃ q : ActS, cs = [.int .i64 q.kd, .int .i64 q.nn, .int .i64 q.x, .int .i64 q.y, .string q.s] ∧ ActOk q := by
  obtain ⟨v0, v1, v2, v3, v4, rfl⟩ := list5 hl
  obtain ⟨xs, k, hk, hxy, _, hxl, hg⟩ := DataW.trod_struct Try.underlying40 hf
  match xs, hxl with
  | [y0, y1, y2, y3, y4], _ =>
  have e0 := hg 0 _ rfl
  have e1 := hg 1 _ rfl
  have e2 := hg 2 _ rfl
  have e3 := hg 3 _ rfl
  have e4 := hg 4 _ rfl
  simp [cn2, cn3, cn9] at e0 e1 e2 e3 e4
  obtain ⟨x0, q0, _, w0⟩ := DataW.trod_int Try.underlying3 e0
  obtain ⟨x1, q1, _, w1⟩ := DataW.trod_int Try.underlying2 e1
  obtain ⟨x2, q2, _, w2⟩ := DataW.trod_int Try.underlying3 e2
  obtain ⟨x3, q3, _, w3⟩ := DataW.trod_int Try.underlying3 e3
  simp at q0 q1 q2 q3
  subst q0 q1 q2 q3
  obtain ⟨x4, q4, _, w4⟩ := DataW.trod_string Try.underlying9 e4
  simp at q4
  subst q4
  exact ⟨⟨x0, x1, x2, x3, x4⟩, rfl, ⟨has_i64 w1, has_i64 w2, has_i64 w3⟩⟩
set_option maxRecDepth 100000 in
theorem open_act {H : Type} {enc : TypeId × Value → H} {W : World} {r : Reach} {b : Nat} {v : Value} {d : DataW H} {ps : List MemPlace} (hv : Value.okWide Try.prog W r b 40 v) (h : DataW.Trod enc Try.prog W 0 (fun _ => true) true 40 v d ps) :
    ∃ q : ActS, v = act5 q.kd q.nn q.x q.y q.s ∧ ActOk q := by
  simp only [Value.okWide, Try.underlying40] at hv
  obtain ⟨cs, rfl, hsz, _⟩ := hv
  rw [cn40] at hsz
  obtain ⟨fuel, hf⟩ := h
  obtain ⟨q, hcs, hq⟩ := open_actc (x := (d, ps)) (by simpa [Value.cells] using hsz) hf
  refine ⟨q, ?_, hq⟩
  have : cs = (cs.toList).toArray := by simp
  rw [this, show cs.toList = _ from hcs]
theorem awake : Awake := awake_any
end Go.Proofs.Ytoppecppmjpgiaa
