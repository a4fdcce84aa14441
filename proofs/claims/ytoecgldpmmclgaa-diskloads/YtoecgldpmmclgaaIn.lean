/-
  What came in: calls, lists of calls, bytes.
-/
import Derived.Test.YtoecgldpmmclgaaNb
import Derived.Test.YtoecgldpmmclgaaBoB
import Derived.Deep.Slices
import Derived.ChangeSame
import Derived.OpenShut
namespace Go.Proofs.Ytoecgldpmmclgaa
open Go.ChangeShapes Go.WideShapes Go.ChangeAt Go.RowKit Go.Deep
set_option linter.unusedVariables false
set_option linter.unusedSimpArgs false

theorem cn3 : Try.prog.cellsOf 3 = 1 := by kernel_rfl
theorem cn5 : Try.prog.cellsOf 5 = 1 := by kernel_rfl
theorem cn28 : Try.prog.cellsOf 28 = 1 := by kernel_rfl
theorem cn30 : Try.prog.cellsOf 30 = 3 := by kernel_rfl
theorem has_i64 {x : Int} (h : (Lit.int .i64 x).wf = true) : -9223372036854775808 ≤ x ∧ x ≤ 9223372036854775807 := by
  have h1 : IntKind.i64.min = -9223372036854775808 := rfl
  have h2 : IntKind.i64.max = 9223372036854775807 := rfl
  simp only [Lit.wf, Bool.and_eq_true, decide_eq_true_eq] at h
  omega
theorem row_mk {kd : IntKind} {w : World} {x : Addr} {len cap : Nat} {zs : List Int} (hl : len ≤ cap) (hz : zs.length = cap)
    (hcell : ∀ i, i < zs.length → w.cell? (x.add i) = some (.int kd (zs.getD i 0))) (hwz : ∀ n ∈ zs, (Lit.int kd n).wf = true) : Row kd w (some x) len cap (zs.take len) where
  size := by simp; omega
  le := hl
  nil := fun h => by cases h
  wf := fun n hn => hwz n (List.mem_of_mem_take hn)
  mem := by
    by_cases h0 : len = 0
    · exact .inl h0
    · obtain ⟨b, off, spot⟩ := x
      have hc := hcell 0 (by omega)
      have hspot : spot = none := by simpa [Addr.add] using World.cell?_spot hc
      subst hspot
      refine .inr ⟨b, off, rfl, World.block_lt_of_cell? _ _ hc, fun k hk => ?_⟩
      have hc2 := hcell k (by omega)
      rw [← add_plain, hc2, List.getD_eq_getElem?_getD, List.getD_eq_getElem?_getD, List.getElem?_take, if_pos hk]
section
variable {H : Type} {enc : TypeId × Value → H} {W : World} {fuel : Nat} {x : DataW H × List MemPlace}
theorem open_bytes {v : Value} (hf : DataW.trod enc Try.prog W 0 (fun _ => true) true fuel 28 [v] = some x) : ∃ (a : Option Addr) (len cap : Nat) (zs : List Int), v = .slice a len cap ∧ Row .u8 W a len cap zs ∧ cap ≤ maxLen := by
  rcases open_ints Try.underlying28 Try.underlying5 cn5 hf with ⟨hcs, hx⟩ | ⟨ad, l, c, zs, hcs, _, hl, hm, hz, hx, hcell, hwz⟩
  · simp at hcs
    exact ⟨none, 0, 0, [], hcs, row_nil .u8 W, Nat.zero_le _⟩
  · simp at hcs
    have hz' : zs.length = c := by simpa using hz
    exact ⟨some ad, l, c, zs.take l, hcs, row_mk hl hz' hcell hwz, hm⟩
end
/-- A call, and its bytes. -/
structure ActS where
  kd : Int
  nn : Int
  a : Option Addr
  n : Nat
  c : Nat
  zs : List Int
def actsZ : ActS := ⟨0, 0, none, 0, 0, []⟩
def ActS.cells (q : ActS) : List Value := [.int .i64 q.kd, .int .i64 q.nn, .slice q.a q.n q.c]
structure ActOk (W : World) (q : ActS) : Prop where
  row : Row .u8 W q.a q.n q.c q.zs
  max : q.c ≤ maxLen
  nn : -9223372036854775808 ≤ q.nn ∧ q.nn ≤ 9223372036854775807
theorem list3 {α : Type} {l : List α} (h : l.length = 3) : ∃ v0 v1 v2, l = [v0, v1, v2] := by
  match l, h with
  | [v0, v1, v2], _ => exact ⟨v0, v1, v2, rfl⟩
theorem open_actc {H : Type} {enc : TypeId × Value → H} {W : World} {fuel : Nat} {cs : List Value} {x : DataW H × List MemPlace} (hl : cs.length = 3)
    (hf : DataW.trod enc Try.prog W 0 (fun _ => true) true fuel 30 cs = some x) : ∃ q : ActS, cs = q.cells ∧ ActOk W q := by
  obtain ⟨v0, v1, v2, rfl⟩ := list3 hl
  obtain ⟨xs, k, hk, hxy, _, hxl, hg⟩ := DataW.trod_struct Try.underlying30 hf
  match xs, hxl with
  | [y0, y1, y2], _ =>
  have e0 := hg 0 _ rfl
  have e1 := hg 1 _ rfl
  have e2 := hg 2 _ rfl
  simp [cn3] at e0 e1
  simp [cn28, cn3] at e2
  obtain ⟨x0, q0, _, w0⟩ := DataW.trod_int Try.underlying3 e0
  obtain ⟨x1, q1, _, w1⟩ := DataW.trod_int Try.underlying3 e1
  simp at q0 q1
  subst q0 q1
  obtain ⟨a, len, cap, zs, rfl, R, hm⟩ := open_bytes e2
  exact ⟨⟨x0, x1, a, len, cap, zs⟩, rfl, ⟨R, hm, has_i64 w1⟩⟩
set_option maxRecDepth 100000 in
theorem open_act {H : Type} {enc : TypeId × Value → H} {W : World} {r : Reach} {b : Nat} {v : Value} {d : DataW H} {ps : List MemPlace} (hv : Value.okWide Try.prog W r b 30 v) (h : DataW.Trod enc Try.prog W 0 (fun _ => true) true 30 v d ps) :
    ∃ q : ActS, v = act3 q.kd q.nn q.a q.n q.c ∧ ActOk W q := by
  simp only [Value.okWide, Try.underlying30] at hv
  obtain ⟨cs, rfl, hsz, _⟩ := hv
  rw [cn30] at hsz
  obtain ⟨fuel, hf⟩ := h
  obtain ⟨q, hcs, hq⟩ := open_actc (x := (d, ps)) (by simpa [Value.cells] using hsz) hf
  refine ⟨q, ?_, hq⟩
  have : cs = (cs.toList).toArray := by simp
  rw [this, show cs.toList = _ from hcs]
  rfl
/-- The calls that a slice value leads to. -/
structure RowA (w : World) (a : Option Addr) (len cap : Nat) (l : List ActS) : Prop where
  size : l.length = len
  le : len ≤ cap
  mem : len = 0 ∨ ∃ b off, a = some ⟨b, off, none⟩ ∧ b < w.heap.size ∧ ∀ j, j < len → w.rangeAt b (off + j * 3) (l.getD j actsZ).cells
  ok : ∀ q ∈ l, ActOk w q
theorem open_acts {H : Type} {enc : TypeId × Value → H} {W : World} {a : Option Addr} {len cap : Nat} {d : DataW H} {ps : List MemPlace}
    (h : DataW.Trod enc Try.prog W 0 (fun _ => true) true 22 (.slice a len cap) d ps) : ∃ l, RowA W a len cap l ∧ cap ≤ maxLen := by
  obtain ⟨fuel, hf⟩ := h
  rcases open_slice Try.underlying22 hf with ⟨hcs, hx⟩ | ⟨x, l, c, m, n, D, Pl, hcs, _, hl, hm, hmm, hx, hel⟩
  · simp [Value.cells] at hcs
    obtain ⟨rfl, rfl, rfl⟩ := hcs
    exact ⟨[], ⟨rfl, Nat.le_refl _, .inl rfl, fun q hq => by cases hq⟩, Nat.zero_le _⟩
  · simp [Value.cells] at hcs
    obtain ⟨rfl, rfl, rfl⟩ := hcs
    have hmc : m = cap := by simpa using hmm
    subst hmc
    rw [cn30] at hel
    have each : ∀ i, i < m → ∃ q : ActS, (∀ j v, q.cells[j]? = some v → W.cell? ((x.add (i * 3)).add j) = some v) ∧ ActOk W q := by
      intro i hi
      obtain ⟨cs', h1, h2⟩ := hel i hi
      obtain ⟨_, hlen, hcell⟩ := World.cells?_some h1
      obtain ⟨q, hcs', hq⟩ := open_actc hlen h2
      refine ⟨q, fun j v hj => ?_, hq⟩
      have hjl : j < 3 := (List.getElem?_eq_some_iff.1 hj).1
      have hc := hcell j hjl
      rw [hcs'] at hc
      rw [hc]
      exact hj
    have inh : Inhabited ActS := ⟨actsZ⟩
    obtain ⟨F, hF⟩ := choose_lt each
    have hget : ∀ j, j < len → ((List.range len).map F).getD j actsZ = F j := by
      intro j hj
      simp [List.getD, hj]
    refine ⟨(List.range len).map F, ⟨by simp, hl, ?_, ?_⟩, hm⟩
    · by_cases h0 : len = 0
      · exact .inl h0
      · obtain ⟨b, off, spot⟩ := x
        have hc := (hF 0 (by omega)).1 0 _ rfl
        have hspot : spot = none := by simpa [Addr.add] using World.cell?_spot hc
        subst hspot
        refine .inr ⟨b, off, rfl, World.block_lt_of_cell? _ _ hc, fun j hj => ?_⟩
        rw [hget j hj]
        intro i v hv
        have := (hF j (by omega)).1 i v hv
        rw [add_plain, add_plain] at this
        exact this
    · intro q hq
      obtain ⟨i, hi, rfl⟩ := List.mem_map.1 hq
      exact (hF i (by have := List.mem_range.1 hi; omega)).2
end Go.Proofs.Ytoecgldpmmclgaa
