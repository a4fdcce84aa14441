/-
  What came in: states, of any size.
-/
import Derived.Test.YtoeebofappbneaaGreatQ4
import Derived.Test.YtoeebofappbneaaGreatIn
import Derived.Test.YtoeebofappbneaaGreatEIn
namespace Go.Proofs.YtoeebofappbneaaGreat
open Go.ChangeShapes Go.WideShapes Go.ChangeAt Go.RowKit Go.Deep
set_option linter.unusedVariables false
set_option linter.unusedSimpArgs false

theorem cn33 : Tryz.prog.cellsOf 38 = 4 := by kernel_rfl
theorem cn35 : Tryz.prog.cellsOf 49 = 16 := by kernel_rfl
theorem by35 : Tryz.prog.bytesOf 49 = 136 := by kernel_rfl
theorem range_csT {W : World} {b off : Nat} {l : List ST} (h : ∀ j, j < l.length → W.rangeAt b (off + j * 16) (l.getD j ST.z).cells) : W.rangeAt b off (csT l) := by
  intro q v hv
  have hq : q < 16 * l.length := by rw [← csT_len]; exact (List.getElem?_eq_some_iff.1 hv).1
  have e := csT_get l (q / 16) (q % 16) _ (get_zT l (q / 16) (by omega)) (Nat.mod_lt _ (by decide))
  rw [show 16 * (q / 16) + q % 16 = q by omega, hv] at e
  have := h (q / 16) (by omega) (q % 16) v e.symm
  rw [show off + q / 16 * 16 + q % 16 = off + q by omega] at this
  exact this
set_option maxRecDepth 100000 in
theorem open_cT {H : Type} {enc : TypeId × Value → H} {W : World} {fuel : Nat} {cs : List Value} {x : DataW H × List MemPlace} (hl : cs.length = 16)
    (hf : DataW.trod enc Tryz.prog W 0 (fun _ => true) true fuel 49 cs = some x) : ∃ q : ST, cs = q.cells ∧ (q.c.nm.size : Int) ≤ 9223372036854775807 := by
  match cs, hl with
  | [v0, v1, v2, v3, v4, v5, v6, v7, v8, v9, v10, v11, v12, v13, v14, v15], _ =>
  obtain ⟨xs, k, hk, hxy, _, hxl, hg⟩ := DataW.trod_struct Tryz.underlying49 hf
  match xs, hxl with
  | [y0, y1, y2, y3, y4], _ =>
  have e0 := hg 0 _ rfl
  have e1 := hg 1 _ rfl
  have e2 := hg 2 _ rfl
  have e3 := hg 3 _ rfl
  have e4 := hg 4 _ rfl
  simp [cn2, cn3, cn4, cn9, cn23, cn33] at e0 e1 e2 e3 e4
  obtain ⟨c, hc, hs⟩ := open_cC rfl e0
  obtain ⟨x1, q1, _⟩ := DataW.trod_bool Tryz.underlying4 e1
  obtain ⟨x2, q2, _, w2⟩ := DataW.trod_int Tryz.underlying2 e2
  obtain ⟨a, ha⟩ := E.open_extc rfl e3
  obtain ⟨b, hb⟩ := E.open_extc rfl e4
  obtain ⟨c0, c1, c2, c3, c4, c5⟩ := c
  obtain ⟨a0, a1, a2, a3⟩ := a
  obtain ⟨b0, b1, b2, b3⟩ := b
  simp [CH.cells, E.EX.l] at q1 q2 hc ha hb
  refine ⟨⟨⟨c0, c1, c2, c3, c4, c5⟩, x1, x2, ⟨a0, a1, a2, a3⟩, ⟨b0, b1, b2, b3⟩⟩, ?_, hs⟩
  simp [ST.cells, q1, q2, hc, ha, hb]
theorem open_states {H : Type} {enc : TypeId × Value → H} {W : World} {a : Option Addr} {len cap : Nat} {d : DataW H} {ps : List MemPlace} (h : DataW.Trod enc Tryz.prog W 0 (fun _ => true) true 22 (.slice a len cap) d ps) (hB : ∀ k ∈ d.weights Tryz.prog 22, k ≤ reachBytes) :
    ∃ l : List ST, RdT W a len cap l ∧ Hid (∀ x, x ∈ recs l → (x.nm.size : Int) ≤ 9223372036854775807) := by
  obtain ⟨fuel, hf⟩ := h
  rcases open_slice Tryz.underlying22 hf with ⟨hcs, hx⟩ | ⟨x, len, c, m, n, D, Pl, hcs, _, hl, hm, hmm, hx, hel⟩
  · simp [Value.cells] at hcs
    obtain ⟨rfl, rfl, rfl⟩ := hcs
    exact ⟨[], rdT_nil _, fun x hx => by cases hx⟩
  · simp [Value.cells] at hcs
    obtain ⟨rfl, rfl, rfl⟩ := hcs
    have hmc : m = cap := by simpa using hmm
    subst hmc
    simp only [Prod.mk.injEq] at hx
    obtain ⟨hd, _⟩ := hx
    rw [cn35] at hel
    have each : ∀ i, i < m → ∃ q : ST, (∀ j v, q.cells[j]? = some v → W.cell? ((x.add (i * 16)).add j) = some v) ∧ (q.c.nm.size : Int) ≤ 9223372036854775807 := by
      intro i hi
      obtain ⟨cs', h1, h2⟩ := hel i hi
      obtain ⟨_, hlen, hcell⟩ := World.cells?_some h1
      obtain ⟨q, hcs', hs⟩ := open_cT hlen h2
      refine ⟨q, fun j v hj => ?_, hs⟩
      have hjl : j < 16 := (List.getElem?_eq_some_iff.1 hj).1
      have hc := hcell j hjl
      rw [hcs'] at hc
      rw [hc]
      exact hj
    haveI : Inhabited ST := ⟨ST.z⟩
    obtain ⟨F, hF⟩ := choose_lt each
    have h0 := hB (m * 136) (by
      rw [hd]
      simp only [DataW.weights, Tryz.underlying22]
      refine List.mem_cons.2 (.inl ?_)
      rw [by35]
      simp only [List.length_map, List.length_range, List.length_take, List.length_drop]
      first | omega | (simp; omega))
    unfold reachBytes at h0
    have hlen : ((List.range len).map F).length = len := by simp
    refine ⟨(List.range len).map F, ⟨hlen, by omega, by omega, ?_⟩, fun y hy => ?_⟩
    · by_cases h0 : len = 0
      · exact .inr (.inl ⟨h0, x, rfl⟩)
      · obtain ⟨b, off, spot⟩ := x
        have hc := (hF 0 (by omega)).1 0 _ rfl
        have hspot : spot = none := by simpa [Addr.add] using World.cell?_spot hc
        subst hspot
        refine .inr (.inr ⟨b, off, rfl, World.block_lt_of_cell? _ _ hc, range_csT fun j hj => ?_⟩)
        rw [hlen] at hj
        have hget : ((List.range len).map F).getD j ST.z = F j := by rw [List.getD_eq_getElem?_getD]; simp [hj]
        rw [hget]
        intro i v hv
        have := (hF j (by omega)).1 i v hv
        rw [add_plain', add_plain'] at this
        exact this
    · obtain ⟨s, hs, rfl⟩ := List.mem_map.1 hy
      obtain ⟨j, hj, rfl⟩ := List.mem_map.1 hs
      exact (hF j (by have := List.mem_range.1 hj; omega)).2
end Go.Proofs.YtoeebofappbneaaGreat
