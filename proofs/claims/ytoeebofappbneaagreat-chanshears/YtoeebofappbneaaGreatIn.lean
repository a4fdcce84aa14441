/-
  What came in: records, and lists of them.
-/
import Derived.Test.YtoeebofappbneaaGreatMC
import Derived.Deep.Slices
import Derived.ChangeSame
import Derived.OpenShut
import Derived.SizedLaws
namespace Go.Proofs.YtoeebofappbneaaGreat
open Go.ChangeShapes Go.WideShapes Go.ChangeAt Go.RowKit Go.Deep
set_option linter.unusedVariables false
set_option linter.unusedSimpArgs false
theorem sized_arg {H : Type} {ts : List TypeId} {ds : List (DataW H)} (h : (DataW.weightsEach Tryz.prog ts ds).all (· ≤ reachBytes) = true) {j : Nat} {t : TypeId} {d : DataW H} (ht : ts[j]? = some t) (hd : ds[j]? = some d) : ∀ k ∈ d.weights Tryz.prog t, k ≤ reachBytes := by
  intro k hk
  have := List.all_eq_true.1 h _ (DataW.weights_mem_each ht hd k hk)
  simpa using this
theorem cn2 : Tryz.prog.cellsOf 2 = 1 := by kernel_rfl
theorem cn3 : Tryz.prog.cellsOf 3 = 1 := by kernel_rfl
theorem cn4 : Tryz.prog.cellsOf 4 = 1 := by kernel_rfl
theorem cn9 : Tryz.prog.cellsOf 9 = 1 := by kernel_rfl
theorem cn23 : Tryz.prog.cellsOf 47 = 6 := by kernel_rfl
theorem by23 : Tryz.prog.bytesOf 47 = 56 := by kernel_rfl
theorem add_plain' (g o j : Nat) : (⟨g, o, none⟩ : Addr).add j = ⟨g, o + j, none⟩ := by unfold Addr.add; split <;> simp_all
theorem range_csC {W : World} {b off : Nat} {l : List CH} (h : ∀ j, j < l.length → W.rangeAt b (off + j * 6) (l.getD j CH.z).cells) : W.rangeAt b off (csC l) := by
  intro q v hv
  have hq := (List.getElem?_eq_some_iff.1 hv).1
  rw [csC_len] at hq
  have e := csC_get l (q / 6) (q % 6) _ (get_zC l (q / 6) (by omega)) (by omega)
  rw [show 6 * (q / 6) + q % 6 = q by omega, hv] at e
  have := h (q / 6) (by omega) (q % 6) v e.symm
  rw [show off + q / 6 * 6 + q % 6 = off + q by omega] at this
  exact this
theorem open_cC {H : Type} {enc : TypeId × Value → H} {W : World} {fuel : Nat} {cs : List Value} {x : DataW H × List MemPlace} (hl : cs.length = 6)
    (hf : DataW.trod enc Tryz.prog W 0 (fun _ => true) true fuel 47 cs = some x) : ∃ q : CH, cs = q.cells ∧ (q.nm.size : Int) ≤ 9223372036854775807 := by
  match cs, hl with
  | [v0, v1, v2, v3, v4, v5], _ =>
  obtain ⟨xs, k, hk, hxy, _, hxl, hg⟩ := DataW.trod_struct Tryz.underlying47 hf
  match xs, hxl with
  | [y0, y1, y2, y3, y4, y5], _ =>
  have e0 := hg 0 _ rfl
  have e1 := hg 1 _ rfl
  have e2 := hg 2 _ rfl
  have e3 := hg 3 _ rfl
  have e4 := hg 4 _ rfl
  have e5 := hg 5 _ rfl
  simp [cn2, cn3, cn4, cn9] at e0 e1 e2 e3 e4 e5
  obtain ⟨x0, q0, _, s0⟩ := DataW.trod_string Tryz.underlying9 e0
  obtain ⟨x1, q1, _, w1⟩ := DataW.trod_int Tryz.underlying2 e1
  obtain ⟨x2, q2, _, w2⟩ := DataW.trod_int Tryz.underlying3 e2
  obtain ⟨x3, q3, _⟩ := DataW.trod_bool Tryz.underlying4 e3
  obtain ⟨x4, q4, _, w4⟩ := DataW.trod_int Tryz.underlying3 e4
  obtain ⟨x5, q5, _, w5⟩ := DataW.trod_int Tryz.underlying2 e5
  simp at q0 q1 q2 q3 q4 q5
  subst q0 q1 q2 q3 q4 q5
  exact ⟨⟨x0, x1, x2, x3, x4, x5⟩, rfl, by unfold maxLen at s0; show (x0.size : Int) ≤ _; omega⟩
set_option maxRecDepth 100000 in
theorem open_chan {H : Type} {enc : TypeId × Value → H} {W : World} {r : Reach} {b : Nat} {v : Value} {d : DataW H} {ps : List MemPlace} (hv : Value.okWide Tryz.prog W r b 47 v) (h : DataW.Trod enc Tryz.prog W 0 (fun _ => true) true 47 v d ps) :
    ∃ (n : ByteArray) (e m : Int) (a : Bool) (k s : Int), v = .agg #[.string n, .int .i64 e, .int .i64 m, .bool a, .int .i64 k, .int .i64 s] ∧ Hid ((n.size : Int) ≤ 9223372036854775807) := by
  simp only [Value.okWide, Tryz.underlying47] at hv
  obtain ⟨cs, rfl, hsz, _⟩ := hv
  rw [cn23] at hsz
  obtain ⟨fuel, hf⟩ := h
  obtain ⟨⟨n, e, m, a, k, s⟩, hcs, hs⟩ := open_cC (x := (d, ps)) (by simpa [Value.cells] using hsz) hf
  refine ⟨n, e, m, a, k, s, ?_, hs⟩
  have : cs = (cs.toList).toArray := by simp
  rw [this, show cs.toList = _ from hcs]
  rfl
theorem open_chans {H : Type} {enc : TypeId × Value → H} {W : World} {a : Option Addr} {len cap : Nat} {d : DataW H} {ps : List MemPlace} (h : DataW.Trod enc Tryz.prog W 0 (fun _ => true) true 44 (.slice a len cap) d ps) (hB : ∀ k ∈ d.weights Tryz.prog 44, k ≤ reachBytes) :
    ∃ l : List CH, RdC W a len cap l ∧ Hid (∀ x, x ∈ l → (x.nm.size : Int) ≤ 9223372036854775807) := by
  obtain ⟨fuel, hf⟩ := h
  rcases open_slice Tryz.underlying44 hf with ⟨hcs, hx⟩ | ⟨x, len, c, m, n, D, Pl, hcs, _, hl, hm, hmm, hx, hel⟩
  · simp [Value.cells] at hcs
    obtain ⟨rfl, rfl, rfl⟩ := hcs
    exact ⟨[], rdC_nil _, fun x hx => by cases hx⟩
  · simp [Value.cells] at hcs
    obtain ⟨rfl, rfl, rfl⟩ := hcs
    have hmc : m = cap := by simpa using hmm
    subst hmc
    simp only [Prod.mk.injEq] at hx
    obtain ⟨hd, _⟩ := hx
    rw [cn23] at hel
    have each : ∀ i, i < m → ∃ q : CH, (∀ j v, q.cells[j]? = some v → W.cell? ((x.add (i * 6)).add j) = some v) ∧ (q.nm.size : Int) ≤ 9223372036854775807 := by
      intro i hi
      obtain ⟨cs', h1, h2⟩ := hel i hi
      obtain ⟨_, hlen, hcell⟩ := World.cells?_some h1
      obtain ⟨q, hcs', hs⟩ := open_cC hlen h2
      refine ⟨q, fun j v hj => ?_, hs⟩
      have hjl : j < 6 := (List.getElem?_eq_some_iff.1 hj).1
      have hc := hcell j hjl
      rw [hcs'] at hc
      rw [hc]
      exact hj
    haveI : Inhabited CH := ⟨CH.z⟩
    obtain ⟨F, hF⟩ := choose_lt each
    have h0 := hB (m * 56) (by
      rw [hd]
      simp only [DataW.weights, Tryz.underlying44]
      refine List.mem_cons.2 (.inl ?_)
      rw [by23]
      simp only [List.length_map, List.length_range, List.length_take, List.length_drop]
      first | omega | (simp; omega))
    unfold reachBytes at h0
    have hlen : ((List.range len).map F).length = len := by simp
    refine ⟨(List.range len).map F, ⟨hlen, by omega, by omega, ?_⟩, fun y hy => ?_⟩
    · by_cases h0 : len = 0
      · exact .inr (.inl ⟨h0, x, rfl⟩)
      · obtain ⟨b, off, spot⟩ := x
        have hc := (hF 0 (by omega)).1 0 _ rfl
        have hspot : spot = none := by simpa [Addr.add] using World.cell?_spot hc
        subst hspot
        refine .inr (.inr ⟨b, off, rfl, World.block_lt_of_cell? _ _ hc, range_csC fun j hj => ?_⟩)
        rw [hlen] at hj
        have hget : ((List.range len).map F).getD j CH.z = F j := by rw [List.getD_eq_getElem?_getD]; simp [hj]
        rw [hget]
        intro i v hv
        have := (hF j (by omega)).1 i v hv
        rw [add_plain', add_plain'] at this
        exact this
    · obtain ⟨j, hj, rfl⟩ := List.mem_map.1 hy
      exact (hF j (by have := List.mem_range.1 hj; omega)).2
end Go.Proofs.YtoeebofappbneaaGreat
