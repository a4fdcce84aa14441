/-
  What came in: a list of what was seen.
-/
import Derived.Test.YteoiogjaecpddaaMS
import Derived.Test.YteoiogjaecpddaaIn
import Derived.Deep.Slices
import Derived.ChangeSame
import Derived.OpenShut
import Derived.SizedLaws
namespace Go.Proofs.Yteoiogjaecpddaa
open Go.ChangeShapes Go.WideShapes Go.ChangeAt Go.RowKit Go.Deep
set_option linter.unusedVariables false
set_option linter.unusedSimpArgs false
theorem sized_arg {H : Type} {ts : List TypeId} {ds : List (DataW H)} (h : (DataW.weightsEach Try.prog ts ds).all (· ≤ reachBytes) = true) {j : Nat} {t : TypeId} {d : DataW H} (ht : ts[j]? = some t) (hd : ds[j]? = some d) : ∀ k ∈ d.weights Try.prog t, k ≤ reachBytes := by
  intro k hk
  have := List.all_eq_true.1 h _ (DataW.weights_mem_each ht hd k hk)
  simpa using this
theorem cn33 : Try.prog.cellsOf 33 = 4 := by kernel_rfl
theorem by33 : Try.prog.bytesOf 33 = 32 := by kernel_rfl
theorem range_csS {W : World} {b off : Nat} {l : List SN} (h : ∀ j, j < l.length → W.rangeAt b (off + j * 4) (l.getD j SN.z).cells) : W.rangeAt b off (csS l) := by
  intro q v hv
  have hq := (List.getElem?_eq_some_iff.1 hv).1
  rw [csS_len] at hq
  have e := csS_get l (q / 4) (q % 4) _ (get_zS l (q / 4) (by omega)) (by omega)
  rw [show 4 * (q / 4) + q % 4 = q by omega, hv] at e
  have := h (q / 4) (by omega) (q % 4) v e.symm
  rw [show off + q / 4 * 4 + q % 4 = off + q by omega] at this
  exact this
theorem open_cS {H : Type} {enc : TypeId × Value → H} {W : World} {fuel : Nat} {cs : List Value} {x : DataW H × List MemPlace} (hl : cs.length = 4)
    (hf : DataW.trod enc Try.prog W 0 (fun _ => true) true fuel 33 cs = some x) : ∃ q : SN, cs = q.cells := by
  match cs, hl with
  | [v0, v1, v2, v3], _ =>
  obtain ⟨xs, k, hk, hxy, _, hxl, hg⟩ := DataW.trod_struct Try.underlying33 hf
  match xs, hxl with
  | [y0, y1, y2, y3], _ =>
  have e0 := hg 0 _ rfl
  have e1 := hg 1 _ rfl
  have e2 := hg 2 _ rfl
  have e3 := hg 3 _ rfl
  simp [cn2, cn3, cn4] at e0 e1 e2 e3
  obtain ⟨x0, q0, _, w0⟩ := DataW.trod_int Try.underlying3 e0
  obtain ⟨x1, q1, _, w1⟩ := DataW.trod_int Try.underlying2 e1
  obtain ⟨x2, q2, _, w2⟩ := DataW.trod_int Try.underlying2 e2
  obtain ⟨x3, q3, _, w3⟩ := DataW.trod_int Try.underlying2 e3
  simp at q0 q1 q2 q3
  subst q0 q1 q2 q3
  exact ⟨⟨x0, x1, x2, x3⟩, rfl⟩
theorem open_lS {H : Type} {enc : TypeId × Value → H} {W : World} {a : Option Addr} {len cap : Nat} {d : DataW H} {ps : List MemPlace} (h : DataW.Trod enc Try.prog W 0 (fun _ => true) true 22 (.slice a len cap) d ps) (hB : ∀ k ∈ d.weights Try.prog 22, k ≤ reachBytes) :
    ∃ l : List SN, RdS W a len cap l := by
  obtain ⟨fuel, hf⟩ := h
  rcases open_slice Try.underlying22 hf with ⟨hcs, hx⟩ | ⟨x, len, c, m, n, D, Pl, hcs, _, hl, hm, hmm, hx, hel⟩
  · simp [Value.cells] at hcs
    obtain ⟨rfl, rfl, rfl⟩ := hcs
    exact ⟨[], rdS_nil _⟩
  · simp [Value.cells] at hcs
    obtain ⟨rfl, rfl, rfl⟩ := hcs
    have hmc : m = cap := by simpa using hmm
    subst hmc
    simp only [Prod.mk.injEq] at hx
    obtain ⟨hd, _⟩ := hx
    rw [cn33] at hel
    have each : ∀ i, i < m → ∃ q : SN, (∀ j v, q.cells[j]? = some v → W.cell? ((x.add (i * 4)).add j) = some v) := by
      intro i hi
      obtain ⟨cs', h1, h2⟩ := hel i hi
      obtain ⟨_, hlen, hcell⟩ := World.cells?_some h1
      obtain ⟨q, hcs'⟩ := open_cS hlen h2
      refine ⟨q, fun j v hj => ?_⟩
      have hjl : j < 4 := (List.getElem?_eq_some_iff.1 hj).1
      have hc := hcell j hjl
      rw [hcs'] at hc
      rw [hc]
      exact hj
    haveI : Inhabited SN := ⟨SN.z⟩
    obtain ⟨F, hF⟩ := choose_lt each
    have h0 := hB (m * 32) (by
      rw [hd]
      simp only [DataW.weights, Try.underlying22]
      refine List.mem_cons.2 (.inl ?_)
      rw [by33]
      simp only [List.length_map, List.length_range, List.length_take, List.length_drop]
      first | omega | (simp; omega))
    unfold reachBytes at h0
    have hlen : ((List.range len).map F).length = len := by simp
    refine ⟨(List.range len).map F, hlen, by omega, by omega, ?_⟩
    by_cases h0 : len = 0
    · exact .inr (.inl ⟨h0, x, rfl⟩)
    · obtain ⟨b, off, spot⟩ := x
      have hc := (hF 0 (by omega)) 0 _ rfl
      have hspot : spot = none := by simpa [Addr.add] using World.cell?_spot hc
      subst hspot
      refine .inr (.inr ⟨b, off, rfl, World.block_lt_of_cell? _ _ hc, range_csS fun j hj => ?_⟩)
      rw [hlen] at hj
      have hget : ((List.range len).map F).getD j SN.z = F j := by rw [List.getD_eq_getElem?_getD]; simp [hj]
      rw [hget]
      intro i v hv
      have := (hF j (by omega)) i v hv
      rw [add_plain', add_plain'] at this
      exact this
end Go.Proofs.Yteoiogjaecpddaa
