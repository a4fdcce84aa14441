/-
  What came in: records, and lists of them.
-/
import Derived.Test.YtpdmpekkmblgmaaML
import Derived.Deep.Slices
import Derived.ChangeSame
import Derived.OpenShut
import Derived.SizedLaws
namespace Go.Proofs.Ytpdmpekkmblgmaa
open Go.ChangeShapes Go.WideShapes Go.ChangeAt Go.RowKit Go.Deep
set_option linter.unusedVariables false
set_option linter.unusedSimpArgs false
theorem sized_arg {H : Type} {ts : List TypeId} {ds : List (DataW H)} (h : (DataW.weightsEach Try.prog ts ds).all (· ≤ reachBytes) = true) {j : Nat} {t : TypeId} {d : DataW H} (ht : ts[j]? = some t) (hd : ds[j]? = some d) : ∀ k ∈ d.weights Try.prog t, k ≤ reachBytes := by
  intro k hk
  have := List.all_eq_true.1 h _ (DataW.weights_mem_each ht hd k hk)
  simpa using this
theorem cn3 : Try.prog.cellsOf 3 = 1 := by kernel_rfl
theorem cn49 : Try.prog.cellsOf 49 = 2 := by kernel_rfl
theorem by49 : Try.prog.bytesOf 49 = 16 := by kernel_rfl
theorem add_plain' (g o j : Nat) : (⟨g, o, none⟩ : Addr).add j = ⟨g, o + j, none⟩ := by unfold Addr.add; split <;> simp_all
theorem range_csL {W : World} {b off : Nat} {l : List LK} (h : ∀ j, j < l.length → W.rangeAt b (off + j * 2) (l.getD j LK.z).cells) : W.rangeAt b off (csL l) := by
  intro q v hv
  have hq := (List.getElem?_eq_some_iff.1 hv).1
  rw [csL_len] at hq
  have e := csL_get l (q / 2) (q % 2) _ (get_zL l (q / 2) (by omega)) (by omega)
  rw [show 2 * (q / 2) + q % 2 = q by omega, hv] at e
  have := h (q / 2) (by omega) (q % 2) v e.symm
  rw [show off + q / 2 * 2 + q % 2 = off + q by omega] at this
  exact this
theorem open_cL {H : Type} {enc : TypeId × Value → H} {W : World} {fuel : Nat} {cs : List Value} {x : DataW H × List MemPlace} (hl : cs.length = 2)
    (hf : DataW.trod enc Try.prog W 0 (fun _ => true) true fuel 49 cs = some x) : ∃ q : LK, cs = q.cells := by
  match cs, hl with
  | [v0, v1], _ =>
  obtain ⟨xs, k, hk, hxy, _, hxl, hg⟩ := DataW.trod_struct Try.underlying49 hf
  match xs, hxl with
  | [y0, y1], _ =>
  have e0 := hg 0 _ rfl
  have e1 := hg 1 _ rfl
  simp [cn3] at e0 e1
  obtain ⟨x0, q0, _, w0⟩ := DataW.trod_int Try.underlying3 e0
  obtain ⟨x1, q1, _, w1⟩ := DataW.trod_int Try.underlying3 e1
  simp at q0 q1
  subst q0 q1
  exact ⟨(x0, x1), rfl⟩
theorem open_links {H : Type} {enc : TypeId × Value → H} {W : World} {a : Option Addr} {len cap : Nat} {d : DataW H} {ps : List MemPlace} (h : DataW.Trod enc Try.prog W 0 (fun _ => true) true 23 (.slice a len cap) d ps) (hB : ∀ k ∈ d.weights Try.prog 23, k ≤ reachBytes) :
    ∃ l : List LK, RdL W a len cap l := by
  obtain ⟨fuel, hf⟩ := h
  rcases open_slice Try.underlying23 hf with ⟨hcs, hx⟩ | ⟨x, len, c, m, n, D, Pl, hcs, _, hl, hm, hmm, hx, hel⟩
  · simp [Value.cells] at hcs
    obtain ⟨rfl, rfl, rfl⟩ := hcs
    exact ⟨[], rdL_nil _⟩
  · simp [Value.cells] at hcs
    obtain ⟨rfl, rfl, rfl⟩ := hcs
    have hmc : m = cap := by simpa using hmm
    subst hmc
    simp only [Prod.mk.injEq] at hx
    obtain ⟨hd, _⟩ := hx
    rw [cn49] at hel
    have each : ∀ i, i < m → ∃ q : LK, (∀ j v, q.cells[j]? = some v → W.cell? ((x.add (i * 2)).add j) = some v) := by
      intro i hi
      obtain ⟨cs', h1, h2⟩ := hel i hi
      obtain ⟨_, hlen, hcell⟩ := World.cells?_some h1
      obtain ⟨q, hcs'⟩ := open_cL hlen h2
      refine ⟨q, fun j v hj => ?_⟩
      have hjl : j < 2 := (List.getElem?_eq_some_iff.1 hj).1
      have hc := hcell j hjl
      rw [hcs'] at hc
      rw [hc]
      exact hj
    haveI : Inhabited LK := ⟨LK.z⟩
    obtain ⟨F, hF⟩ := choose_lt each
    have h0 := hB (m * 16) (by
      rw [hd]
      simp only [DataW.weights, Try.underlying23]
      refine List.mem_cons.2 (.inl ?_)
      rw [by49]
      simp only [List.length_map, List.length_range, List.length_take, List.length_drop]
      first | omega | (simp; omega))
    unfold reachBytes at h0
    have hlen : ((List.range len).map F).length = len := by simp
    refine ⟨(List.range len).map F, ⟨hlen, by omega, by omega, ?_⟩⟩
    by_cases h0 : len = 0
    · exact .inr (.inl ⟨h0, x, rfl⟩)
    · obtain ⟨b, off, spot⟩ := x
      have hc := (hF 0 (by omega)) 0 _ rfl
      have hspot : spot = none := by simpa [Addr.add] using World.cell?_spot hc
      subst hspot
      refine .inr (.inr ⟨b, off, rfl, World.block_lt_of_cell? _ _ hc, range_csL fun j hj => ?_⟩)
      rw [hlen] at hj
      have hget : ((List.range len).map F).getD j LK.z = F j := by rw [List.getD_eq_getElem?_getD]; simp [hj]
      rw [hget]
      intro i v hv
      have := (hF j (by omega)) i v hv
      rw [add_plain', add_plain'] at this
      exact this
end Go.Proofs.Ytpdmpekkmblgmaa
