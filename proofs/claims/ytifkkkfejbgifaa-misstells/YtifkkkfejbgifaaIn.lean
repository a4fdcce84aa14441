/-
  What came in: lines, a half-edge.
-/
import Derived.Test.YtifkkkfejbgifaaF40
import Derived.Deep.Slices
import Derived.ChangeSame
import Derived.OpenShut
import Derived.SizedLaws
namespace Go.Proofs.Ytifkkkfejbgifaa
open Go.ChangeShapes Go.WideShapes Go.ChangeAt Go.RowKit Go.Deep
set_option linter.unusedVariables false
set_option linter.unusedSimpArgs false
theorem cn44 : Try.prog.cellsOf 35 = 4 := by kernel_rfl
theorem cn24 : Try.prog.cellsOf 24 = 6 := by kernel_rfl
theorem cn22 : Try.prog.cellsOf 22 = 1 := by kernel_rfl
theorem cn9 : Try.prog.cellsOf 9 = 1 := by kernel_rfl
theorem cn4 : Try.prog.cellsOf 4 = 1 := by kernel_rfl
theorem by44 : Try.prog.bytesOf 35 = 40 := by kernel_rfl
theorem by24 : Try.prog.bytesOf 24 = 64 := by kernel_rfl
theorem range_csL {W : World} {b off : Nat} {l : List LS} (h : ∀ j, j < l.length → W.rangeAt b (off + j * 4) (l.getD j LS.z).cells) : W.rangeAt b off (csL l) := by
  intro q v hv
  have hq := (List.getElem?_eq_some_iff.1 hv).1
  rw [csL_len] at hq
  have e := csL_get l (q / 4) (q % 4) _ (get_zL l (q / 4) (by omega)) (by omega)
  rw [show 4 * (q / 4) + q % 4 = q by omega, hv] at e
  have := h (q / 4) (by omega) (q % 4) v e.symm
  rw [show off + q / 4 * 4 + q % 4 = off + q by omega] at this
  exact this
theorem open_lnc {H : Type} {enc : TypeId × Value → H} {W : World} {fuel : Nat} {cs : List Value} {x : DataW H × List MemPlace} (hl : cs.length = 4)
    (hf : DataW.trod enc Try.prog W 0 (fun _ => true) true fuel 35 cs = some x) : ∃ q : LS, cs = q.cells := by
  match cs, hl with
  | [v0, v1, v2, v3], _ =>
  obtain ⟨xs, k, hk, hxy, _, hxl, hg⟩ := DataW.trod_struct Try.underlying35 hf
  match xs, hxl with
  | [y0, y1], _ =>
  have e0 := hg 0 _ rfl
  have e1 := hg 1 _ rfl
  simp [cn9, cn42] at e0 e1
  obtain ⟨x0, q0, _, w0⟩ := DataW.trod_string Try.underlying9 e0
  simp at q0
  subst q0
  obtain ⟨⟨v, p, f⟩, hr⟩ := open_regc (by rfl) e1
  simp at hr
  obtain ⟨rfl, rfl, rfl⟩ := hr
  exact ⟨⟨x0, v, p, f⟩, rfl⟩
theorem open_lns {H : Type} {enc : TypeId × Value → H} {W : World} {fuel : Nat} {v : Value} {d : DataW H} {ps : List MemPlace}
    (hf : DataW.trod enc Try.prog W 0 (fun _ => true) true fuel 22 [v] = some (d, ps)) (hB : ∀ k ∈ d.weights Try.prog 22, k ≤ reachBytes) :
    ∃ a cap, ∃ l : List LS, v = .slice a l.length cap ∧ RdL W a l.length cap l := by
  rcases open_slice Try.underlying22 hf with ⟨hcs, hx⟩ | ⟨x, len, c, m, n, D, Pl, hcs, _, hl, hm, hmm, hx, hel⟩
  · simp [Value.cells] at hcs
    subst hcs
    exact ⟨none, 0, [], rfl, rdL_nil _⟩
  · simp [Value.cells] at hcs
    subst hcs
    have hmc : m = c := by simpa using hmm
    subst hmc
    simp only [Prod.mk.injEq] at hx
    obtain ⟨hd, _⟩ := hx
    rw [cn44] at hel
    have each : ∀ i, i < m → ∃ q : LS, (∀ j v, q.cells[j]? = some v → W.cell? ((x.add (i * 4)).add j) = some v) := by
      intro i hi
      obtain ⟨cs', h1, h2⟩ := hel i hi
      obtain ⟨_, hlen, hcell⟩ := World.cells?_some h1
      obtain ⟨q, hcs'⟩ := open_lnc hlen h2
      refine ⟨q, fun j v hj => ?_⟩
      have hjl : j < 4 := (List.getElem?_eq_some_iff.1 hj).1
      have hc := hcell j hjl
      rw [hcs'] at hc
      rw [hc]
      exact hj
    haveI : Inhabited LS := ⟨LS.z⟩
    obtain ⟨F, hF⟩ := choose_lt each
    have h0 := hB (m * 40) (by
      rw [hd]
      simp only [DataW.weights, Try.underlying22]
      refine List.mem_cons.2 (.inl ?_)
      rw [by44]
      simp only [List.length_map, List.length_range, List.length_take, List.length_drop]
      first | omega | (simp; omega))
    unfold reachBytes at h0
    have hlen : ((List.range len).map F).length = len := by simp
    refine ⟨some x, m, (List.range len).map F, by rw [hlen], ?_⟩
    rw [hlen]
    refine ⟨hlen, by omega, by omega, ?_⟩
    by_cases h0 : len = 0
    · exact .inr (.inl ⟨h0, x, rfl⟩)
    · obtain ⟨b, off, spot⟩ := x
      have hc := (hF 0 (by omega)) 0 _ rfl
      have hspot : spot = none := by simpa [Addr.add] using World.cell?_spot hc
      subst hspot
      refine .inr (.inr ⟨b, off, rfl, World.block_lt_of_cell? _ _ hc, range_csL fun j hj => ?_⟩)
      rw [hlen] at hj
      have hget : ((List.range len).map F).getD j LS.z = F j := by rw [List.getD_eq_getElem?_getD]; simp [hj]
      rw [hget]
      intro i v hv
      have := (hF j (by omega)) i v hv
      rw [add_plain', add_plain'] at this
      exact this
theorem open_halfc {H : Type} {enc : TypeId × Value → H} {W : World} {fuel : Nat} {cs : List Value} {x : DataW H × List MemPlace} (hl : cs.length = 6)
    (hf : DataW.trod enc Try.prog W 0 (fun _ => true) true fuel 24 cs = some x) (hB : ∀ k ∈ x.1.weights Try.prog 24, k ≤ reachBytes) : ∃ h a c, cs = (HS.on h a c).cells ∧ RdO W h a c := by
  match cs, hl with
  | [v0, v1, v2, v3, v4, v5], _ =>
  obtain ⟨xs, k, hk, hxy, _, hxl, hg⟩ := DataW.trod_struct Try.underlying24 hf
  match xs, hxl with
  | [y0, y1, y2, y3, y4, y5], _ =>
  have e0 := hg 0 _ rfl
  have e1 := hg 1 _ rfl
  have e2 := hg 2 _ rfl
  have e3 := hg 3 _ rfl
  have e4 := hg 4 _ rfl
  have e5 := hg 5 _ rfl
  simp [cn2, cn3, cn22, cn4] at e0 e1 e2 e3 e4 e5
  obtain ⟨x0, q0, _, w0⟩ := DataW.trod_int Try.underlying3 e0
  obtain ⟨x1, q1, _, w1⟩ := DataW.trod_int Try.underlying2 e1
  obtain ⟨x2, q2, _, w2⟩ := DataW.trod_int Try.underlying2 e2
  obtain ⟨x4, q4, _⟩ := DataW.trod_bool Try.underlying4 e4
  obtain ⟨x5, q5, _, w5⟩ := DataW.trod_int Try.underlying3 e5
  simp at q0 q1 q2 q4 q5
  subst q0 q1 q2 q4 q5
  subst hxy
  obtain ⟨a, cap, l, rfl, R⟩ := open_lns (d := y3.1) (ps := y3.2) e3 (fun n hn => hB n (by
    simp only [DataW.weights, Try.underlying24]
    exact DataW.weights_mem_each (j := 3) (t := 22) rfl rfl n hn))
  exact ⟨⟨x0, x1, x2, l, x4, x5⟩, a, cap, rfl, R⟩
set_option maxRecDepth 100000 in
theorem open_half {H : Type} {enc : TypeId × Value → H} {W : World} {r : Reach} {b : Nat} {v : Value} {d : DataW H} {ps : List MemPlace} (hv : Value.okWide Try.prog W r b 24 v) (h : DataW.Trod enc Try.prog W 0 (fun _ => true) true 24 v d ps) (hB : ∀ k ∈ d.weights Try.prog 24, k ≤ reachBytes) :
    ∃ h a c, v = (HS.on h a c).val ∧ RdO W h a c := by
  simp only [Value.okWide, Try.underlying24] at hv
  obtain ⟨cs, rfl, hsz, _⟩ := hv
  rw [cn24] at hsz
  obtain ⟨fuel, hf⟩ := h
  obtain ⟨h, a, c, hcs, R⟩ := open_halfc (x := (d, ps)) (by simpa [Value.cells] using hsz) hf hB
  refine ⟨h, a, c, ?_, R⟩
  have : cs = (cs.toList).toArray := by simp
  rw [this, show cs.toList = _ from hcs]
  rfl
end Go.Proofs.Ytifkkkfejbgifaa
