/-
  What came in: a list of half-edges.
-/
import Derived.Test.YtacefkchhcpgaaaIn
import Derived.Test.YtacefkchhcpgaaaH1
namespace Go.Proofs.Ytacefkchhcpgaaa
open Go.ChangeShapes Go.WideShapes Go.ChangeAt Go.RowKit Go.Deep
set_option linter.unusedVariables false
set_option linter.unusedSimpArgs false
theorem range_csH {W : World} {b off : Nat} {l : List HR} (h : ∀ j, j < l.length → W.rangeAt b (off + j * 6) (l.getD j HR.z).cells) : W.rangeAt b off (csH l) := by
  intro q v hv
  have hq := (List.getElem?_eq_some_iff.1 hv).1
  rw [csH_len] at hq
  have e := csH_get l (q / 6) (q % 6) _ (get_zH l (q / 6) (by omega)) (by omega)
  rw [show 6 * (q / 6) + q % 6 = q by omega, hv] at e
  have := h (q / 6) (by omega) (q % 6) v e.symm
  rw [show off + q / 6 * 6 + q % 6 = off + q by omega] at this
  exact this
theorem weights_in {H : Type} {P : Program} {e : TypeId} : ∀ {l : List (DataW H)} {d : DataW H}, d ∈ l → ∀ n ∈ d.weights P e, n ∈ DataW.weightsAll P e l
  | d' :: r, d, hd, n, hn => by
    simp only [DataW.weightsAll, List.mem_append]
    rcases List.mem_cons.1 hd with rfl | h
    · exact Or.inl hn
    · exact Or.inr (weights_in h n hn)
theorem open_hlvs {H : Type} {enc : TypeId × Value → H} {W : World} {fuel : Nat} {v : Value} {d : DataW H} {ps : List MemPlace}
    (hf : DataW.trod enc Try.prog W 0 (fun _ => true) true fuel 25 [v] = some (d, ps)) (hB : ∀ k ∈ d.weights Try.prog 25, k ≤ reachBytes) :
    ∃ a cap, ∃ l : List HS, v = .slice a l.length cap ∧ Hs W a l.length cap l := by
  rcases open_slice Try.underlying25 hf with ⟨hcs, hx⟩ | ⟨x, len, c, m, n, D, Pl, hcs, _, hl, hm, hmm, hx, hel⟩
  · simp [Value.cells] at hcs
    subst hcs
    exact ⟨none, 0, [], rfl, rfl, [], rdH_nil _, fun i hi => by cases hi⟩
  · simp [Value.cells] at hcs
    subst hcs
    have hmc : m = c := by simpa using hmm
    subst hmc
    simp only [Prod.mk.injEq] at hx
    obtain ⟨hd, _⟩ := hx
    rw [cn24] at hel
    have each : ∀ i, i < len → ∃ q : HS × Option Addr × Nat, (∀ j v, (q.1.on q.2.1 q.2.2).cells[j]? = some v → W.cell? ((x.add (i * 6)).add j) = some v) ∧ RdO W q.1 q.2.1 q.2.2 := by
      intro i hi
      obtain ⟨cs', h1, h2⟩ := hel i (by omega)
      obtain ⟨_, hlen, hcell⟩ := World.cells?_some h1
      obtain ⟨h, a, k, hcs', R⟩ := open_halfc hlen h2 (fun k hk => hB k (by
        rw [hd]
        simp only [DataW.weights, Try.underlying25]
        refine List.mem_cons.2 (.inr (List.mem_append.2 (.inl ?_)))
        exact weights_in (List.mem_map.2 ⟨i, List.mem_range.2 hi, rfl⟩) k hk))
      refine ⟨(h, a, k), fun j v hj => ?_, R⟩
      have hjl : j < 6 := (List.getElem?_eq_some_iff.1 hj).1
      have hc := hcell j hjl
      rw [hcs'] at hc
      rw [hc]
      exact hj
    haveI : Inhabited (HS × Option Addr × Nat) := ⟨(HS.z, none, 0)⟩
    obtain ⟨F, hF⟩ := choose_lt each
    have h0 := hB (m * 64) (by
      rw [hd]
      simp only [DataW.weights, Try.underlying25]
      refine List.mem_cons.2 (.inl ?_)
      rw [by24]
      simp only [List.length_map, List.length_range, List.length_take, List.length_drop]
      first | omega | (simp; omega))
    unfold reachBytes at h0
    have hlen : ((List.range len).map (fun i => (F i).1)).length = len := by simp
    have hlen2 : ((List.range len).map (fun i => (F i).1.on (F i).2.1 (F i).2.2)).length = len := by simp
    have hg1 : ∀ j, j < len → ((List.range len).map (fun i => (F i).1)).getD j HS.z = (F j).1 := fun j hj => by rw [List.getD_eq_getElem?_getD]; simp [hj]
    have hg2 : ∀ j, j < len → ((List.range len).map (fun i => (F i).1.on (F i).2.1 (F i).2.2)).getD j HR.z = (F j).1.on (F j).2.1 (F j).2.2 := fun j hj => by rw [List.getD_eq_getElem?_getD]; simp [hj]
    refine ⟨some x, m, (List.range len).map (fun i => (F i).1), by rw [hlen], ?_⟩
    rw [hlen]
    refine ⟨hlen, (List.range len).map (fun i => (F i).1.on (F i).2.1 (F i).2.2), ⟨hlen2, by omega, by omega, ?_⟩, fun i hi => ⟨(F i).2.1, (F i).2.2, ?_⟩⟩
    · by_cases h0 : len = 0
      · exact .inr (.inl ⟨h0, x, rfl⟩)
      · obtain ⟨b, off, spot⟩ := x
        have hc := (hF 0 (by omega)).1 0 _ rfl
        have hspot : spot = none := by simpa [Addr.add] using World.cell?_spot hc
        subst hspot
        refine .inr (.inr ⟨b, off, rfl, World.block_lt_of_cell? _ _ hc, range_csH fun j hj => ?_⟩)
        rw [hlen2] at hj
        rw [hg2 j hj]
        intro i v hv
        have := (hF j hj).1 i v hv
        rw [add_plain', add_plain'] at this
        exact this
    · rw [hg1 i hi, hg2 i hi]
      exact ⟨rfl, (hF i hi).2⟩
theorem open_halves {H : Type} {enc : TypeId × Value → H} {W : World} {a : Option Addr} {len cap : Nat} {d : DataW H} {ps : List MemPlace} (h : DataW.Trod enc Try.prog W 0 (fun _ => true) true 25 (.slice a len cap) d ps) (hB : ∀ k ∈ d.weights Try.prog 25, k ≤ reachBytes) :
    ∃ l : List HS, l.length = len ∧ Hs W a l.length cap l := by
  obtain ⟨fuel, hf⟩ := h
  obtain ⟨a', cap', l, e, R⟩ := open_hlvs hf hB
  cases e
  exact ⟨l, rfl, R⟩
end Go.Proofs.Ytacefkchhcpgaaa
