/-
  What came in: lists of calls; how great they can be.
-/
import Derived.Test.YtoppecppmjpgiaaBgK
import Derived.SizedLaws
namespace Go.Proofs.Ytoppecppmjpgiaa
open Go.ChangeShapes Go.WideShapes Go.ChangeAt Go.RowKit Go.Deep
set_option linter.unusedVariables false
set_option linter.unusedSimpArgs false

theorem by40 : Try.prog.bytesOf 40 = 48 := by kernel_rfl
abbrev actL (q : ActS) : List Value := [.int .i64 q.kd, .int .i64 q.nn, .int .i64 q.x, .int .i64 q.y, .string q.s]
theorem add_plain' (g o j : Nat) : (⟨g, o, none⟩ : Addr).add j = ⟨g, o + j, none⟩ := by unfold Addr.add; split <;> simp_all
/-- The bound on one argument, out of that on all. -/
theorem sized_arg {H : Type} {ts : List TypeId} {ds : List (DataW H)} (h : (DataW.weightsEach Try.prog ts ds).all (· ≤ reachBytes) = true) {j : Nat} {t : TypeId} {d : DataW H} (ht : ts[j]? = some t) (hd : ds[j]? = some d) : ∀ k ∈ d.weights Try.prog t, k ≤ reachBytes := by
  intro k hk
  have := List.all_eq_true.1 h _ (DataW.weights_mem_each ht hd k hk)
  simpa using this
theorem open_actsC {H : Type} {enc : TypeId × Value → H} {W : World} {a : Option Addr} {len cap : Nat} {d : DataW H} {ps : List MemPlace}
    (h : DataW.Trod enc Try.prog W 0 (fun _ => true) true 26 (.slice a len cap) d ps) (hB : ∀ k ∈ d.weights Try.prog 26, k ≤ reachBytes) :
    ∃ l : List ActS, l.length = len ∧ len ≤ cap ∧ (len = 0 ∨ ∃ b off, a = some ⟨b, off, none⟩ ∧ b < W.heap.size ∧ ∀ j, j < len → ∃ q, l[j]? = some q ∧ W.rangeAt b (off + j * 5) (actL q)) ∧ (∀ q ∈ l, ActOk q) ∧ cap ≤ 2932031007402 := by
  obtain ⟨fuel, hf⟩ := h
  rcases open_slice Try.underlying26 hf with ⟨hcs, hx⟩ | ⟨x, l, c, m, n, D, Pl, hcs, _, hl, hm, hmm, hx, hel⟩
  · simp [Value.cells] at hcs
    obtain ⟨rfl, rfl, rfl⟩ := hcs
    exact ⟨[], rfl, Nat.le_refl _, .inl rfl, fun q hq => (by cases hq), by omega⟩
  · simp [Value.cells] at hcs
    obtain ⟨rfl, rfl, rfl⟩ := hcs
    have hmc : m = cap := by simpa using hmm
    subst hmc
    simp only [Prod.mk.injEq] at hx
    obtain ⟨hd, _⟩ := hx
    rw [cn40] at hel
    have each : ∀ i, i < m → ∃ q : ActS, (∀ j v, (actL q)[j]? = some v → W.cell? ((x.add (i * 5)).add j) = some v) ∧ ActOk q := by
      intro i hi
      obtain ⟨cs', h1, h2⟩ := hel i hi
      obtain ⟨_, hlen, hcell⟩ := World.cells?_some h1
      obtain ⟨q, hcs', hq⟩ := open_actc hlen h2
      refine ⟨q, fun j v hj => ?_, hq⟩
      have hjl : j < 5 := (List.getElem?_eq_some_iff.1 hj).1
      have hc := hcell j hjl
      rw [hcs'] at hc
      rw [hc]
      exact hj
    have hz : ActS := ⟨0, 0, 0, 0, ByteArray.empty⟩
    haveI : Inhabited ActS := ⟨hz⟩
    obtain ⟨F, hF⟩ := choose_lt each
    have hget : ∀ j, j < len → ((List.range len).map F)[j]? = some (F j) := by
      intro j hj
      simp [hj]
    refine ⟨(List.range len).map F, by simp, hl, ?_, ?_, ?_⟩
    · by_cases h0 : len = 0
      · exact .inl h0
      · obtain ⟨b, off, spot⟩ := x
        have hc := (hF 0 (by omega)).1 0 _ rfl
        have hspot : spot = none := by simpa [Addr.add] using World.cell?_spot hc
        subst hspot
        refine .inr ⟨b, off, rfl, World.block_lt_of_cell? _ _ hc, fun j hj => ⟨F j, hget j hj, ?_⟩⟩
        intro i v hv
        have := (hF j (by omega)).1 i v hv
        rw [add_plain', add_plain'] at this
        exact this
    · intro q hq
      obtain ⟨i, hi, rfl⟩ := List.mem_map.1 hq
      exact (hF i (by have := List.mem_range.1 hi; omega)).2
    · have h0 := hB (m * 48) (by
        rw [hd]
        simp only [DataW.weights, Try.underlying26]
        refine List.mem_cons.2 (.inl ?_)
        rw [by40]
        simp only [List.length_map, List.length_range, List.length_take, List.length_drop]
        first | omega | (simp; omega))
      unfold reachBytes at h0
      omega
end Go.Proofs.Ytoppecppmjpgiaa
