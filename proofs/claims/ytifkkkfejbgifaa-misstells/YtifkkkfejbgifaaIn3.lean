/-
  What came in: a list of numbers.
-/
import Derived.Test.YtifkkkfejbgifaaIn
import Derived.Test.YtifkkkfejbgifaaU0
namespace Go.Proofs.Ytifkkkfejbgifaa
open Go.ChangeShapes Go.WideShapes Go.ChangeAt Go.RowKit Go.Deep
set_option linter.unusedVariables false
set_option linter.unusedSimpArgs false
theorem sized_arg {H : Type} {ts : List TypeId} {ds : List (DataW H)} (h : (DataW.weightsEach Try.prog ts ds).all (· ≤ reachBytes) = true) {j : Nat} {t : TypeId} {d : DataW H} (ht : ts[j]? = some t) (hd : ds[j]? = some d) : ∀ k ∈ d.weights Try.prog t, k ≤ reachBytes := by
  intro k hk
  have := List.all_eq_true.1 h _ (DataW.weights_mem_each ht hd k hk)
  simpa using this
theorem by3 : Try.prog.bytesOf 3 = 8 := by kernel_rfl
theorem open_ints0 {H : Type} {enc : TypeId × Value → H} {W : World} {fuel : Nat} {v : Value} {d : DataW H} {ps : List MemPlace}
    (hf : DataW.trod enc Try.prog W 0 (fun _ => true) true fuel 36 [v] = some (d, ps)) (hB : ∀ k ∈ d.weights Try.prog 36, k ≤ reachBytes) :
    ∃ a cap, ∃ l : List Int, v = .slice a l.length cap ∧ Row W a l.length cap l ∧ l.length * 8 ≤ 140737488355328 := by
  rcases open_slice Try.underlying36 hf with ⟨hcs, hx⟩ | ⟨x, len, c, m, n, D, Pl, hcs, _, hl, hm, hmm, hx, hel⟩
  · simp [Value.cells] at hcs
    subst hcs
    exact ⟨none, 0, [], rfl, row_none _, by decide⟩
  · simp [Value.cells] at hcs
    subst hcs
    have hmc : m = c := by simpa using hmm
    subst hmc
    simp only [Prod.mk.injEq] at hx
    obtain ⟨hd, _⟩ := hx
    rw [cn3] at hel
    have each : ∀ i, i < m → ∃ q : Int, W.cell? (x.add i) = some (.int .i64 q) := by
      intro i hi
      obtain ⟨cs', h1, h2⟩ := hel i hi
      obtain ⟨_, hlen, hcell⟩ := World.cells?_some h1
      match cs', hlen with
      | [u], _ =>
      obtain ⟨q, hq, _, _⟩ := DataW.trod_int Try.underlying3 h2
      simp at hq
      subst hq
      have hc := hcell 0 (by decide)
      refine ⟨q, ?_⟩
      have e : (x.add (i * 1)).add 0 = x.add i := by
        unfold Addr.add
        obtain ⟨b, off, spot⟩ := x
        cases spot <;> simp
      rw [e] at hc
      simpa using hc
    obtain ⟨F, hF⟩ := choose_lt each
    have h0 := hB (m * 8) (by
      rw [hd]
      simp only [DataW.weights, Try.underlying36]
      refine List.mem_cons.2 (.inl ?_)
      rw [by3]
      simp only [List.length_map, List.length_range, List.length_take, List.length_drop]
      first | omega | (simp; omega))
    unfold reachBytes at h0
    have hlen : ((List.range m).map F).length = m := by simp
    have R : Row W (some x) len m (((List.range m).map F).take len) := row_mk (by omega) (by unfold maxLen; omega) hlen (fun i hi => by
      rw [hlen] at hi
      rw [show ((List.range m).map F).getD i 0 = F i by rw [List.getD_eq_getElem?_getD]; simp [hi]]
      exact hF i hi)
    have hl2 : (((List.range m).map F).take len).length = len := by simp; omega
    refine ⟨some x, m, ((List.range m).map F).take len, by rw [hl2], by rw [hl2]; exact R, by rw [hl2]; omega⟩
theorem open_ints {H : Type} {enc : TypeId × Value → H} {W : World} {a : Option Addr} {len cap : Nat} {d : DataW H} {ps : List MemPlace} (h : DataW.Trod enc Try.prog W 0 (fun _ => true) true 36 (.slice a len cap) d ps) (hB : ∀ k ∈ d.weights Try.prog 36, k ≤ reachBytes) :
    ∃ l : List Int, len = l.length ∧ Row W a l.length cap l ∧ l.length * 8 ≤ 140737488355328 := by
  obtain ⟨fuel, hf⟩ := h
  obtain ⟨a', cap', l, e, R, b⟩ := open_ints0 (v := .slice a len cap) hf hB
  cases e
  exact ⟨l, rfl, R, b⟩
end Go.Proofs.Ytifkkkfejbgifaa
