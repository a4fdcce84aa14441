/-
  What came in: bytes, lists of calls; how great they can be.
-/
import Derived.Test.YtaacggbfoejjhaaDoorB14
import Derived.Deep.Slices
import Derived.ChangeSame
import Derived.OpenShut
import Derived.SizedLaws
namespace Go.Proofs.YtaacggbfoejjhaaDoor
open Go.ChangeShapes Go.WideShapes Go.ChangeAt Go.RowKit Go.Deep
open D
set_option linter.unusedVariables false
set_option linter.unusedSimpArgs false

theorem cn3 : Tryd.prog.cellsOf 3 = 1 := by kernel_rfl
theorem cn5 : Tryd.prog.cellsOf 5 = 1 := by kernel_rfl
theorem cn22 : Tryd.prog.cellsOf 22 = 1 := by kernel_rfl
theorem cn36 : Tryd.prog.cellsOf 36 = 4 := by kernel_rfl
theorem has_i64 {x : Int} (h : (Lit.int .i64 x).wf = true) : -9223372036854775808 ≤ x ∧ x ≤ 9223372036854775807 := by
  have h1 : IntKind.i64.min = -9223372036854775808 := rfl
  have h2 : IntKind.i64.max = 9223372036854775807 := rfl
  simp only [Lit.wf, Bool.and_eq_true, decide_eq_true_eq] at h
  omega
theorem row_mk {kd : IntKind} {w : World} {x : Addr} {len cap : Nat} {zs : List Int} (hl : len ≤ cap) (hz : zs.length = cap)
    (hcell : ∀ i, i < zs.length → w.cell? (x.add i) = some (.int kd (zs.getD i 0))) (hwz : ∀ n ∈ zs, (Lit.int kd n).wf = true) : Row kd w (some x) len cap (zs.take len) where
  size := by simp; omega
  le := hl
  nil := fun h => by cases h
  wf := fun n hn => hwz n (List.mem_of_mem_take hn)
  mem := by
    by_cases h0 : len = 0
    · exact .inl h0
    · obtain ⟨b, off, spot⟩ := x
      have hc := hcell 0 (by omega)
      have hspot : spot = none := by simpa [Addr.add] using World.cell?_spot hc
      subst hspot
      refine .inr ⟨b, off, rfl, World.block_lt_of_cell? _ _ hc, fun k hk => ?_⟩
      have hc2 := hcell k (by omega)
      rw [← D.add_plain, hc2, List.getD_eq_getElem?_getD, List.getD_eq_getElem?_getD, List.getElem?_take, if_pos hk]
/-- A call, and its bytes. -/
structure ActS where
  kd : Int
  nn : Int
  sc : Int
  a : Option Addr
  n : Nat
  c : Nat
  zs : List Int
def actsZ : ActS := ⟨0, 0, 0, none, 0, 0, []⟩
def ActS.cells (q : ActS) : List Value := [.int .i64 q.kd, .int .i64 q.nn, .int .i64 q.sc, .slice q.a q.n q.c]
structure ActOk (W : World) (q : ActS) : Prop where
  row : Row .u8 W q.a q.n q.c q.zs
  max : q.c ≤ maxLen
  nn : -9223372036854775808 ≤ q.nn ∧ q.nn ≤ 9223372036854775807
  sc : -9223372036854775808 ≤ q.sc ∧ q.sc ≤ 9223372036854775807
theorem list4 {α : Type} {l : List α} (h : l.length = 4) : ∃ v0 v1 v2 v3, l = [v0, v1, v2, v3] := by
  match l, h with
  | [v0, v1, v2, v3], _ => exact ⟨v0, v1, v2, v3, rfl⟩
/-- The calls that a slice value leads to. -/
structure RowA (w : World) (a : Option Addr) (len cap : Nat) (l : List ActS) : Prop where
  size : l.length = len
  le : len ≤ cap
  mem : len = 0 ∨ ∃ b off, a = some ⟨b, off, none⟩ ∧ b < w.heap.size ∧ ∀ j, j < len → w.rangeAt b (off + j * 4) (l.getD j actsZ).cells
  ok : ∀ q ∈ l, ActOk w q
theorem by5 : Tryd.prog.bytesOf 5 = 1 := by kernel_rfl
theorem weights_all {H : Type} {P : Program} {e : TypeId} : ∀ {ds : List (DataW H)} {d : DataW H}, d ∈ ds → ∀ n ∈ d.weights P e, n ∈ DataW.weightsAll P e ds
  | x :: r, d, hd, n, hn => by
    simp only [DataW.weightsAll, List.mem_append]
    rcases List.mem_cons.1 hd with rfl | hd
    · exact .inl hn
    · exact .inr (weights_all hd n hn)
theorem open_bytesW {H : Type} {enc : TypeId × Value → H} {W : World} {fuel : Nat} {x : DataW H × List MemPlace} {v : Value} (hf : DataW.trod enc Tryd.prog W 0 (fun _ => true) true fuel 22 [v] = some x) : ∃ (a : Option Addr) (len cap : Nat) (zs : List Int), v = .slice a len cap ∧ Row .u8 W a len cap zs ∧ cap ≤ maxLen ∧ ∀ B, (∀ k ∈ x.1.weights Tryd.prog 22, k ≤ B) → cap ≤ B := by
  rcases open_ints Tryd.underlying22 Tryd.underlying5 cn5 hf with ⟨hcs, hx⟩ | ⟨ad, l, c, zs, hcs, _, hl, hm, hz, hx, hcell, hwz⟩
  · simp at hcs
    exact ⟨none, 0, 0, [], hcs, row_nil .u8 W, Nat.zero_le _, fun B _ => Nat.zero_le _⟩
  · simp at hcs
    have hz' : zs.length = c := by simpa using hz
    refine ⟨some ad, l, c, zs.take l, hcs, row_mk hl hz' hcell hwz, hm, fun B hB => ?_⟩
    rw [hx] at hB
    have := hB c (by
      simp only [DataW.weights, Tryd.underlying22]
      refine List.mem_cons.2 (.inl ?_)
      rw [by5]
      simp only [lits, List.length_map, List.length_take, List.length_drop]
      omega)
    exact this
theorem open_actcW {H : Type} {enc : TypeId × Value → H} {W : World} {fuel : Nat} {cs : List Value} {x : DataW H × List MemPlace} (hl : cs.length = 4)
    (hf : DataW.trod enc Tryd.prog W 0 (fun _ => true) true fuel 36 cs = some x) : ∃ q : ActS, cs = q.cells ∧ ActOk W q ∧ ∀ B, (∀ k ∈ x.1.weights Tryd.prog 36, k ≤ B) → q.c ≤ B := by
  obtain ⟨v0, v1, v2, v3, rfl⟩ := list4 hl
  obtain ⟨xs, k, hk, hxy, _, hxl, hg⟩ := DataW.trod_struct Tryd.underlying36 hf
  match xs, hxl with
  | [y0, y1, y2, y3], _ =>
  have e0 := hg 0 _ rfl
  have e1 := hg 1 _ rfl
  have e2 := hg 2 _ rfl
  have e3 := hg 3 _ rfl
  simp [cn3] at e0 e1 e2
  simp [cn22, cn3] at e3
  obtain ⟨x0, q0, _, w0⟩ := DataW.trod_int Tryd.underlying3 e0
  obtain ⟨x1, q1, _, w1⟩ := DataW.trod_int Tryd.underlying3 e1
  obtain ⟨x2, q2, _, w2⟩ := DataW.trod_int Tryd.underlying3 e2
  simp at q0 q1 q2
  subst q0 q1 q2
  obtain ⟨a, len, cap, zs, rfl, R, hm, hB⟩ := open_bytesW e3
  refine ⟨⟨x0, x1, x2, a, len, cap, zs⟩, rfl, ⟨R, hm, has_i64 w1, has_i64 w2⟩, fun B h => hB B fun k hk => h k ?_⟩
  rw [hxy]
  simp only [DataW.weights, Tryd.underlying36, List.map_cons, List.map_nil]
  exact DataW.weights_mem_each (j := 3) (t := 22) rfl rfl k hk
theorem open_actsW {H : Type} {enc : TypeId × Value → H} {W : World} {a : Option Addr} {len cap : Nat} {d : DataW H} {ps : List MemPlace}
    (h : DataW.Trod enc Tryd.prog W 0 (fun _ => true) true 23 (.slice a len cap) d ps) (hB : ∀ k ∈ d.weights Tryd.prog 23, k ≤ reachBytes) : ∃ l, RowA W a len cap l ∧ cap ≤ maxLen ∧ ∀ q ∈ l, q.c ≤ 140737488351232 := by
  obtain ⟨fuel, hf⟩ := h
  rcases open_slice Tryd.underlying23 hf with ⟨hcs, hx⟩ | ⟨x, l, c, m, n, D, Pl, hcs, _, hl, hm, hmm, hx, hel⟩
  · simp [Value.cells] at hcs
    obtain ⟨rfl, rfl, rfl⟩ := hcs
    exact ⟨[], ⟨rfl, Nat.le_refl _, .inl rfl, fun q hq => by cases hq⟩, Nat.zero_le _, fun q hq => by cases hq⟩
  · simp [Value.cells] at hcs
    obtain ⟨rfl, rfl, rfl⟩ := hcs
    have hmc : m = cap := by simpa using hmm
    subst hmc
    simp only [Prod.mk.injEq] at hx
    obtain ⟨hd, _⟩ := hx
    rw [cn36] at hel
    have each : ∀ i, i < m → ∃ q : ActS, (∀ j v, q.cells[j]? = some v → W.cell? ((x.add (i * 4)).add j) = some v) ∧ ActOk W q ∧ ∀ B, (∀ k ∈ (D i).weights Tryd.prog 36, k ≤ B) → q.c ≤ B := by
      intro i hi
      obtain ⟨cs', h1, h2⟩ := hel i hi
      obtain ⟨_, hlen, hcell⟩ := World.cells?_some h1
      obtain ⟨q, hcs', hq, hw⟩ := open_actcW hlen h2
      refine ⟨q, fun j v hj => ?_, hq, hw⟩
      have hjl : j < 4 := (List.getElem?_eq_some_iff.1 hj).1
      have hc := hcell j hjl
      rw [hcs'] at hc
      rw [hc]
      exact hj
    have inh : Inhabited ActS := ⟨actsZ⟩
    obtain ⟨F, hF⟩ := choose_lt each
    have hget : ∀ j, j < len → ((List.range len).map F).getD j actsZ = F j := by
      intro j hj
      simp [List.getD, hj]
    refine ⟨(List.range len).map F, ⟨by simp, hl, ?_, ?_⟩, hm, ?_⟩
    · by_cases h0 : len = 0
      · exact .inl h0
      · obtain ⟨b, off, spot⟩ := x
        have hc := (hF 0 (by omega)).1 0 _ rfl
        have hspot : spot = none := by simpa [Addr.add] using World.cell?_spot hc
        subst hspot
        refine .inr ⟨b, off, rfl, World.block_lt_of_cell? _ _ hc, fun j hj => ?_⟩
        rw [hget j hj]
        intro i v hv
        have := (hF j (by omega)).1 i v hv
        rw [WideShapes.add_plain, WideShapes.add_plain] at this
        exact this
    · intro q hq
      obtain ⟨i, hi, rfl⟩ := List.mem_map.1 hq
      exact (hF i (by have := List.mem_range.1 hi; omega)).2.1
    · intro q hq
      obtain ⟨i, hi, rfl⟩ := List.mem_map.1 hq
      have hil := List.mem_range.1 hi
      refine (hF i (by omega)).2.2 140737488351232 (fun k hk => ?_)
      have h0 := hB k (by
        rw [hd]
        simp only [DataW.weights, Tryd.underlying23]
        refine List.mem_cons.2 (.inr (List.mem_append.2 (.inl ?_)))
        exact weights_all (List.mem_map.2 ⟨i, hi, rfl⟩) k hk)
      unfold reachBytes at h0
      omega
/-- The bound on one argument, out of that on all. -/
theorem sized_arg {H : Type} {ts : List TypeId} {ds : List (DataW H)} (h : (DataW.weightsEach Tryd.prog ts ds).all (· ≤ reachBytes) = true) {j : Nat} {t : TypeId} {d : DataW H} (ht : ts[j]? = some t) (hd : ds[j]? = some d) : ∀ k ∈ d.weights Tryd.prog t, k ≤ reachBytes := by
  intro k hk
  have := List.all_eq_true.1 h _ (DataW.weights_mem_each ht hd k hk)
  simpa using this
theorem open_rowW {H : Type} {enc : TypeId × Value → H} {W : World} {a : Option Addr} {len cap : Nat} {d : DataW H} {ps : List MemPlace}
    (h : DataW.Trod enc Tryd.prog W 0 (fun _ => true) true 22 (.slice a len cap) d ps) (hB : ∀ k ∈ d.weights Tryd.prog 22, k ≤ reachBytes) : ∃ zs, Row .u8 W a len cap zs ∧ cap ≤ maxLen ∧ cap ≤ 140737488351232 := by
  obtain ⟨fuel, hf⟩ := h
  obtain ⟨a', len', cap', zs, e, R, hm, hw⟩ := open_bytesW (x := (d, ps)) (v := .slice a len cap) hf
  cases e
  refine ⟨zs, R, hm, ?_⟩
  have := hw reachBytes hB
  unfold reachBytes at this
  omega
end Go.Proofs.YtaacggbfoejjhaaDoor
