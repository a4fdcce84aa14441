/-
  Page, Taken, Estimate, Rest and Back answer as the document says, for fit half-edges (P11.1 to P11.5): the law BookTells returns true for every input.
-/
import Derived.Test.YtcacocndcfbmaaaF40
import Derived.Deep.Slices
import Derived.ChangeSame
import Derived.OpenShut
import Derived.SizedLaws
import Derived.Test.YtcacocndcfbmaaaH1
import Derived.Test.YtcacocndcfbmaaaRows
import Derived.Test.YtcacocndcfbmaaaB10
import Derived.WalkKit
import Derived.ProofKit
import Derived.ChangeOld
import Derived.Below
import Derived.ShutString
namespace Go.Proofs.Ytcacocndcfbmaaa
open Go.ChangeShapes Go.WideShapes Go.ChangeAt Go.RowKit Go.Deep
set_option linter.unusedVariables false
set_option linter.unusedSimpArgs false
theorem cn44 : Try.prog.cellsOf 62 = 4 := by kernel_rfl
theorem cn24 : Try.prog.cellsOf 43 = 6 := by kernel_rfl
theorem cn22 : Try.prog.cellsOf 41 = 1 := by kernel_rfl
theorem cn9 : Try.prog.cellsOf 9 = 1 := by kernel_rfl
theorem cn4 : Try.prog.cellsOf 4 = 1 := by kernel_rfl
theorem by44 : Try.prog.bytesOf 62 = 40 := by kernel_rfl
theorem by24 : Try.prog.bytesOf 43 = 64 := by kernel_rfl
theorem range_csL {W : World} {b off : Nat} {l : List LS} (h : ∀ j, j < l.length → W.rangeAt b (off + j * 4) (l.getD j LS.z).cells) : W.rangeAt b off (csL l) := by
  intro q v hv
  have hq := (List.getElem?_eq_some_iff.1 hv).1
  rw [csL_len] at hq
  have e := csL_get l (q / 4) (q % 4) _ (get_zL l (q / 4) (by omega)) (by omega)
  rw [show 4 * (q / 4) + q % 4 = q by omega, hv] at e
  have := h (q / 4) (by omega) (q % 4) v e.symm
  rw [show off + q / 4 * 4 + q % 4 = off + q by omega] at this
  exact this
theorem open_lnc {H : Type} {enc : TypeId × Value → H} {W : World} {fuel : Nat} {cs : List Value} {x : DataW H × List MemPlace} (hl : cs.length = 4)
    (hf : DataW.trod enc Try.prog W 0 (fun _ => true) true fuel 62 cs = some x) : ∃ q : LS, cs = q.cells := by
  match cs, hl with
  | [v0, v1, v2, v3], _ =>
  obtain ⟨xs, k, hk, hxy, _, hxl, hg⟩ := DataW.trod_struct Try.underlying62 hf
  match xs, hxl with
  | [y0, y1], _ =>
  have e0 := hg 0 _ rfl
  have e1 := hg 1 _ rfl
  simp [cn9, cn42] at e0 e1
  obtain ⟨x0, q0, _, w0⟩ := DataW.trod_string Try.underlying9 e0
  simp at q0
  subst q0
  obtain ⟨⟨v, p, f⟩, hr⟩ := open_regc (by rfl) e1
  simp at hr
  obtain ⟨rfl, rfl, rfl⟩ := hr
  exact ⟨⟨x0, v, p, f⟩, rfl⟩
theorem open_lns {H : Type} {enc : TypeId × Value → H} {W : World} {fuel : Nat} {v : Value} {d : DataW H} {ps : List MemPlace}
    (hf : DataW.trod enc Try.prog W 0 (fun _ => true) true fuel 41 [v] = some (d, ps)) (hB : ∀ k ∈ d.weights Try.prog 41, k ≤ reachBytes) :
    ∃ a cap, ∃ l : List LS, v = .slice a l.length cap ∧ RdL W a l.length cap l := by
  rcases open_slice Try.underlying41 hf with ⟨hcs, hx⟩ | ⟨x, len, c, m, n, D, Pl, hcs, _, hl, hm, hmm, hx, hel⟩
  · simp [Value.cells] at hcs
    subst hcs
    exact ⟨none, 0, [], rfl, rdL_nil _⟩
  · simp [Value.cells] at hcs
    subst hcs
    have hmc : m = c := by simpa using hmm
    subst hmc
    simp only [Prod.mk.injEq] at hx
    obtain ⟨hd, _⟩ := hx
    rw [cn44] at hel
    have each : ∀ i, i < m → ∃ q : LS, (∀ j v, q.cells[j]? = some v → W.cell? ((x.add (i * 4)).add j) = some v) := by
      intro i hi
      obtain ⟨cs', h1, h2⟩ := hel i hi
      obtain ⟨_, hlen, hcell⟩ := World.cells?_some h1
      obtain ⟨q, hcs'⟩ := open_lnc hlen h2
      refine ⟨q, fun j v hj => ?_⟩
      have hjl : j < 4 := (List.getElem?_eq_some_iff.1 hj).1
      have hc := hcell j hjl
      rw [hcs'] at hc
      rw [hc]
      exact hj
    haveI : Inhabited LS := ⟨LS.z⟩
    obtain ⟨F, hF⟩ := choose_lt each
    have h0 := hB (m * 40) (by
      rw [hd]
      simp only [DataW.weights, Try.underlying41]
      refine List.mem_cons.2 (.inl ?_)
      rw [by44]
      simp only [List.length_map, List.length_range, List.length_take, List.length_drop]
      first | omega | (simp; omega))
    unfold reachBytes at h0
    have hlen : ((List.range len).map F).length = len := by simp
    refine ⟨some x, m, (List.range len).map F, by rw [hlen], ?_⟩
    rw [hlen]
    refine ⟨hlen, by omega, by omega, ?_⟩
    by_cases h0 : len = 0
    · exact .inr (.inl ⟨h0, x, rfl⟩)
    · obtain ⟨b, off, spot⟩ := x
      have hc := (hF 0 (by omega)) 0 _ rfl
      have hspot : spot = none := by simpa [Addr.add] using World.cell?_spot hc
      subst hspot
      refine .inr (.inr ⟨b, off, rfl, World.block_lt_of_cell? _ _ hc, range_csL fun j hj => ?_⟩)
      rw [hlen] at hj
      have hget : ((List.range len).map F).getD j LS.z = F j := by rw [List.getD_eq_getElem?_getD]; simp [hj]
      rw [hget]
      intro i v hv
      have := (hF j (by omega)) i v hv
      rw [add_plain', add_plain'] at this
      exact this
theorem open_halfc {H : Type} {enc : TypeId × Value → H} {W : World} {fuel : Nat} {cs : List Value} {x : DataW H × List MemPlace} (hl : cs.length = 6)
    (hf : DataW.trod enc Try.prog W 0 (fun _ => true) true fuel 43 cs = some x) (hB : ∀ k ∈ x.1.weights Try.prog 43, k ≤ reachBytes) : ∃ h a c, cs = (HS.on h a c).cells ∧ RdO W h a c := by
  match cs, hl with
  | [v0, v1, v2, v3, v4, v5], _ =>
  obtain ⟨xs, k, hk, hxy, _, hxl, hg⟩ := DataW.trod_struct Try.underlying43 hf
  match xs, hxl with
  | [y0, y1, y2, y3, y4, y5], _ =>
  have e0 := hg 0 _ rfl
  have e1 := hg 1 _ rfl
  have e2 := hg 2 _ rfl
  have e3 := hg 3 _ rfl
  have e4 := hg 4 _ rfl
  have e5 := hg 5 _ rfl
  simp [cn2, cn3, cn22, cn4] at e0 e1 e2 e3 e4 e5
  obtain ⟨x0, q0, _, w0⟩ := DataW.trod_int Try.underlying3 e0
  obtain ⟨x1, q1, _, w1⟩ := DataW.trod_int Try.underlying2 e1
  obtain ⟨x2, q2, _, w2⟩ := DataW.trod_int Try.underlying2 e2
  obtain ⟨x4, q4, _⟩ := DataW.trod_bool Try.underlying4 e4
  obtain ⟨x5, q5, _, w5⟩ := DataW.trod_int Try.underlying3 e5
  simp at q0 q1 q2 q4 q5
  subst q0 q1 q2 q4 q5
  subst hxy
  obtain ⟨a, cap, l, rfl, R⟩ := open_lns (d := y3.1) (ps := y3.2) e3 (fun n hn => hB n (by
    simp only [DataW.weights, Try.underlying43]
    exact DataW.weights_mem_each (j := 3) (t := 41) rfl rfl n hn))
  exact ⟨⟨x0, x1, x2, l, x4, x5⟩, a, cap, rfl, R⟩
set_option maxRecDepth 100000 in
theorem open_half {H : Type} {enc : TypeId × Value → H} {W : World} {r : Reach} {b : Nat} {v : Value} {d : DataW H} {ps : List MemPlace} (hv : Value.okWide Try.prog W r b 43 v) (h : DataW.Trod enc Try.prog W 0 (fun _ => true) true 43 v d ps) (hB : ∀ k ∈ d.weights Try.prog 43, k ≤ reachBytes) :
    ∃ h a c, v = (HS.on h a c).val ∧ RdO W h a c := by
  simp only [Value.okWide, Try.underlying43] at hv
  obtain ⟨cs, rfl, hsz, _⟩ := hv
  rw [cn24] at hsz
  obtain ⟨fuel, hf⟩ := h
  obtain ⟨h, a, c, hcs, R⟩ := open_halfc (x := (d, ps)) (by simpa [Value.cells] using hsz) hf hB
  refine ⟨h, a, c, ?_, R⟩
  have : cs = (cs.toList).toArray := by simp
  rw [this, show cs.toList = _ from hcs]
  rfl
end Go.Proofs.Ytcacocndcfbmaaa

namespace Go.Proofs.Ytcacocndcfbmaaa
open Go.ChangeShapes Go.WideShapes Go.ChangeAt Go.RowKit Go.Deep
set_option linter.unusedVariables false
set_option linter.unusedSimpArgs false
theorem range_csH {W : World} {b off : Nat} {l : List HR} (h : ∀ j, j < l.length → W.rangeAt b (off + j * 6) (l.getD j HR.z).cells) : W.rangeAt b off (csH l) := by
  intro q v hv
  have hq := (List.getElem?_eq_some_iff.1 hv).1
  rw [csH_len] at hq
  have e := csH_get l (q / 6) (q % 6) _ (get_zH l (q / 6) (by omega)) (by omega)
  rw [show 6 * (q / 6) + q % 6 = q by omega, hv] at e
  have := h (q / 6) (by omega) (q % 6) v e.symm
  rw [show off + q / 6 * 6 + q % 6 = off + q by omega] at this
  exact this
theorem weights_in {H : Type} {P : Program} {e : TypeId} : ∀ {l : List (DataW H)} {d : DataW H}, d ∈ l → ∀ n ∈ d.weights P e, n ∈ DataW.weightsAll P e l
  | d' :: r, d, hd, n, hn => by
    simp only [DataW.weightsAll, List.mem_append]
    rcases List.mem_cons.1 hd with rfl | h
    · exact Or.inl hn
    · exact Or.inr (weights_in h n hn)
theorem open_hlvs {H : Type} {enc : TypeId × Value → H} {W : World} {fuel : Nat} {v : Value} {d : DataW H} {ps : List MemPlace}
    (hf : DataW.trod enc Try.prog W 0 (fun _ => true) true fuel 22 [v] = some (d, ps)) (hB : ∀ k ∈ d.weights Try.prog 22, k ≤ reachBytes) :
    ∃ a cap, ∃ l : List HS, v = .slice a l.length cap ∧ Hs W a l.length cap l := by
  rcases open_slice Try.underlying22 hf with ⟨hcs, hx⟩ | ⟨x, len, c, m, n, D, Pl, hcs, _, hl, hm, hmm, hx, hel⟩
  · simp [Value.cells] at hcs
    subst hcs
    exact ⟨none, 0, [], rfl, rfl, [], rdH_nil _, fun i hi => by cases hi⟩
  · simp [Value.cells] at hcs
    subst hcs
    have hmc : m = c := by simpa using hmm
    subst hmc
    simp only [Prod.mk.injEq] at hx
    obtain ⟨hd, _⟩ := hx
    rw [cn24] at hel
    have each : ∀ i, i < len → ∃ q : HS × Option Addr × Nat, (∀ j v, (q.1.on q.2.1 q.2.2).cells[j]? = some v → W.cell? ((x.add (i * 6)).add j) = some v) ∧ RdO W q.1 q.2.1 q.2.2 := by
      intro i hi
      obtain ⟨cs', h1, h2⟩ := hel i (by omega)
      obtain ⟨_, hlen, hcell⟩ := World.cells?_some h1
      obtain ⟨h, a, k, hcs', R⟩ := open_halfc hlen h2 (fun k hk => hB k (by
        rw [hd]
        simp only [DataW.weights, Try.underlying22]
        refine List.mem_cons.2 (.inr (List.mem_append.2 (.inl ?_)))
        exact weights_in (List.mem_map.2 ⟨i, List.mem_range.2 hi, rfl⟩) k hk))
      refine ⟨(h, a, k), fun j v hj => ?_, R⟩
      have hjl : j < 6 := (List.getElem?_eq_some_iff.1 hj).1
      have hc := hcell j hjl
      rw [hcs'] at hc
      rw [hc]
      exact hj
    haveI : Inhabited (HS × Option Addr × Nat) := ⟨(HS.z, none, 0)⟩
    obtain ⟨F, hF⟩ := choose_lt each
    have h0 := hB (m * 64) (by
      rw [hd]
      simp only [DataW.weights, Try.underlying22]
      refine List.mem_cons.2 (.inl ?_)
      rw [by24]
      simp only [List.length_map, List.length_range, List.length_take, List.length_drop]
      first | omega | (simp; omega))
    unfold reachBytes at h0
    have hlen : ((List.range len).map (fun i => (F i).1)).length = len := by simp
    have hlen2 : ((List.range len).map (fun i => (F i).1.on (F i).2.1 (F i).2.2)).length = len := by simp
    have hg1 : ∀ j, j < len → ((List.range len).map (fun i => (F i).1)).getD j HS.z = (F j).1 := fun j hj => by rw [List.getD_eq_getElem?_getD]; simp [hj]
    have hg2 : ∀ j, j < len → ((List.range len).map (fun i => (F i).1.on (F i).2.1 (F i).2.2)).getD j HR.z = (F j).1.on (F j).2.1 (F j).2.2 := fun j hj => by rw [List.getD_eq_getElem?_getD]; simp [hj]
    refine ⟨some x, m, (List.range len).map (fun i => (F i).1), by rw [hlen], ?_⟩
    rw [hlen]
    refine ⟨hlen, (List.range len).map (fun i => (F i).1.on (F i).2.1 (F i).2.2), ⟨hlen2, by omega, by omega, ?_⟩, fun i hi => ⟨(F i).2.1, (F i).2.2, ?_⟩⟩
    · by_cases h0 : len = 0
      · exact .inr (.inl ⟨h0, x, rfl⟩)
      · obtain ⟨b, off, spot⟩ := x
        have hc := (hF 0 (by omega)).1 0 _ rfl
        have hspot : spot = none := by simpa [Addr.add] using World.cell?_spot hc
        subst hspot
        refine .inr (.inr ⟨b, off, rfl, World.block_lt_of_cell? _ _ hc, range_csH fun j hj => ?_⟩)
        rw [hlen2] at hj
        rw [hg2 j hj]
        intro i v hv
        have := (hF j hj).1 i v hv
        rw [add_plain', add_plain'] at this
        exact this
    · rw [hg1 i hi, hg2 i hi]
      exact ⟨rfl, (hF i hi).2⟩
theorem open_halves {H : Type} {enc : TypeId × Value → H} {W : World} {a : Option Addr} {len cap : Nat} {d : DataW H} {ps : List MemPlace} (h : DataW.Trod enc Try.prog W 0 (fun _ => true) true 22 (.slice a len cap) d ps) (hB : ∀ k ∈ d.weights Try.prog 22, k ≤ reachBytes) :
    ∃ l : List HS, l.length = len ∧ Hs W a l.length cap l := by
  obtain ⟨fuel, hf⟩ := h
  obtain ⟨a', cap', l, e, R⟩ := open_hlvs hf hB
  cases e
  exact ⟨l, rfl, R⟩
end Go.Proofs.Ytcacocndcfbmaaa

namespace Go.Proofs.Ytcacocndcfbmaaa.bookTells
open Go.ChangeShapes Go.WideShapes Go.ChangeAt Go.RowKit Go.Deep
open Go.ChangeMaps (open_string shut_string)
set_option linter.unusedVariables false
set_option linter.unusedSimpArgs false

theorem own : ownKnob Try.prog.godebug = none := by kernel_rfl
theorem laidOut : laidOutB Try.prog = true := by kernel_rfl
theorem sized_arg {H : Type} {ts : List TypeId} {ds : List (DataW H)} (h : (DataW.weightsEach Try.prog ts ds).all (· ≤ reachBytes) = true) {j : Nat} {t : TypeId} {d : DataW H} (ht : ts[j]? = some t) (hd : ds[j]? = some d) : ∀ k ∈ d.weights Try.prog t, k ≤ reachBytes := by
  intro k hk
  have := List.all_eq_true.1 h _ (DataW.weights_mem_each ht hd k hk)
  simpa using this

set_option maxRecDepth 100000 in
theorem lifted (os : Os) (started : os.Started) (H : Type) (enc : TypeId × Value → H) :
    ReturnsInHanded {} Try.checked os 3 .any (Rows.bookTellsSpec.pre6 enc Try.prog Try.f3 Rows.bookTellsRow.domain false) (Rows.bookTellsSpec.post enc Try.prog Try.f3 false true false false) := by
  refine returnsInHanded_of_change_sized (C := Try.checked) own started (by kernel_rfl) Try.func3
    (ChangeSpec.witness6 (enc := enc) (C := Try.checked) false ⟨#[], #[.int .i64 0, .int .i64 0, .slice none 0 0, .string ⟨#[]⟩, .int .i64 0], []⟩ 8 (by kernel_rfl) (by kernel_rfl) (by kernel_rfl) (by kernel_rfl)) ?_
  intro W base args ds gs before hval0 hW hcnd hsz0 _
  have hsz : (DataW.weightsEach Try.prog (Try.f3.params.toList ++ Rows.bookTellsSpec.plain.varTypes Try.prog) (ds ++ gs)).all (· ≤ reachBytes) = true := hsz0
  clear hsz0
  have hval : ∀ (j : Nat) t v, Try.f3.params[j]? = some t → args[j]? = some v → Value.okWide Try.prog W .any base t v := hval0
  have hW' := hW
  obtain ⟨p, q, hA0, hV, rfl, hfz, hnd⟩ := hW
  have hA : DataW.TrodAll enc Try.prog W 0 (fun _ => true) true Try.f3.params.toList args.toList ds p := hA0
  rw [Try.params3] at hA hval hsz
  obtain ⟨v0, vs0, d0, ds0, p0, q0, hargs, rfl, rfl, h0, r0⟩ := trodAll_cons hA
  obtain ⟨v1, vs1, d1, ds1, p1, q1, rfl, rfl, rfl, h1, r1⟩ := trodAll_cons r0
  obtain ⟨v2, vs2, d2, ds2, p2, q2, rfl, rfl, rfl, h2, r2⟩ := trodAll_cons r1
  obtain ⟨v3, vs3, d3, ds3, p3, q3, rfl, rfl, rfl, h3, r3⟩ := trodAll_cons r2
  obtain ⟨v4, vs4, d4, ds4, p4, q4, rfl, rfl, rfl, h4, r4⟩ := trodAll_cons r3
  obtain ⟨rfl, rfl, rfl⟩ := trodAll_nil r4
  obtain rfl : args = #[v0, v1, v2, v3, v4] := by cases args; simp_all
  obtain ⟨rfl, rfl⟩ := trodVars_none hV
  obtain ⟨a0, rfl, rfl, rfl, w0⟩ := open_int Try.underlying3 (hval 0 3 v0 rfl rfl) h0
  obtain ⟨a1, rfl, rfl, rfl, w1⟩ := open_int Try.underlying2 (hval 1 2 v1 rfl rfl) h1
  have k2 := h2
  have lt2 : ∀ x ∈ p2, x.block < W.heap.size := by obtain ⟨m, hm⟩ := k2; exact DataW.trod_lt m _ _ _ hm
  obtain ⟨a2, len2, cap2, rfl⟩ := okWide_slice Try.underlying22 (hval 2 22 v2 rfl rfl)
  obtain ⟨l2, rfl, O2⟩ := open_halves k2 (sized_arg hsz (j := 2) (t := 22) rfl rfl)
  obtain ⟨nm, rfl, rfl, rfl, w3⟩ := open_string Try.underlying9 (hval 3 9 v3 rfl rfl) h3
  obtain ⟨a4, rfl, rfl, rfl, w4⟩ := open_int Try.underlying3 (hval 4 3 v4 rfl rfl) h4
  clear hA0 hval0
  refine (tells_walk a0 a1 a2 cap2 l2 nm a4 W O2).mono fun e W' ⟨he, bel⟩ => ?_
  subst he
  exact ⟨_, rfl, _, _, _, [], _, [], hW', trodAll_mk1 (shut_bool Try.underlying4 _), (trodAll_cons_mk (shut_int Try.underlying3 w0) (trodAll_cons_mk (shut_int Try.underlying2 w1) (trodAll_cons_mk (Below.trod laidOut (by kernel_rfl) (of_decide_eq_true (by kernel_rfl)) k2 bel lt2) (trodAll_cons_mk (shut_string Try.underlying9 w3) (trodAll_cons_mk (shut_int Try.underlying3 w4) trodAll_mk0))))), rfl, bel.frame _, fun h => by cases h⟩

theorem over : Rows.bookTellsRow.holds Try.pinned (OpenSpec.ofChange Rows.bookTellsSpec) :=
  OpenClaim.holds_of_wide 3 Try.f3 rfl rfl rfl rfl rfl rfl rfl ⟨rfl, rfl, rfl, rfl, rfl⟩ rfl rfl rfl rfl rfl (by kernel_rfl) Try.func3 (by kernel_rfl)
    (of_decide_eq_true (by kernel_rfl)) (by unfold Func.isWrapper; first | (rw [if_pos (by decide +kernel)]; kernel_rfl) | (rw [if_neg (by decide +kernel)]; exact ⟨rfl, rfl⟩))
    (fun os started H enc _ => lifted os started H enc)

/-- The statement. -/
theorem proved : Rows.BookTellsSaid := over
#print axioms proved
end Go.Proofs.Ytcacocndcfbmaaa.bookTells
