/-
  Package bag: the keys of the map of severed pairs, handed out one by one, in whatever order.
-/
import Derived.Test.YtoppecppmjpgiaaBiA
import Derived.Test.YtoppecppmjpgiaaRangeL
import Derived.Test.YtoppecppmjpgiaaBlocks
import Derived.ChangeKeys
import Derived.Sort.MapsRangeIn
import Derived.Sort.KeysCollected
import Derived.Shelf.Abstract
import Derived.Shelf.RegionOpen
import Derived.OwnWalkIn
import Derived.TacticsInMore
import Derived.LoopNIn
import Derived.LoopIn
import Derived.Sort.LoopGhostIn
import Derived.Scope
import Derived.WalkMore
namespace Go.Proofs.Ytoppecppmjpgiaa
open Go.ChangeShapes Go.WideShapes Go.ChangeAt Go.RowKit Go.Maps Go.Shelf
set_option linter.unusedVariables false
set_option linter.unusedSimpArgs false
attribute [local go_sem] Oper.semAt_some

def Wf (x : Int) : Prop := (Lit.int .i64 x).wf = true
theorem kl_inj {a b c d : Int} (ha : Wf a) (hb : Wf b) (hc : Wf c) (hd : Wf d) (h : klOf a b = klOf c d) : a = c ∧ b = d := by
  unfold klOf at h
  have e := keyLits_inj (lits65 a b ha hb) (lits65 c d hc hd) (Lit.string.inj h)
  simpa using e
theorem lits3_of {d : Nat} {v : Value} {l : List Lit} (h : Try.prog.keyLits (d + 1) 3 [v] = some l) : ∃ x, v = .int .i64 x ∧ Wf x ∧ l = [.int .i64 x] := by
  unfold Program.keyLits at h
  simp only [Try.underlying3] at h
  cases v <;> simp at h
  rename_i k n
  obtain ⟨⟨rfl, hw⟩, rfl⟩ := h
  exact ⟨n, rfl, hw, rfl⟩
set_option maxRecDepth 100000 in
theorem lits65_of (d : Nat) {cs : List Value} {l : List Lit} (hc : cs.length = 2) (h : Try.prog.keyLits (d + 1 + 1) 65 cs = some l) : ∃ x y, cs = [.int .i64 x, .int .i64 y] ∧ Wf x ∧ Wf y ∧ l = [.int .i64 x, .int .i64 y] := by
  match cs, hc with
  | [u, v], _ =>
  unfold Program.keyLits at h
  simp only [Try.underlying65] at h
  simp [cells65, cells3, Option.bind_eq_some_iff] at h
  obtain ⟨l1, h1, l2, ⟨l3, h2, rfl⟩, e⟩ := h
  obtain ⟨x, rfl, hx, rfl⟩ := lits3_of h1
  obtain ⟨y, rfl, hy, rfl⟩ := lits3_of h2
  exact ⟨x, y, rfl, hx, hy, by simpa using e.symm⟩
theorem keyOf65 {key : Value} {kl : Lit} (h : keyOf Try.prog 65 key = some kl) : ∃ x : Int × Int, key = lnk x.1 x.2 ∧ kl = klOf x.1 x.2 ∧ Wf x.1 ∧ Wf x.2 := by
  simp [keyOf, Try.underlying65, kt65] at h
  obtain ⟨hf, l, hl, rfl⟩ := h
  cases key <;> simp [Value.formed, Try.underlying65, cells65] at hf
  rename_i cs
  obtain ⟨x, y, e, hx, hy, rfl⟩ := lits65_of 140 (by simpa [Value.cells] using hf) hl
  refine ⟨(x, y), ?_, rfl, hx, hy⟩
  have e' : cs.toList = [.int .i64 x, .int .i64 y] := by simpa [Value.cells] using e
  have : cs = (cs.toList).toArray := by simp
  rw [this, e']
/-- What has been handed out: each pair that the map has, and that is not to come any more, once. -/
def Coll (D : DataW Unit) (left : Lit → Bool) (ss : List (Int × Int)) : Prop :=
  ss.Nodup ∧ ∀ x, x ∈ ss ↔ ((Wf x.1 ∧ Wf x.2) ∧ has D (klOf x.1 x.2) = true ∧ left (klOf x.1 x.2) = false)
/-- The pairs that a map has. -/
def Keys (D : DataW Unit) (ss : List (Int × Int)) : Prop := ss.Nodup ∧ ∀ x, x ∈ ss ↔ ((Wf x.1 ∧ Wf x.2) ∧ has D (klOf x.1 x.2) = true)
theorem Coll.start (D : DataW Unit) : Coll D (has D) [] := ⟨List.nodup_nil, fun x => by cases has D (klOf x.1 x.2) <;> simp⟩
theorem Coll.step {D : DataW Unit} {left : Lit → Bool} {ss : List (Int × Int)} (h : Coll D left ss) {x : Int × Int} {y : DataW Unit} (hx : Wf x.1 ∧ Wf x.2) (hlk : left (klOf x.1 x.2) = true) (hat : ∀ zd, D.atKey (klOf x.1 x.2) zd = y) :
    Coll D (fun z => left z && !z.sameKey (klOf x.1 x.2)) (ss ++ [x]) := by
  have hhas : has D (klOf x.1 x.2) = true := has_true_of_atKey hat
  have hnot : x ∉ ss := fun hm => by have := ((h.2 x).1 hm).2.2; rw [hlk] at this; cases this
  refine ⟨?_, fun z => ?_⟩
  · rw [List.nodup_append]
    refine ⟨h.1, by simp, fun a ha b hb e => ?_⟩
    rw [List.mem_singleton] at hb
    subst hb; subst e
    exact hnot ha
  · rw [List.mem_append, List.mem_singleton, h.2 z]
    constructor
    · rintro (⟨hw, h1, h2⟩ | rfl)
      · exact ⟨hw, h1, by simp [h2]⟩
      · exact ⟨hx, hhas, by simp [Lit.sameKey, klOf]⟩
    · rintro ⟨hw, h1, h2⟩
      by_cases hl : left (klOf z.1 z.2) = true
      · right
        have h3 : (left (klOf z.1 z.2) && !(klOf z.1 z.2).sameKey (klOf x.1 x.2)) = false := h2
        rw [hl] at h3
        have e : klOf z.1 z.2 = klOf x.1 x.2 := by simpa [Lit.sameKey, klOf] using h3
        obtain ⟨e1, e2⟩ := kl_inj hw.1 hw.2 hx.1 hx.2 e
        exact Prod.ext e1 e2
      · exact .inl ⟨hw, h1, by simpa using hl⟩
theorem Coll.all {D : DataW Unit} {left : Lit → Bool} {ss : List (Int × Int)} (h : Coll D left ss) (hl : ∀ kl, left kl = false) : Keys D ss := ⟨h.1, fun x => by rw [h.2 x, hl]; simp⟩
theorem ranges_of {w w' : World} {k b r n : Nat} {R : Value → Option (DataW Unit × List MemPlace)} {D : DataW Unit} {left : Lit → Bool} {cnt : Nat} (h : w.ranges Try.prog k R b r n D left cnt) (hb : w'.heap[b]? = w.heap[b]?) (hr : w'.heap[r]? = w.heap[r]?) : w'.ranges Try.prog k R b r n D left cnt := by
  obtain ⟨es, clock, since, seen, c0, h1, F, hs, hD, h2, rest⟩ := h
  exact ⟨es, clock, since, seen, c0, hb.trans h1, F, hs, hD, hr.trans h2, rest⟩
/-- What the iterator leans on. -/
structure KeepK (Bm M : Nat) (o : Obj) (A : World) : Prop where
  box : One A Bm (.map (some M))
  map : A.heap[M]? = some o
abbrev encK (x : Int × Int) : Array Value := #[lnk x.1 x.2]
theorem keysf_any (M : Nat) (w : World) : Calls Try.prog 36 #[.map (some M)] w fun e w' => e = .returned (.func (.func 52) #[] #[.pointer (some ⟨w.heap.size, 0, none⟩)]) ∧ w' = w.alloc (.cells #[.map (some M)] 59) := by
  have hmf : ∀ (fn : Fn) (first cap : Array Value) (w : World), (Instr.makeFunc fn first cap).run Try.prog w = .ok (.func fn first cap) w := fun _ _ _ _ => rfl
  go_enter Try.func36, Try.ntmps36
  go_wp2
  go_ret
  exact ⟨rfl, rfl⟩
set_option maxRecDepth 100000 in
set_option maxHeartbeats 4000000 in
theorem keys_gives (Bm M kk : Nat) (D : DataW Unit) (w : World) (o : Obj) (hown : w.ownsMap Try.prog 65 (unitElem (H := Unit)) M kk D) (ho : w.heap[M]? = some o) :
    GivesL Try.prog 52 #[.pointer (some ⟨Bm, 0, none⟩)] encK (Maps.size D) (fun ss => Keys D ss ∧ ss.length ≤ Maps.size D) w (KeepK Bm M o) := by
  intro lp J Jx W hbW hJ hJx hKeep hY h0
  have K0 := hKeep _ _ _ h0
  obtain ⟨o0, of0, oz0⟩ := id K0.box
  have hownW : W.ownsMap Try.prog 65 (unitElem (H := Unit)) M kk D := owns_of hown (K0.map.trans ho.symm)
  refine (callsIn_wide (n := 2)).1 ?_
  refine callsIn_of_wp Try.func52 rfl trivial ?_
  simp only [Try.ntmps52, List.size_toArray, List.length_cons, List.length_nil, Nat.reduceAdd, Nat.reduceSub, Array.replicate_succ, Array.replicate_zero, List.push_toArray, List.append_toArray, List.nil_append, List.cons_append]
  gi_wp2_with (gi_at_range; refine wpListIn_range_own _ rfl _ 59 rfl 65 66 keyed65 Try.underlying59 _ M kk _ rfl hownW ?_; intro w0 hrg0 hg0 hs0)
  have B0 : Below W.heap.size W w0 := (Below.refl _ _).grown hg0 (Nat.le_refl _) (fun k e => by cases e)
  have J0 := hJ _ _ _ _ h0 (Same.of_below (n := W.heap.size) (C := fun _ => False) B0)
  clear hg0 B0
  go_frame
  gi_loopw [3] (fun _ wr => ∃ (left : Lit → Bool) (cnt : Nat) (ss : List (Int × Int)) (C : Nat → Prop), wr.ranges Try.prog 65 (unitElem (H := Unit)) M W.heap.size kk D left cnt ∧ ss.length + cnt ≤ Maps.size D ∧ Coll D left ss ∧ J ss C wr ∧ (∀ c, C c → W.heap.size + 1 ≤ c ∧ c < wr.heap.size) ∧ W.heap.size + 1 ≤ wr.heap.size)
    (fun _ wr => wr.rangeLeft M W.heap.size)
  case atStart => exact ⟨_, _, [], fun _ => False, hrg0, by simp, Coll.start D, J0, fun c h => h.elim, by omega⟩
  case round =>
    obtain ⟨left, cnt, ss, C, hrg, hcs, hC, hJs, hCw, hWs⟩ := hrel
    clear hrg0 J0 hs0
    gi_wp2_with (first
      | (gi_at_next; refine wpListIn_next_ranges _ rfl _ rfl 65 keyed65 (unitElem (H := Unit)) (fun x : Int × Int => lnk x.1 x.2) id (fun key kl hk => by obtain ⟨x, hx, _⟩ := keyOf65 hk; exact ⟨x, hx⟩) (fun v _ _ => ⟨v, rfl⟩) M W.heap.size kk _ _ _ rfl hrg ?_ ?_)
      | gi_in)
    · intro hc0 hl0
      gi_wp2
      go_end0
      exact ⟨⟨_, rfl⟩, C, fun c hc => ⟨by have := (hCw c hc).1; omega, (hCw c hc).2⟩, .inl ⟨ss, ⟨hC.all hl0, by omega⟩, hJs⟩⟩
    · intro x0 x1 c kl yd yp w2 cnt2 hkey hlk hv hat hrg2 hlt hg2 hs2 hen
      obtain ⟨x', ex, rfl, hwf⟩ := keyOf65 hkey
      have exx : (x0, x1) = x' := by
        obtain ⟨y0, y1⟩ := x'
        simpa using ex
      subst exx
      clear ex
      have sm2 : Same W.heap.size C wr w2 := ⟨hg2.os, hg2.tape, hg2.output, hg2.size, fun b hb hc => hg2.block b hb (fun e => by
        cases e
        rcases hc with hc | hc
        · omega
        · have := (hCw _ hc).1; omega)⟩
      have J2 := hJ _ _ _ _ hJs sm2
      have JA := hJ _ _ _ _ J2 (Same.alloc W.heap.size C w2 (.cells #[.int .i64 x0, .int .i64 x1] 65))
      have K2 := hKeep _ _ _ J2
      have hz1 : (w2.alloc (.cells #[.int .i64 x0, .int .i64 x1] 65)).heap.size = wr.heap.size + 1 := by simp [hs2]
      have HZ : Hid (w2.heap.size = wr.heap.size) := ⟨hs2⟩
      obtain ⟨fn1, tmps, assign, body, hy, hR⟩ := hY ss C (x0, x1) _ JA (by rw [hz1]; omega) (fun b hb => ⟨by have := (hCw b hb).1; omega, by have := (hCw b hb).2; rw [hz1]; omega⟩) (by omega)
      dsimp only [encK] at hy hR hen
      clear hs2
      gi_wp2
      clear hy hY
      refine (RoundIn.wideAny hR).mono ?_
      clear hR
      rintro e W3 (⟨rfl, C', hJ3, t3⟩ | ⟨rfl, C', hx3, t3⟩)
      · have K3 := hKeep _ _ _ hJ3
        have hr3 : W3.heap[W.heap.size]? = w2.heap[W.heap.size]? := (t3.keep _ (Nat.le_refl _) (by rw [hz1]; omega) (fun h => by have := (hCw _ h).1; omega)).trans (Below.heap_alloc _ _ _ (by have := HZ.out; omega))
        have hrg3 := ranges_of hrg2 (K3.map.trans K2.map.symm) hr3
        have hs3 := t3.size
        have hC3 : ∀ c, C' c → W.heap.size + 1 ≤ c ∧ c < W3.heap.size := fun c hc => ⟨(by
          rcases (t3.mine c hc).2.2 with x | x
          · exact (hCw c x).1
          · rw [hz1] at x; omega), (t3.mine c hc).2.1⟩
        have hW3 : W.heap.size + 1 ≤ W3.heap.size := by rw [hz1] at hs3; omega
        have hC4 := hC.step (x := (x0, x1)) hwf hlk hat
        gi_wp2
        go_roundw
        case rel => exact ⟨_, cnt2, ss ++ [(x0, x1)], C', hrg3, by simp; omega, hC4, hJ3, hC3, hW3⟩
        case measure => rw [hrg3.left_eq, hrg.left_eq]; exact hlt
      · gi_wp2
        exact bodyPost_ret (v := .tuple #[]) (by simp [results, Try.results52, go_sem]) rfl ⟨⟨_, rfl⟩, C', fun b hb => ⟨(t3.mine b hb).1, (t3.mine b hb).2.1⟩, .inr hx3⟩
end Go.Proofs.Ytoppecppmjpgiaa
