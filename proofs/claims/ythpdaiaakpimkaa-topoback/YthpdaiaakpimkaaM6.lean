/-
  Package topo: the iterator of turns, which has no end of its own.
-/
import Derived.Test.YthpdaiaakpimkaaM5
import Derived.Shelf.Abstract
import Derived.Shelf.RegionOpen
import Derived.OwnWalkIn
import Derived.TacticsInMore
import Derived.LoopNIn
import Derived.LoopIn
import Derived.Sort.LoopGhostIn
import Derived.Scope
import Derived.ScopeJumps
import Derived.WalkMore
import Derived.RangeFuncCalls
namespace Go.Proofs.Ythpdaiaakpimkaa
open Go.ChangeShapes Go.WideShapes Go.ChangeAt Go.RowKit Go.Maps Go.Shelf
set_option linter.unusedVariables false
set_option linter.unusedSimpArgs false
attribute [local go_sem] Oper.semAt_some

/-- What the iterator leans on. -/
structure KeepI (w0 : World) (fb : Nat) (v : Value) (A : World) : Prop where
  ptr : One A fb v
  below : Below w0.heap.size w0 A
abbrev encP (x : Int × Int) : Array Value := #[.int .i64 x.1, .int .i64 x.2]
def trl (zs : List Int) (t N : Nat) : List (Int × Int) := (List.range N).map fun k : Nat => ((k : Int) + 1, zs.getD ((t + k) % zs.length) 0)
theorem trl_len (zs : List Int) (t N : Nat) : (trl zs t N).length = N := by simp [trl]
theorem trl_at {zs : List Int} {t N k : Nat} (h : k < N) : (trl zs t N)[k]? = some ((k : Int) + 1, zs.getD ((t + k) % zs.length) 0) := by simp [trl, h]
set_option maxRecDepth 100000 in
theorem turns_any (a : Option Addr) (len cap : Nat) (t : Int) (w : World) :
    Calls Try.prog 33 #[.slice a len cap, .int .i64 t] w fun e w' => e = .returned (.func (.func 34) #[] #[.pointer (some ⟨w.heap.size + 1, 0, none⟩), .pointer (some ⟨w.heap.size, 0, none⟩)]) ∧ w' = (w.alloc (.cells #[.slice a len cap] 22)).alloc (.cells #[.int .i64 t] 3) := by
  have hmf : ∀ (fn : Fn) (first cap : Array Value) (w : World), (Instr.makeFunc fn first cap).run Try.prog w = .ok (.func fn first cap) w := fun _ _ _ _ => rfl
  go_enter Try.func33, Try.ntmps33
  go_wp2
  go_ret
  exact ⟨rfl, rfl⟩
set_option maxRecDepth 100000 in
set_option maxHeartbeats 2000000 in
theorem turns_none (w0 : World) (fp fb : Nat) (a : Option Addr) (cap t : Nat) (w : World) (hT : One w fp (.int .i64 (t : Int))) :
    Gives Try.prog 34 #[.pointer (some ⟨fp, 0, none⟩), .pointer (some ⟨fb, 0, none⟩)] encP [] w (KeepI w0 fb (.slice a 0 cap)) := by
  intro lp J Jx W hbW hJ hJx hKeep hY h0 _
  have K0 := hKeep _ _ _ h0
  obtain ⟨o0, of0, oz0⟩ := id K0.ptr
  obtain ⟨p0, pf0, pz0⟩ := hT.below hbW
  refine (callsIn_wide (n := 2)).1 ?_
  refine callsIn_of_wp Try.func34 rfl trivial ?_
  simp only [Try.ntmps34, List.size_toArray, List.length_cons, List.length_nil, Nat.reduceAdd, Nat.reduceSub, Array.replicate_succ, Array.replicate_zero, List.push_toArray, List.append_toArray, List.nil_append, List.cons_append]
  gi_wp2
  gi_loopg [4, 5] 0 (fun g v4 v5 wr => v4 = .int .i64 (t : Int) ∧ wr = W)
  case atStart => exact ⟨rfl, rfl⟩
  case round =>
    obtain ⟨rfl, rfl⟩ := hrel
    gi_wp2_with (refine ⟨trivial, ?_⟩; gi_at_call 18; refine (callsIn_wide.2 (next_none a cap t _)).mono ?_; rintro e w1 ⟨rfl, hw⟩; rw [hw]; clear hw w1)
    refine ⟨(fun f h => by cases h), ?_⟩
    gi_wp2
    exact bodyPost_ret (v := .tuple #[]) (by simp [results, Try.results34, go_sem]) rfl ⟨⟨_, rfl⟩, fun _ => False, fun b h => h.elim, .inl h0⟩
set_option maxRecDepth 100000 in
set_option maxHeartbeats 8000000 in
theorem turns_gives (w0 : World) (fp fb : Nat) (a : Option Addr) (len cap : Nat) (zs : List Int) (t N : Nat) (w : World) (hr : Row w0 a len cap zs) (ht : t < len) (hN : 0 < N) (hN2 : N ≤ 1000000) (hT : One w fp (.int .i64 (t : Int))) :
    Gives Try.prog 34 #[.pointer (some ⟨fp, 0, none⟩), .pointer (some ⟨fb, 0, none⟩)] encP (trl zs t N) w (KeepI w0 fb (.slice a len cap)) := by
  intro lp J Jx W hbW hJ hJx hKeep hY h0 hend
  have hE : ∀ C A, ¬ J N C A := by
    have := hend.resolve_left (by rw [trl_len]; omega)
    rwa [trl_len] at this
  clear hend
  have HS : Hid (zs.length = len) := hr.size
  have K0 := hKeep _ _ _ h0
  obtain ⟨o0, of0, oz0⟩ := id K0.ptr
  obtain ⟨p0, pf0, pz0⟩ := hT.below hbW
  have HT : Hid (t < len) := ht
  have HN : Hid (N ≤ 1000000) := hN2
  clear hN2
  refine (callsIn_wide (n := 2)).1 ?_
  refine callsIn_of_wp Try.func34 rfl trivial ?_
  simp only [Try.ntmps34, List.size_toArray, List.length_cons, List.length_nil, Nat.reduceAdd, Nat.reduceSub, Array.replicate_succ, Array.replicate_zero, List.push_toArray, List.append_toArray, List.nil_append, List.cons_append]
  gi_wp2
  gi_loopg [4, 5] N (fun g v4 v5 wr => ∃ (k : Nat) (C : Nat → Prop), v4 = .int .i64 (((t + k) % len : Nat) : Int) ∧ v5 = .int .i64 ((k : Int) + 1) ∧ k + g = N ∧ J k C wr ∧ (∀ c, C c → W.heap.size ≤ c ∧ c < wr.heap.size) ∧ W.heap.size ≤ wr.heap.size)
  case atStart =>
    exact ⟨0, fun _ => False, by rw [Nat.add_zero, Nat.mod_eq_of_lt HT.out], by first | rfl | go_num, by omega, h0, fun c h => h.elim, Nat.le_refl _⟩
  case round =>
    obtain ⟨k, C, rfl, rfl, hg, hJk, hCw, hWs⟩ := hrel
    have hk : k < N := by
      by_cases h : k < N
      · exact h
      · have e : k = N := by omega
        rw [e] at hJk
        exact absurd hJk (hE _ _)
    have Kr := hKeep _ _ _ hJk
    obtain ⟨q0, qf0, qz0⟩ := id Kr.ptr
    have hx := trl_at (zs := zs) (t := t) hk
    have hm : (t + k) % len < len := Nat.mod_lt _ (by have := HT.out; omega)
    have KN := next_some a len cap zs ((t + k) % len) wr (hr.below Kr.below) hm
    have HP : Hid (((t + k) % len + 1) % len = (t + (k + 1)) % len) := by show _ = _; rw [Nat.mod_add_mod]; rfl
    rw [HS.out] at hx
    obtain ⟨x, hxe⟩ : ∃ x, zs.getD ((t + k) % len) 0 = x := ⟨_, rfl⟩
    rw [hxe] at hx KN
    rw [HP.out] at KN
    obtain ⟨m, hme⟩ : ∃ m, (t + k) % len = m := ⟨_, rfl⟩
    obtain ⟨m', hme'⟩ : ∃ m', (t + (k + 1)) % len = m' := ⟨_, rfl⟩
    rw [hme] at KN ⊢
    rw [hme'] at KN
    have HM' : Hid ((t + (k + 1)) % len = m') := hme'
    have HK : Hid (k < N) := hk
    have HG : Hid (k + gk = N) := hg
    clear hxe hme hme' HP hm hk hg
    gi_wp2_with (refine ⟨trivial, ?_⟩; gi_at_call 18; refine (callsIn_wide.2 KN).mono ?_; clear KN; rintro e w1 ⟨rfl, b1⟩; have J1 := hJ _ _ _ _ hJk (Same.of_below b1); obtain ⟨fn1, tmps, assign, body, hy, hR⟩ := hY k C _ w1 J1 (Nat.le_trans hWs b1.size) (fun c hc => ⟨(hCw c hc).1, Nat.lt_of_lt_of_le (hCw c hc).2 b1.size⟩) hx; dsimp only [encP] at hy hR)
    clear hy hY hx q0 qf0 qz0 Kr
    refine (RoundIn.wideAny hR).mono ?_
    clear hR
    rintro e W3 (⟨rfl, C', hJ3, t3⟩ | ⟨rfl, C', hx3, t3⟩)
    · have hs3 := t3.size
      have hC3 : ∀ c, C' c → W.heap.size ≤ c ∧ c < W3.heap.size := fun c hc => ⟨(t3.mine c hc).1, (t3.mine c hc).2.1⟩
      have hs4 : W.heap.size ≤ W3.heap.size := Nat.le_trans hWs (Nat.le_trans b1.size hs3)
      have hin : IntKind.i64.wrap ((k : Int) + 1 + 1) = (k : Int) + 1 + 1 := by rw [IntKind.wrap_i64]; have := HN.out; have := HK.out; omega
      clear hs3 t3
      gi_wp2
      gi_roundg (gk - 1)
      case measure => have := HK.out; have := HG.out; omega
      case rel => exact ⟨k + 1, C', by rw [HM'.out], by first | rfl | go_num | (congr 1), by have := HK.out; have := HG.out; omega, hJ3, hC3, hs4⟩
    · gi_wp2
      exact bodyPost_ret (v := .tuple #[]) (by simp [results, Try.results34, go_sem]) rfl ⟨⟨_, rfl⟩, C', fun b hb => ⟨(t3.mine b hb).1, (t3.mine b hb).2.1⟩, .inr hx3⟩
end Go.Proofs.Ythpdaiaakpimkaa
