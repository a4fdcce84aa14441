/-
  Package plan: the pairs of a line, a tree, a full network, a grid, as they are handed out.
-/
import Derived.Test.YtpdmpekkmblgmaaP9b
namespace Go.Proofs.Ytpdmpekkmblgmaa
open Go.ChangeShapes Go.WideShapes Go.ChangeAt Go.RowKit Go.Maps Go.Shelf
set_option linter.unusedVariables false
set_option linter.unusedSimpArgs false
attribute [local go_sem] Oper.semAt_some

def lineL (n : Nat) : List LK := (List.range (n - 1)).map fun i : Nat => ((i : Int), (i : Int) + 1)
def treeL (n : Nat) (k : Int) : List LK := (List.range (n - 1)).map fun i : Nat => ((i : Int) / k, (i : Int) + 1)
theorem lineL_len (n : Nat) : (lineL n).length = n - 1 := by simp [lineL]
theorem treeL_len (n : Nat) (k : Int) : (treeL n k).length = n - 1 := by simp [treeL]
theorem lineL_at {n i : Nat} (h : i < n - 1) : (lineL n)[i]? = some ((i : Int), (i : Int) + 1) := by simp [lineL, h]
theorem treeL_at {n i : Nat} {k : Int} (h : i < n - 1) : (treeL n k)[i]? = some ((i : Int) / k, (i : Int) + 1) := by simp [treeL, h]
theorem line_any (n k : Int) (w : World) : Calls Try.prog 44 #[.int .i64 n, .int .i64 k] w fun e w' => e = .returned (.func (.func 60) #[] #[.pointer (some ⟨w.heap.size, 0, none⟩)]) ∧ w' = w.alloc (.cells #[.int .i64 n] 3) := by
  have hmf : ∀ (fn : Fn) (first cap : Array Value) (w : World), (Instr.makeFunc fn first cap).run Try.prog w = .ok (.func fn first cap) w := fun _ _ _ _ => rfl
  go_enter Try.func44, Try.ntmps44
  go_wp2
  go_ret
  exact ⟨rfl, rfl⟩
theorem full_any (n k : Int) (w : World) : Calls Try.prog 47 #[.int .i64 n, .int .i64 k] w fun e w' => e = .returned (.func (.func 62) #[] #[.pointer (some ⟨w.heap.size, 0, none⟩)]) ∧ w' = w.alloc (.cells #[.int .i64 n] 3) := by
  have hmf : ∀ (fn : Fn) (first cap : Array Value) (w : World), (Instr.makeFunc fn first cap).run Try.prog w = .ok (.func fn first cap) w := fun _ _ _ _ => rfl
  go_enter Try.func47, Try.ntmps47
  go_wp2
  go_ret
  exact ⟨rfl, rfl⟩
theorem ring_any (n k : Int) (w : World) : Calls Try.prog 45 #[.int .i64 n, .int .i64 k] w fun e w' => e = .returned (.func (.func 61) #[] #[.pointer (some ⟨w.heap.size, 0, none⟩)]) ∧ w' = w.alloc (.cells #[.int .i64 n] 3) := by
  have hmf : ∀ (fn : Fn) (first cap : Array Value) (w : World), (Instr.makeFunc fn first cap).run Try.prog w = .ok (.func fn first cap) w := fun _ _ _ _ => rfl
  go_enter Try.func45, Try.ntmps45
  go_wp2
  go_ret
  exact ⟨rfl, rfl⟩
theorem grid_any (n k : Int) (w : World) : Calls Try.prog 48 #[.int .i64 n, .int .i64 k] w fun e w' => e = .returned (.func (.func 63) #[] #[.pointer (some ⟨w.heap.size, 0, none⟩), .pointer (some ⟨w.heap.size + 1, 0, none⟩)]) ∧ w' = (w.alloc (.cells #[.int .i64 n] 3)).alloc (.cells #[.int .i64 k] 3) := by
  have hmf : ∀ (fn : Fn) (first cap : Array Value) (w : World), (Instr.makeFunc fn first cap).run Try.prog w = .ok (.func fn first cap) w := fun _ _ _ _ => rfl
  go_enter Try.func48, Try.ntmps48
  go_wp2
  go_ret
  exact ⟨rfl, rfl⟩
theorem tree_any (n k : Int) (w : World) : Calls Try.prog 49 #[.int .i64 n, .int .i64 k] w fun e w' => e = .returned (.func (.func 64) #[] #[.pointer (some ⟨w.heap.size, 0, none⟩), .pointer (some ⟨w.heap.size + 1, 0, none⟩)]) ∧ w' = (w.alloc (.cells #[.int .i64 n] 3)).alloc (.cells #[.int .i64 k] 3) := by
  have hmf : ∀ (fn : Fn) (first cap : Array Value) (w : World), (Instr.makeFunc fn first cap).run Try.prog w = .ok (.func fn first cap) w := fun _ _ _ _ => rfl
  go_enter Try.func49, Try.ntmps49
  go_wp2
  go_ret
  exact ⟨rfl, rfl⟩
theorem shuffled_any (n k : Int) (w : World) : Calls Try.prog 50 #[.int .i64 n, .int .i64 k] w fun e w' => e = .returned (.func (.func 65) #[] #[.pointer (some ⟨w.heap.size, 0, none⟩), .pointer (some ⟨w.heap.size + 1, 0, none⟩)]) ∧ w' = (w.alloc (.cells #[.int .i64 n] 3)).alloc (.cells #[.int .i64 k] 3) := by
  have hmf : ∀ (fn : Fn) (first cap : Array Value) (w : World), (Instr.makeFunc fn first cap).run Try.prog w = .ok (.func fn first cap) w := fun _ _ _ _ => rfl
  go_enter Try.func50, Try.ntmps50
  go_wp2
  go_ret
  exact ⟨rfl, rfl⟩
theorem star_any (n k : Int) (w : World) : Calls Try.prog 46 #[.int .i64 n, .int .i64 k] w fun e w' => e = .returned (.func (.func 64) #[] #[.pointer (some ⟨w.heap.size, 0, none⟩), .pointer (some ⟨w.heap.size + 1, 0, none⟩)]) ∧ w' = (w.alloc (.cells #[.int .i64 n] 3)).alloc (.cells #[.int .i64 n] 3) := by
  have K := tree_any n n w
  go_enter Try.func46, Try.ntmps46
  go_wp2_with (go_at_call 49; refine K.mono ?_; clear K; rintro e w1 ⟨rfl, hw⟩)
  go_ret
  exact ⟨rfl, by first | rfl | exact hw⟩
set_option maxRecDepth 100000 in
set_option maxHeartbeats 1000000 in
theorem line_gives (fb : Nat) (n : Nat) (hn : n ≤ 100000) (w : World) : Gives Try.prog 60 #[.pointer (some ⟨fb, 0, none⟩)] encL (lineL n) w (fun A => One A fb (.int .i64 (n : Int))) := by
  intro lp J Jx W hbW hJ hJx hKeep hY h0
  have K0 := hKeep _ _ _ h0
  refine (callsIn_wide (n := 2)).1 ?_
  refine callsIn_of_wp Try.func60 rfl trivial ?_
  simp only [Try.ntmps60, List.size_toArray, List.length_cons, List.length_nil, Nat.reduceAdd, Nat.reduceSub, Array.replicate_succ, Array.replicate_zero, List.push_toArray, List.append_toArray, List.nil_append, List.cons_append]
  have HN : Hid (n ≤ 100000) := hn
  have hsub : IntKind.i64.wrap ((n : Int) - 1) = (n : Int) - 1 := by rw [IntKind.wrap_i64]; omega
  obtain ⟨o0, o1, oz⟩ := id K0
  clear hn
  gi_wp2
  gi_loopg [6] n (fun g v6 wr => ∃ (i : Nat) (C : Nat → Prop), v6 = .int .i64 (i : Int) ∧ i + g = n ∧ i ≤ n - 1 ∧ J i C wr ∧ (∀ c, C c → W.heap.size ≤ c ∧ c < wr.heap.size) ∧ W.heap.size ≤ wr.heap.size)
  case atStart =>
    exact ⟨0, fun _ => False, by first | rfl | go_num, by omega, by omega, h0, fun c h => h.elim, Nat.le_refl _⟩
  case round =>
    obtain ⟨i, C, rfl, hg, hle, hJi, hCw, hWs⟩ := hrel
    by_cases hi : (i : Int) < (n : Int) - 1
    · have hadd : IntKind.i64.wrap ((i : Int) + 1) = (i : Int) + 1 := by rw [IntKind.wrap_i64]; have := HN.out; omega
      obtain ⟨fn1, tmps, assign, body, hy, hR⟩ := hY i C _ _ hJi hWs (fun c hc => hCw c hc) (lineL_at (by omega))
      dsimp only [encL] at hy hR
      clear hY K0
      gi_wp2
      clear hy
      refine (RoundIn.wideAny hR).mono ?_
      clear hR
      rintro e W3 (⟨rfl, C', hJ3, t3⟩ | ⟨rfl, C', hx3, t3⟩)
      · have hs3 := t3.size
        have hC3 : ∀ c, C' c → W.heap.size ≤ c ∧ c < W3.heap.size := fun c hc => ⟨(t3.mine c hc).1, (t3.mine c hc).2.1⟩
        have hs4 : W.heap.size ≤ W3.heap.size := Nat.le_trans hWs hs3
        have Kr3 := hKeep _ _ _ hJ3
        clear hs3 t3
        gi_wp2
        gi_roundg (gk - 1)
        case measure => omega
        case rel => exact ⟨i + 1, C', by first | rfl | go_num, by omega, by omega, hJ3, hC3, hs4⟩
      · gi_wp2
        exact bodyPost_ret (v := .tuple #[]) (by simp [results, Try.results60, go_sem]) rfl ⟨⟨_, rfl⟩, C', fun b hb => ⟨(t3.mine b hb).1, (t3.mine b hb).2.1⟩, .inr hx3⟩
    · have HI : Hid (i = (lineL n).length) := by show _ = _; rw [lineL_len]; omega
      gi_wp2
      exact bodyPost_end (v := .tuple #[]) (by simp [results, Try.results60, go_sem]) rfl ⟨⟨_, rfl⟩, C, hCw, .inl (by rw [← HI.out]; exact hJi)⟩
set_option maxRecDepth 100000 in
set_option maxHeartbeats 1000000 in
theorem tree_gives (fa fb : Nat) (n : Nat) (k : Int) (hn : n ≤ 100000) (hk : 1 ≤ k) (hk2 : k ≤ 9223372036854775807) (w : World) : Gives Try.prog 64 #[.pointer (some ⟨fa, 0, none⟩), .pointer (some ⟨fb, 0, none⟩)] encL (treeL n k) w (fun A => One A fa (.int .i64 (n : Int)) ∧ One A fb (.int .i64 k)) := by
  intro lp J Jx W hbW hJ hJx hKeep hY h0
  have K0 := hKeep _ _ _ h0
  refine (callsIn_wide (n := 2)).1 ?_
  refine callsIn_of_wp Try.func64 rfl trivial ?_
  simp only [Try.ntmps64, List.size_toArray, List.length_cons, List.length_nil, Nat.reduceAdd, Nat.reduceSub, Array.replicate_succ, Array.replicate_zero, List.push_toArray, List.append_toArray, List.nil_append, List.cons_append]
  have HN : Hid (n ≤ 100000) := hn
  have hk0 : (k == 0) = false := by simp; omega
  have hk0' : k ≠ 0 := by omega
  have HK : Hid (1 ≤ k) := hk
  clear hn hk hk2
  gi_wp2
  gi_loopg [4] n (fun g v4 wr => ∃ (i : Nat) (C : Nat → Prop), v4 = .int .i64 ((i : Int) + 1) ∧ i + g = n ∧ i ≤ n - 1 ∧ J i C wr ∧ (∀ c, C c → W.heap.size ≤ c ∧ c < wr.heap.size) ∧ W.heap.size ≤ wr.heap.size)
  case atStart =>
    exact ⟨0, fun _ => False, by first | rfl | go_num, by omega, by omega, h0, fun c h => h.elim, Nat.le_refl _⟩
  case round =>
    obtain ⟨i, C, rfl, hg, hle, hJi, hCw, hWs⟩ := hrel
    have Kr := hKeep _ _ _ hJi
    obtain ⟨⟨o0, o1, oz⟩, ⟨p0, p1, pz⟩⟩ := id Kr
    by_cases hi : (i : Int) + 1 < (n : Int)
    · have hadd : IntKind.i64.wrap ((i : Int) + 1 + 1) = (i : Int) + 1 + 1 := by rw [IntKind.wrap_i64]; have := HN.out; omega
      have hsub : IntKind.i64.wrap ((i : Int) + 1 - 1) = (i : Int) := by rw [IntKind.wrap_i64]; have := HN.out; omega
      have hx := treeL_at (k := k) (show i < n - 1 by omega)
      obtain ⟨d, hd⟩ : ∃ d, (i : Int) / k = d := ⟨_, rfl⟩
      have hdiv : Int.tdiv (i : Int) k = d := by rw [← hd]; exact Int.tdiv_eq_ediv_of_nonneg (by omega)
      have hlt : d ≤ (i : Int) := by rw [← hd]; exact Int.ediv_le_self _ (by omega)
      have hge : 0 ≤ d := by rw [← hd]; exact Int.ediv_nonneg (by omega) (by have := HK.out; omega)
      have hw0 : IntKind.i64.wrap (i : Int) = (i : Int) := by rw [IntKind.wrap_i64]; have := HN.out; omega
      have hw1 : IntKind.i64.wrap d = d := by rw [IntKind.wrap_i64]; have := HN.out; omega
      rw [hd] at hx
      obtain ⟨fn1, tmps, assign, body, hy, hR⟩ := hY i C _ _ hJi hWs (fun c hc => hCw c hc) hx
      clear hd hlt hge hx hsub
      dsimp only [encL] at hy hR
      clear hY K0
      gi_wp2
      clear hy
      refine (RoundIn.wideAny hR).mono ?_
      clear hR
      rintro e W3 (⟨rfl, C', hJ3, t3⟩ | ⟨rfl, C', hx3, t3⟩)
      · have hs3 := t3.size
        have hC3 : ∀ c, C' c → W.heap.size ≤ c ∧ c < W3.heap.size := fun c hc => ⟨(t3.mine c hc).1, (t3.mine c hc).2.1⟩
        have hs4 : W.heap.size ≤ W3.heap.size := Nat.le_trans hWs hs3
        have Kr3 := hKeep _ _ _ hJ3
        clear hs3 t3
        gi_wp2
        gi_roundg (gk - 1)
        case measure => omega
        case rel => exact ⟨i + 1, C', by first | rfl | go_num | (congr 1), by omega, by omega, hJ3, hC3, hs4⟩
      · gi_wp2
        exact bodyPost_ret (v := .tuple #[]) (by simp [results, Try.results64, go_sem]) rfl ⟨⟨_, rfl⟩, C', fun b hb => ⟨(t3.mine b hb).1, (t3.mine b hb).2.1⟩, .inr hx3⟩
    · have HI : Hid (i = (treeL n k).length) := by show _ = _; rw [treeL_len]; omega
      gi_wp2
      exact bodyPost_end (v := .tuple #[]) (by simp [results, Try.results64, go_sem]) rfl ⟨⟨_, rfl⟩, C, hCw, .inl (by rw [← HI.out]; exact hJi)⟩
end Go.Proofs.Ytpdmpekkmblgmaa
