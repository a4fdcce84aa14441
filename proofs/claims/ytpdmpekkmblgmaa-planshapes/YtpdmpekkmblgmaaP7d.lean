/-
  Package plan: a grid.
-/
import Derived.Test.YtpdmpekkmblgmaaP7c
namespace Go.Proofs.Ytpdmpekkmblgmaa
open Go.ChangeShapes Go.WideShapes Go.ChangeAt Go.RowKit Go.Maps Go.Shelf
set_option linter.unusedVariables false
set_option linter.unusedSimpArgs false
attribute [local go_sem] Oper.semAt_some

def gridR (n : Nat) (k : Int) (i : Nat) : List LK := (if (i : Int) + 1 < (n : Int) ∧ Int.tmod ((i : Int) + 1) k ≠ 0 then [((i : Int), (i : Int) + 1)] else []) ++ (if k < (n : Int) - (i : Int) then [((i : Int), (i : Int) + k)] else [])
def gridL (n : Nat) (k : Int) : Nat → List LK
  | 0 => []
  | b + 1 => gridL n k b ++ gridR n k b
theorem gridL_take {n : Nat} {k : Int} {b m : Nat} (h : b ≤ m) : ∃ r, gridL n k m = gridL n k b ++ r := by
  induction m with
  | zero => exact ⟨[], by rw [show b = 0 by omega]; rfl⟩
  | succ m ih =>
    by_cases hb : b = m + 1
    · subst hb; exact ⟨[], by simp⟩
    · obtain ⟨r, hr⟩ := ih (by omega)
      exact ⟨r ++ gridR n k m, by rw [gridL, hr, List.append_assoc]⟩
theorem gridL_at {n : Nat} {k : Int} {b m j : Nat} {x : LK} (hb : b < m) (hx : (gridR n k b)[j]? = some x) : (gridL n k m)[(gridL n k b).length + j]? = some x := by
  obtain ⟨r, hr⟩ := gridL_take (n := n) (k := k) (show b + 1 ≤ m by omega)
  have hj := (List.getElem?_eq_some_iff.1 hx).1
  rw [hr, gridL, List.append_assoc, List.getElem?_append_right (by omega), Nat.add_sub_cancel_left, List.getElem?_append_left hj, hx]
set_option maxRecDepth 100000 in
set_option maxHeartbeats 1000000 in
theorem grid_gives (fa fb : Nat) (n : Nat) (k : Int) (hn : n ≤ 1000) (hk : 1 ≤ k) (hk2 : k ≤ 9223372036854775807) (w : World) : Gives Try.prog 63 #[.pointer (some ⟨fa, 0, none⟩), .pointer (some ⟨fb, 0, none⟩)] encL (gridL n k n) w (fun A => One A fa (.int .i64 (n : Int)) ∧ One A fb (.int .i64 k)) := by
  intro lp J Jx W hbW hJ hJx hKeep hY h0
  have K0 := hKeep _ _ _ h0
  refine (callsIn_wide (n := 2)).1 ?_
  refine callsIn_of_wp Try.func63 rfl trivial ?_
  simp only [Try.ntmps63, List.size_toArray, List.length_cons, List.length_nil, Nat.reduceAdd, Nat.reduceSub, Array.replicate_succ, Array.replicate_zero, List.push_toArray, List.append_toArray, List.nil_append, List.cons_append]
  have HN : Hid (n ≤ 1000) := hn
  have hk0 : (k == 0) = false := by simp; omega
  have hk0' : k ≠ 0 := by omega
  have HK : Hid (1 ≤ k ∧ k ≤ 9223372036854775807) := ⟨hk, hk2⟩
  obtain ⟨⟨o0, o1, oz⟩, ⟨p0, p1, pz⟩⟩ := id K0
  clear hn hk hk2
  gi_wp2
  gi_loopg [6] n (fun g v6 wr => ∃ (i : Nat) (C : Nat → Prop), v6 = .int .i64 (i : Int) ∧ i + g = n ∧ J (gridL n k i).length C wr ∧ (∀ c, C c → W.heap.size ≤ c ∧ c < wr.heap.size) ∧ W.heap.size ≤ wr.heap.size)
  case atStart =>
    exact ⟨0, fun _ => False, by first | rfl | go_num, by omega, h0, fun c h => h.elim, Nat.le_refl _⟩
  case round =>
    clear K0 h0 o0 o1 oz p0 p1 pz
    obtain ⟨i, C, rfl, hg, hJi, hCw, hWs⟩ := hrel
    have Kr := hKeep _ _ _ hJi
    obtain ⟨⟨o0, o1, oz⟩, ⟨p0, p1, pz⟩⟩ := id Kr
    by_cases hi : i < n
    · have hiI : (i : Int) < (n : Int) := by omega
      have hadd : IntKind.i64.wrap ((i : Int) + 1) = (i : Int) + 1 := by rw [IntKind.wrap_i64]; have := HN.out; omega
      have hsub : IntKind.i64.wrap ((n : Int) - (i : Int)) = (n : Int) - (i : Int) := by rw [IntKind.wrap_i64]; have := HN.out; omega
      have HI : Hid (i < n) := hi
      obtain ⟨d, hd⟩ : ∃ d, Int.tmod ((i : Int) + 1) k = d := ⟨_, rfl⟩
      have hlt : d < k := by rw [← hd]; exact Int.tmod_lt_of_pos _ (by have := HK.out; omega)
      have hge : 0 ≤ d := by rw [← hd]; exact Int.tmod_nonneg _ (by omega)
      have hw1 : IntKind.i64.wrap d = d := by rw [IntKind.wrap_i64]; have := HK.out; omega
      clear hlt hge
      by_cases h2 : k < (n : Int) - (i : Int)
      · have hadk : IntKind.i64.wrap ((i : Int) + k) = (i : Int) + k := by rw [IntKind.wrap_i64]; have := HN.out; have := HK.out; omega
        by_cases h1 : (i : Int) + 1 < (n : Int)
        · by_cases hdz : d = 0
          · have HG : Hid (gridR n k i = [((i : Int), (i : Int) + k)]) := by show _ = _; unfold gridR; rw [hd, if_neg (by simp [hdz]), if_pos h2]; rfl
            subst hdz
            have HL : Hid ((gridL n k (i + 1)).length = (gridL n k i).length + 1) := by show _ = _; rw [gridL, List.length_append, HG.out]; rfl
            have hx := gridL_at (m := n) (j := 0) HI.out (by rw [HG.out]; rfl)
            obtain ⟨fn1, tmps, assign, body, hy, hR⟩ := hY _ C _ _ hJi hWs (fun c hc => hCw c hc) hx
            dsimp only [encL] at hy hR
            clear hY hx
            gi_wp2_with (first | ((with_reducible show wpListIn _ _ _ _ _ (Oper.mk (some 26) _ _ _ _ _ :: _) _ _); refine wpListIn_skip (by rfl) (by rfl) ?_) | ((with_reducible show wpListIn _ _ _ _ _ (Oper.mk (some 27) _ _ _ _ _ :: _) _ _); refine wpListIn_skip (by rfl) (by rfl) ?_) | ((with_reducible show wpListIn _ _ _ _ _ (Oper.mk (some 41) _ _ _ _ _ :: _) _ _); refine wpListIn_skip (by rfl) (by rfl) ?_) | ((with_reducible show wpListIn _ _ _ _ _ (Oper.mk (some 42) _ _ _ _ _ :: _) _ _); refine wpListIn_skip (by rfl) (by rfl) ?_))
            clear hy
            refine (RoundIn.wideAny hR).mono ?_
            clear hR
            rintro e W3 (⟨rfl, C3, hJW3, tW3⟩ | ⟨rfl, C3, hxW3, tW3⟩)
            · have hs3 := tW3.size
              have hCW3 : ∀ c, C3 c → W.heap.size ≤ c ∧ c < W3.heap.size := fun c hc => ⟨(tW3.mine c hc).1, (tW3.mine c hc).2.1⟩
              have hsW3 : W.heap.size ≤ W3.heap.size := Nat.le_trans hWs hs3
              have KrW3 := hKeep _ _ _ hJW3
              obtain ⟨⟨o0W3, o1W3, ozW3⟩, ⟨p0W3, p1W3, pzW3⟩⟩ := id KrW3
              clear hs3 tW3
              gi_wp2_with (first | ((with_reducible show wpListIn _ _ _ _ _ (Oper.mk (some 26) _ _ _ _ _ :: _) _ _); refine wpListIn_skip (by rfl) (by rfl) ?_) | ((with_reducible show wpListIn _ _ _ _ _ (Oper.mk (some 27) _ _ _ _ _ :: _) _ _); refine wpListIn_skip (by rfl) (by rfl) ?_) | ((with_reducible show wpListIn _ _ _ _ _ (Oper.mk (some 41) _ _ _ _ _ :: _) _ _); refine wpListIn_skip (by rfl) (by rfl) ?_) | ((with_reducible show wpListIn _ _ _ _ _ (Oper.mk (some 42) _ _ _ _ _ :: _) _ _); refine wpListIn_skip (by rfl) (by rfl) ?_))
              gi_roundg (gk - 1)
              case measure => omega
              case rel => exact ⟨i + 1, C3, by first | rfl | go_num, by omega, by rw [HL.out]; exact hJW3, hCW3, hsW3⟩
            · gi_wp2_with (first | ((with_reducible show wpListIn _ _ _ _ _ (Oper.mk (some 26) _ _ _ _ _ :: _) _ _); refine wpListIn_skip (by rfl) (by rfl) ?_) | ((with_reducible show wpListIn _ _ _ _ _ (Oper.mk (some 27) _ _ _ _ _ :: _) _ _); refine wpListIn_skip (by rfl) (by rfl) ?_) | ((with_reducible show wpListIn _ _ _ _ _ (Oper.mk (some 41) _ _ _ _ _ :: _) _ _); refine wpListIn_skip (by rfl) (by rfl) ?_) | ((with_reducible show wpListIn _ _ _ _ _ (Oper.mk (some 42) _ _ _ _ _ :: _) _ _); refine wpListIn_skip (by rfl) (by rfl) ?_))
              exact bodyPost_ret (v := .tuple #[]) (by simp [results, Try.results63, go_sem]) rfl ⟨⟨_, rfl⟩, C3, fun b hb => ⟨(tW3.mine b hb).1, (tW3.mine b hb).2.1⟩, .inr hxW3⟩
          · have hdz' : (d == 0) = false := by simpa using hdz
            have HG : Hid (gridR n k i = [((i : Int), (i : Int) + 1), ((i : Int), (i : Int) + k)]) := by show _ = _; unfold gridR; rw [hd, if_pos ⟨h1, hdz⟩, if_pos h2]; rfl
            have HL : Hid ((gridL n k (i + 1)).length = (gridL n k i).length + 2) := by show _ = _; rw [gridL, List.length_append, HG.out]; rfl
            have hx := gridL_at (m := n) (j := 0) HI.out (by rw [HG.out]; rfl)
            have hx2 := gridL_at (m := n) (j := 1) HI.out (by rw [HG.out]; rfl)
            obtain ⟨fn1, tmps, assign, body, hy, hR⟩ := hY _ C _ _ hJi hWs (fun c hc => hCw c hc) hx
            dsimp only [encL] at hy hR
            clear hx
            gi_wp2_with (first | ((with_reducible show wpListIn _ _ _ _ _ (Oper.mk (some 26) _ _ _ _ _ :: _) _ _); refine wpListIn_skip (by rfl) (by rfl) ?_) | ((with_reducible show wpListIn _ _ _ _ _ (Oper.mk (some 27) _ _ _ _ _ :: _) _ _); refine wpListIn_skip (by rfl) (by rfl) ?_) | ((with_reducible show wpListIn _ _ _ _ _ (Oper.mk (some 41) _ _ _ _ _ :: _) _ _); refine wpListIn_skip (by rfl) (by rfl) ?_) | ((with_reducible show wpListIn _ _ _ _ _ (Oper.mk (some 42) _ _ _ _ _ :: _) _ _); refine wpListIn_skip (by rfl) (by rfl) ?_))

            clear hy
            refine (RoundIn.wideAny hR).mono ?_
            clear hR
            rintro e W3 (⟨rfl, C3, hJW3, tW3⟩ | ⟨rfl, C3, hxW3, tW3⟩)
            · have hs3 := tW3.size
              have hCW3 : ∀ c, C3 c → W.heap.size ≤ c ∧ c < W3.heap.size := fun c hc => ⟨(tW3.mine c hc).1, (tW3.mine c hc).2.1⟩
              have hsW3 : W.heap.size ≤ W3.heap.size := Nat.le_trans hWs hs3
              have KrW3 := hKeep _ _ _ hJW3
              obtain ⟨⟨o0W3, o1W3, ozW3⟩, ⟨p0W3, p1W3, pzW3⟩⟩ := id KrW3
              clear hs3 tW3
              obtain ⟨fn1, tmps, assign, body, hy, hR⟩ := hY _ C3 _ _ hJW3 hsW3 (fun c hc => hCW3 c hc) hx2
              dsimp only [encL] at hy hR
              clear hY hx2
              gi_wp2_with (first | ((with_reducible show wpListIn _ _ _ _ _ (Oper.mk (some 26) _ _ _ _ _ :: _) _ _); refine wpListIn_skip (by rfl) (by rfl) ?_) | ((with_reducible show wpListIn _ _ _ _ _ (Oper.mk (some 27) _ _ _ _ _ :: _) _ _); refine wpListIn_skip (by rfl) (by rfl) ?_) | ((with_reducible show wpListIn _ _ _ _ _ (Oper.mk (some 41) _ _ _ _ _ :: _) _ _); refine wpListIn_skip (by rfl) (by rfl) ?_) | ((with_reducible show wpListIn _ _ _ _ _ (Oper.mk (some 42) _ _ _ _ _ :: _) _ _); refine wpListIn_skip (by rfl) (by rfl) ?_))
              clear hy
              refine (RoundIn.wideAny hR).mono ?_
              clear hR
              rintro e W5 (⟨rfl, C5, hJW5, tW5⟩ | ⟨rfl, C5, hxW5, tW5⟩)
              · have hs3 := tW5.size
                have hCW5 : ∀ c, C5 c → W.heap.size ≤ c ∧ c < W5.heap.size := fun c hc => ⟨(tW5.mine c hc).1, (tW5.mine c hc).2.1⟩
                have hsW5 : W.heap.size ≤ W5.heap.size := Nat.le_trans hsW3 hs3
                have KrW5 := hKeep _ _ _ hJW5
                obtain ⟨⟨o0W5, o1W5, ozW5⟩, ⟨p0W5, p1W5, pzW5⟩⟩ := id KrW5
                clear hs3 tW5
                gi_wp2_with (first | ((with_reducible show wpListIn _ _ _ _ _ (Oper.mk (some 26) _ _ _ _ _ :: _) _ _); refine wpListIn_skip (by rfl) (by rfl) ?_) | ((with_reducible show wpListIn _ _ _ _ _ (Oper.mk (some 27) _ _ _ _ _ :: _) _ _); refine wpListIn_skip (by rfl) (by rfl) ?_) | ((with_reducible show wpListIn _ _ _ _ _ (Oper.mk (some 41) _ _ _ _ _ :: _) _ _); refine wpListIn_skip (by rfl) (by rfl) ?_) | ((with_reducible show wpListIn _ _ _ _ _ (Oper.mk (some 42) _ _ _ _ _ :: _) _ _); refine wpListIn_skip (by rfl) (by rfl) ?_))
                gi_roundg (gk - 1)
                case measure => omega
                case rel => exact ⟨i + 1, C5, by first | rfl | go_num, by omega, by rw [HL.out]; exact hJW5, hCW5, hsW5⟩
              · gi_wp2_with (first | ((with_reducible show wpListIn _ _ _ _ _ (Oper.mk (some 26) _ _ _ _ _ :: _) _ _); refine wpListIn_skip (by rfl) (by rfl) ?_) | ((with_reducible show wpListIn _ _ _ _ _ (Oper.mk (some 27) _ _ _ _ _ :: _) _ _); refine wpListIn_skip (by rfl) (by rfl) ?_) | ((with_reducible show wpListIn _ _ _ _ _ (Oper.mk (some 41) _ _ _ _ _ :: _) _ _); refine wpListIn_skip (by rfl) (by rfl) ?_) | ((with_reducible show wpListIn _ _ _ _ _ (Oper.mk (some 42) _ _ _ _ _ :: _) _ _); refine wpListIn_skip (by rfl) (by rfl) ?_))
                exact bodyPost_ret (v := .tuple #[]) (by simp [results, Try.results63, go_sem]) rfl ⟨⟨_, rfl⟩, C5, fun b hb => ⟨(tW5.mine b hb).1, (tW5.mine b hb).2.1⟩, .inr hxW5⟩
            · gi_wp2_with (first | ((with_reducible show wpListIn _ _ _ _ _ (Oper.mk (some 26) _ _ _ _ _ :: _) _ _); refine wpListIn_skip (by rfl) (by rfl) ?_) | ((with_reducible show wpListIn _ _ _ _ _ (Oper.mk (some 27) _ _ _ _ _ :: _) _ _); refine wpListIn_skip (by rfl) (by rfl) ?_) | ((with_reducible show wpListIn _ _ _ _ _ (Oper.mk (some 41) _ _ _ _ _ :: _) _ _); refine wpListIn_skip (by rfl) (by rfl) ?_) | ((with_reducible show wpListIn _ _ _ _ _ (Oper.mk (some 42) _ _ _ _ _ :: _) _ _); refine wpListIn_skip (by rfl) (by rfl) ?_))
              exact bodyPost_ret (v := .tuple #[]) (by simp [results, Try.results63, go_sem]) rfl ⟨⟨_, rfl⟩, C3, fun b hb => ⟨(tW3.mine b hb).1, (tW3.mine b hb).2.1⟩, .inr hxW3⟩
        · have HG : Hid (gridR n k i = [((i : Int), (i : Int) + k)]) := by show _ = _; unfold gridR; rw [if_neg (by omega), if_pos h2]; rfl
          have HL : Hid ((gridL n k (i + 1)).length = (gridL n k i).length + 1) := by show _ = _; rw [gridL, List.length_append, HG.out]; rfl
          have hx := gridL_at (m := n) (j := 0) HI.out (by rw [HG.out]; rfl)
          obtain ⟨fn1, tmps, assign, body, hy, hR⟩ := hY _ C _ _ hJi hWs (fun c hc => hCw c hc) hx
          dsimp only [encL] at hy hR
          clear hY hx
          gi_wp2_with (first | ((with_reducible show wpListIn _ _ _ _ _ (Oper.mk (some 26) _ _ _ _ _ :: _) _ _); refine wpListIn_skip (by rfl) (by rfl) ?_) | ((with_reducible show wpListIn _ _ _ _ _ (Oper.mk (some 27) _ _ _ _ _ :: _) _ _); refine wpListIn_skip (by rfl) (by rfl) ?_) | ((with_reducible show wpListIn _ _ _ _ _ (Oper.mk (some 41) _ _ _ _ _ :: _) _ _); refine wpListIn_skip (by rfl) (by rfl) ?_) | ((with_reducible show wpListIn _ _ _ _ _ (Oper.mk (some 42) _ _ _ _ _ :: _) _ _); refine wpListIn_skip (by rfl) (by rfl) ?_))
          clear hy
          refine (RoundIn.wideAny hR).mono ?_
          clear hR
          rintro e W3 (⟨rfl, C3, hJW3, tW3⟩ | ⟨rfl, C3, hxW3, tW3⟩)
          · have hs3 := tW3.size
            have hCW3 : ∀ c, C3 c → W.heap.size ≤ c ∧ c < W3.heap.size := fun c hc => ⟨(tW3.mine c hc).1, (tW3.mine c hc).2.1⟩
            have hsW3 : W.heap.size ≤ W3.heap.size := Nat.le_trans hWs hs3
            have KrW3 := hKeep _ _ _ hJW3
            obtain ⟨⟨o0W3, o1W3, ozW3⟩, ⟨p0W3, p1W3, pzW3⟩⟩ := id KrW3
            clear hs3 tW3
            gi_wp2_with (first | ((with_reducible show wpListIn _ _ _ _ _ (Oper.mk (some 26) _ _ _ _ _ :: _) _ _); refine wpListIn_skip (by rfl) (by rfl) ?_) | ((with_reducible show wpListIn _ _ _ _ _ (Oper.mk (some 27) _ _ _ _ _ :: _) _ _); refine wpListIn_skip (by rfl) (by rfl) ?_) | ((with_reducible show wpListIn _ _ _ _ _ (Oper.mk (some 41) _ _ _ _ _ :: _) _ _); refine wpListIn_skip (by rfl) (by rfl) ?_) | ((with_reducible show wpListIn _ _ _ _ _ (Oper.mk (some 42) _ _ _ _ _ :: _) _ _); refine wpListIn_skip (by rfl) (by rfl) ?_))
            gi_roundg (gk - 1)
            case measure => omega
            case rel => exact ⟨i + 1, C3, by first | rfl | go_num, by omega, by rw [HL.out]; exact hJW3, hCW3, hsW3⟩
          · gi_wp2_with (first | ((with_reducible show wpListIn _ _ _ _ _ (Oper.mk (some 26) _ _ _ _ _ :: _) _ _); refine wpListIn_skip (by rfl) (by rfl) ?_) | ((with_reducible show wpListIn _ _ _ _ _ (Oper.mk (some 27) _ _ _ _ _ :: _) _ _); refine wpListIn_skip (by rfl) (by rfl) ?_) | ((with_reducible show wpListIn _ _ _ _ _ (Oper.mk (some 41) _ _ _ _ _ :: _) _ _); refine wpListIn_skip (by rfl) (by rfl) ?_) | ((with_reducible show wpListIn _ _ _ _ _ (Oper.mk (some 42) _ _ _ _ _ :: _) _ _); refine wpListIn_skip (by rfl) (by rfl) ?_))
            exact bodyPost_ret (v := .tuple #[]) (by simp [results, Try.results63, go_sem]) rfl ⟨⟨_, rfl⟩, C3, fun b hb => ⟨(tW3.mine b hb).1, (tW3.mine b hb).2.1⟩, .inr hxW3⟩
      · by_cases h1 : (i : Int) + 1 < (n : Int)
        · by_cases hdz : d = 0
          · have HG : Hid (gridR n k i = []) := by show _ = _; unfold gridR; rw [hd, if_neg (by simp [hdz]), if_neg h2]; rfl
            subst hdz
            have HL : Hid ((gridL n k (i + 1)).length = (gridL n k i).length) := by show _ = _; rw [gridL, List.length_append, HG.out]; rfl
            clear hY
            gi_wp2_with (first | ((with_reducible show wpListIn _ _ _ _ _ (Oper.mk (some 26) _ _ _ _ _ :: _) _ _); refine wpListIn_skip (by rfl) (by rfl) ?_) | ((with_reducible show wpListIn _ _ _ _ _ (Oper.mk (some 27) _ _ _ _ _ :: _) _ _); refine wpListIn_skip (by rfl) (by rfl) ?_) | ((with_reducible show wpListIn _ _ _ _ _ (Oper.mk (some 41) _ _ _ _ _ :: _) _ _); refine wpListIn_skip (by rfl) (by rfl) ?_) | ((with_reducible show wpListIn _ _ _ _ _ (Oper.mk (some 42) _ _ _ _ _ :: _) _ _); refine wpListIn_skip (by rfl) (by rfl) ?_))
            gi_roundg (gk - 1)
            case measure => omega
            case rel => exact ⟨i + 1, C, by first | rfl | go_num, by omega, by rw [HL.out]; exact hJi, hCw, hWs⟩
          · have hdz' : (d == 0) = false := by simpa using hdz
            have HG : Hid (gridR n k i = [((i : Int), (i : Int) + 1)]) := by show _ = _; unfold gridR; rw [hd, if_pos ⟨h1, hdz⟩, if_neg h2]; rfl
            have HL : Hid ((gridL n k (i + 1)).length = (gridL n k i).length + 1) := by show _ = _; rw [gridL, List.length_append, HG.out]; rfl
            have hx := gridL_at (m := n) (j := 0) HI.out (by rw [HG.out]; rfl)
            obtain ⟨fn1, tmps, assign, body, hy, hR⟩ := hY _ C _ _ hJi hWs (fun c hc => hCw c hc) hx
            dsimp only [encL] at hy hR
            clear hY hx
            gi_wp2_with (first | ((with_reducible show wpListIn _ _ _ _ _ (Oper.mk (some 26) _ _ _ _ _ :: _) _ _); refine wpListIn_skip (by rfl) (by rfl) ?_) | ((with_reducible show wpListIn _ _ _ _ _ (Oper.mk (some 27) _ _ _ _ _ :: _) _ _); refine wpListIn_skip (by rfl) (by rfl) ?_) | ((with_reducible show wpListIn _ _ _ _ _ (Oper.mk (some 41) _ _ _ _ _ :: _) _ _); refine wpListIn_skip (by rfl) (by rfl) ?_) | ((with_reducible show wpListIn _ _ _ _ _ (Oper.mk (some 42) _ _ _ _ _ :: _) _ _); refine wpListIn_skip (by rfl) (by rfl) ?_))
            clear hy
            refine (RoundIn.wideAny hR).mono ?_
            clear hR
            rintro e W3 (⟨rfl, C3, hJW3, tW3⟩ | ⟨rfl, C3, hxW3, tW3⟩)
            · have hs3 := tW3.size
              have hCW3 : ∀ c, C3 c → W.heap.size ≤ c ∧ c < W3.heap.size := fun c hc => ⟨(tW3.mine c hc).1, (tW3.mine c hc).2.1⟩
              have hsW3 : W.heap.size ≤ W3.heap.size := Nat.le_trans hWs hs3
              have KrW3 := hKeep _ _ _ hJW3
              obtain ⟨⟨o0W3, o1W3, ozW3⟩, ⟨p0W3, p1W3, pzW3⟩⟩ := id KrW3
              clear hs3 tW3
              gi_wp2_with (first | ((with_reducible show wpListIn _ _ _ _ _ (Oper.mk (some 26) _ _ _ _ _ :: _) _ _); refine wpListIn_skip (by rfl) (by rfl) ?_) | ((with_reducible show wpListIn _ _ _ _ _ (Oper.mk (some 27) _ _ _ _ _ :: _) _ _); refine wpListIn_skip (by rfl) (by rfl) ?_) | ((with_reducible show wpListIn _ _ _ _ _ (Oper.mk (some 41) _ _ _ _ _ :: _) _ _); refine wpListIn_skip (by rfl) (by rfl) ?_) | ((with_reducible show wpListIn _ _ _ _ _ (Oper.mk (some 42) _ _ _ _ _ :: _) _ _); refine wpListIn_skip (by rfl) (by rfl) ?_))
              gi_roundg (gk - 1)
              case measure => omega
              case rel => exact ⟨i + 1, C3, by first | rfl | go_num, by omega, by rw [HL.out]; exact hJW3, hCW3, hsW3⟩
            · gi_wp2_with (first | ((with_reducible show wpListIn _ _ _ _ _ (Oper.mk (some 26) _ _ _ _ _ :: _) _ _); refine wpListIn_skip (by rfl) (by rfl) ?_) | ((with_reducible show wpListIn _ _ _ _ _ (Oper.mk (some 27) _ _ _ _ _ :: _) _ _); refine wpListIn_skip (by rfl) (by rfl) ?_) | ((with_reducible show wpListIn _ _ _ _ _ (Oper.mk (some 41) _ _ _ _ _ :: _) _ _); refine wpListIn_skip (by rfl) (by rfl) ?_) | ((with_reducible show wpListIn _ _ _ _ _ (Oper.mk (some 42) _ _ _ _ _ :: _) _ _); refine wpListIn_skip (by rfl) (by rfl) ?_))
              exact bodyPost_ret (v := .tuple #[]) (by simp [results, Try.results63, go_sem]) rfl ⟨⟨_, rfl⟩, C3, fun b hb => ⟨(tW3.mine b hb).1, (tW3.mine b hb).2.1⟩, .inr hxW3⟩
        · have HG : Hid (gridR n k i = []) := by show _ = _; unfold gridR; rw [if_neg (by omega), if_neg h2]; rfl
          have HL : Hid ((gridL n k (i + 1)).length = (gridL n k i).length) := by show _ = _; rw [gridL, List.length_append, HG.out]; rfl
          clear hY
          gi_wp2_with (first | ((with_reducible show wpListIn _ _ _ _ _ (Oper.mk (some 26) _ _ _ _ _ :: _) _ _); refine wpListIn_skip (by rfl) (by rfl) ?_) | ((with_reducible show wpListIn _ _ _ _ _ (Oper.mk (some 27) _ _ _ _ _ :: _) _ _); refine wpListIn_skip (by rfl) (by rfl) ?_) | ((with_reducible show wpListIn _ _ _ _ _ (Oper.mk (some 41) _ _ _ _ _ :: _) _ _); refine wpListIn_skip (by rfl) (by rfl) ?_) | ((with_reducible show wpListIn _ _ _ _ _ (Oper.mk (some 42) _ _ _ _ _ :: _) _ _); refine wpListIn_skip (by rfl) (by rfl) ?_))
          gi_roundg (gk - 1)
          case measure => omega
          case rel => exact ⟨i + 1, C, by first | rfl | go_num, by omega, by rw [HL.out]; exact hJi, hCw, hWs⟩
    · have hin : i = n := by omega
      subst hin
      gi_wp2
      exact bodyPost_end (v := .tuple #[]) (by simp [results, Try.results63, go_sem]) rfl ⟨⟨_, rfl⟩, C, hCw, .inl hJi⟩
end Go.Proofs.Ytpdmpekkmblgmaa
