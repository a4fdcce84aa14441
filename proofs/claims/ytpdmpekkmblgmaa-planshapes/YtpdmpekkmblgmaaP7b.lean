/-
  Package plan: the pairs of a ring, of a full network, of a grid, as they are handed out.
-/
import Derived.Test.YtpdmpekkmblgmaaP7
namespace Go.Proofs.Ytpdmpekkmblgmaa
open Go.ChangeShapes Go.WideShapes Go.ChangeAt Go.RowKit Go.Maps Go.Shelf
set_option linter.unusedVariables false
set_option linter.unusedSimpArgs false
attribute [local go_sem] Oper.semAt_some

def ringL (n : Nat) : List LK := lineL n ++ if 3 ≤ n then [(0, (n : Int) - 1)] else []
def fullR (b : Nat) : List LK := (List.range b).map fun a : Nat => ((a : Int), (b : Int))
def fullL : Nat → List LK
  | 0 => []
  | n + 1 => fullL n ++ fullR n
theorem fullR_at {b a : Nat} (h : a < b) : (fullR b)[a]? = some ((a : Int), (b : Int)) := by simp [fullR, h]
theorem fullR_len (b : Nat) : (fullR b).length = b := by simp [fullR]
theorem fullL_take {b n : Nat} (h : b ≤ n) : ∃ r, fullL n = fullL b ++ r := by
  induction n with
  | zero => exact ⟨[], by rw [show b = 0 by omega]; simp⟩
  | succ n ih =>
    by_cases e : b = n + 1
    · exact ⟨[], by rw [e]; simp⟩
    · obtain ⟨r, hr⟩ := ih (by omega)
      exact ⟨r ++ fullR n, by rw [fullL, hr, List.append_assoc]⟩
theorem fullL_at {n b a : Nat} (hb : b < n) (ha : a < b) : (fullL n)[(fullL b).length + a]? = some ((a : Int), (b : Int)) := by
  obtain ⟨r, hr⟩ := fullL_take (show b + 1 ≤ n by omega)
  rw [hr, fullL, List.append_assoc, List.getElem?_append_right (by omega), show (fullL b).length + a - (fullL b).length = a by omega, List.getElem?_append_left (by rw [fullR_len]; exact ha)]
  exact fullR_at ha
set_option maxRecDepth 100000 in
set_option maxHeartbeats 1000000 in
theorem full_gives (fb : Nat) (n : Nat) (hn : n ≤ 1000) (w : World) : Gives Try.prog 62 #[.pointer (some ⟨fb, 0, none⟩)] encL (fullL n) w (fun A => One A fb (.int .i64 (n : Int))) := by
  intro lp J Jx W hbW hJ hJx hKeep hY h0
  have K0 := hKeep _ _ _ h0
  refine (callsIn_wide (n := 2)).1 ?_
  refine callsIn_of_wp Try.func62 rfl trivial ?_
  simp only [Try.ntmps62, List.size_toArray, List.length_cons, List.length_nil, Nat.reduceAdd, Nat.reduceSub, Array.replicate_succ, Array.replicate_zero, List.push_toArray, List.append_toArray, List.nil_append, List.cons_append]
  have HN : Hid (n ≤ 1000) := hn
  obtain ⟨o0, o1, oz⟩ := id K0
  clear hn
  gi_wp2
  gi_loopg [6] n (fun g v6 wr => ∃ (b : Nat) (C : Nat → Prop), v6 = .int .i64 (b : Int) ∧ b + g = n ∧ J (fullL b).length C wr ∧ (∀ c, C c → W.heap.size ≤ c ∧ c < wr.heap.size) ∧ W.heap.size ≤ wr.heap.size)
  case atStart =>
    exact ⟨0, fun _ => False, by first | rfl | go_num, by omega, h0, fun c h => h.elim, Nat.le_refl _⟩
  case round =>
    clear K0 h0 o0 o1 oz
    obtain ⟨b, C0, rfl, hg, hJ0, hC0, hW0⟩ := hrel
    by_cases hb : b < n
    · have hbI : (b : Int) < (n : Int) := by omega
      have haddb : IntKind.i64.wrap ((b : Int) + 1) = (b : Int) + 1 := by rw [IntKind.wrap_i64]; have := HN.out; omega
      have HB : Hid (b < n) := hb
      obtain ⟨g1, hg1⟩ : ∃ g1, g1 = gk := ⟨_, rfl⟩
      gi_wp2
      gi_loopg [10] b (fun g2 v10 wr => ∃ (a : Nat) (C : Nat → Prop), v10 = .int .i64 (a : Int) ∧ a + g2 = b ∧ J ((fullL b).length + a) C wr ∧ (∀ c, C c → W.heap.size ≤ c ∧ c < wr.heap.size) ∧ W.heap.size ≤ wr.heap.size)
      case atStart =>
        exact ⟨0, C0, by first | rfl | go_num, by omega, hJ0, hC0, hW0⟩
      case round =>
        clear hJ0 hC0 hW0
        obtain ⟨a, C, rfl, hg2, hJi, hCw, hWs⟩ := hrel
        by_cases ha : a < b
        · have haI : (a : Int) < (b : Int) := by omega
          have hadd : IntKind.i64.wrap ((a : Int) + 1) = (a : Int) + 1 := by rw [IntKind.wrap_i64]; have := HN.out; omega
          obtain ⟨fn1, tmps, assign, body, hy, hR⟩ := hY _ C _ _ hJi hWs (fun c hc => hCw c hc) (fullL_at HB.out ha)
          dsimp only [encL] at hy hR
          clear hY
          gi_wp2
          clear hy
          refine (RoundIn.wideAny hR).mono ?_
          clear hR
          rintro e W3 (⟨rfl, C', hJ3, t3⟩ | ⟨rfl, C', hx3, t3⟩)
          · have hs3 := t3.size
            have hC3 : ∀ c, C' c → W.heap.size ≤ c ∧ c < W3.heap.size := fun c hc => ⟨(t3.mine c hc).1, (t3.mine c hc).2.1⟩
            have hs4 : W.heap.size ≤ W3.heap.size := Nat.le_trans hWs hs3
            have Kr3 := hKeep _ _ _ hJ3
            clear hs3 t3
            gi_wp2
            gi_roundg (gk - 1)
            case measure => omega
            case rel => exact ⟨a + 1, C', by first | rfl | go_num, by omega, by rw [← Nat.add_assoc]; exact hJ3, hC3, hs4⟩
          · gi_wp2
            exact bodyPost_ret (v := .tuple #[]) (by simp [results, Try.results62, go_sem]) rfl ⟨⟨_, rfl⟩, C', fun b hb => ⟨(t3.mine b hb).1, (t3.mine b hb).2.1⟩, .inr hx3⟩
        · have HA : Hid ((fullL (b + 1)).length = (fullL b).length + a) := by show _ = _; rw [fullL, List.length_append, fullR_len]; omega
          have haI : ¬ (a : Int) < (b : Int) := by omega
          gi_wp2
          gi_roundg (g1 - 1)
          case measure => omega
          case rel => exact ⟨b + 1, C, by first | rfl | go_num, by omega, by rw [HA.out]; exact hJi, hCw, hWs⟩
    · have hbn : b = n := by omega
      subst hbn
      gi_wp2
      exact bodyPost_end (v := .tuple #[]) (by simp [results, Try.results62, go_sem]) rfl ⟨⟨_, rfl⟩, C0, hC0, .inl hJ0⟩
end Go.Proofs.Ytpdmpekkmblgmaa
