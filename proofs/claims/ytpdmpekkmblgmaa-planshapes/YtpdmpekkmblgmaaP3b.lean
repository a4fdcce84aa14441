/-
  Package plan: a node in too many pairs; Fit.
-/
import Derived.Test.YtpdmpekkmblgmaaP3
namespace Go.Proofs.Ytpdmpekkmblgmaa
open Go.ChangeShapes Go.WideShapes Go.ChangeAt Go.RowKit Go.Maps Go.Shelf
set_option linter.unusedVariables false
set_option linter.unusedSimpArgs false
attribute [local go_sem] Oper.semAt_some

def crowded (n : Int) (l : List LK) : Bool := (List.range n.toNat).any fun v => decide (6 < dg l (v : Int))
theorem crowded_yes {n : Int} {l : List LK} {v : Nat} (hv : (v : Int) < n) (h : 6 < dg l (v : Int)) : crowded n l = true := by
  unfold crowded
  rw [List.any_eq_true]
  exact ⟨v, List.mem_range.2 (by omega), by simpa using h⟩
theorem crowded_no {n : Int} {l : List LK} (h : ∀ v : Nat, (v : Int) < n → ¬ 6 < dg l (v : Int)) : crowded n l = false := by
  unfold crowded
  rw [List.any_eq_false]
  intro v hv
  have := h v (by have := List.mem_range.1 hv; omega)
  simpa using this
theorem crowded_at {n : Int} {l : List LK} (h : crowded n l = false) {v : Nat} (hv : (v : Int) < n) : dg l (v : Int) ≤ 6 := by
  unfold crowded at h
  rw [List.any_eq_false] at h
  have := h v (List.mem_range.2 (by omega))
  simp at this
  omega
set_option maxRecDepth 100000 in
set_option maxHeartbeats 1000000 in
theorem crowded_any (n : Int) (a : Option Addr) (k cap : Nat) (l : List LK) (w : World) (hr : RdL w a k cap l) (h2 : Apart l) (hn : few n = true) : Calls Try.prog 32 #[.int .i64 n, .slice a k cap] w fun e w' => e = .returned (.bool (crowded n l)) ∧ Below w.heap.size w w' := by
  have HN : Hid (1 ≤ n ∧ n ≤ 16) := by show _ ∧ _; simpa [few] using hn
  have KD := fun v W (hb : Below w.heap.size w W) => degree_any a k cap l v W (hr.below hb) h2
  clear hr h2 hn
  go_enter Try.func32, Try.ntmps32
  go_wp2
  go_loopg [7] n.toNat (fun gk v7 wr => ∃ i : Nat, v7 = .int .i64 (i : Int) ∧ (i : Int) + gk = n ∧ Below w.heap.size w wr ∧ ∀ j : Nat, j < i → ¬ 6 < dg l (j : Int))
  case atStart => exact ⟨0, by first | rfl | go_num, by have := HN.out; omega, Below.refl _ _, fun j hj => by omega⟩
  case round =>
    obtain ⟨i, rfl, hg, B, hok⟩ := hrel
    have HOK : Hid (∀ j : Nat, j < i → ¬ 6 < dg l (j : Int)) := hok
    clear hok
    by_cases hi : (i : Int) < n
    case neg =>
      have HF : Hid (crowded n l = false) := crowded_no (fun j hj => HOK.out j (by omega))
      go_wp2
      go_ret
      exact ⟨ret_bool HF.out.symm, B⟩
    case pos =>
      have HI : Hid ((i : Int) < n) := hi
      have K := KD i wr B
      clear KD
      obtain ⟨d, hd⟩ : ∃ d, dg l (i : Int) = d := ⟨_, rfl⟩
      rw [hd] at K
      by_cases h6 : (d : Int) > 6
      case pos =>
        have HF : Hid (crowded n l = true) := crowded_yes HI.out (by omega)
        clear hd
        go_wp2_with (go_at_call 16; refine K.mono ?_; clear K; rintro e w1 ⟨rfl, b1⟩)
        go_ret
        exact ⟨ret_bool HF.out.symm, B.trans (b1.mono B.size)⟩
      case neg =>
        have HF : Hid (¬ 6 < dg l (i : Int)) := by show ¬ _; rw [hd]; omega
        have hin : IntKind.i64.wrap ((i : Int) + 1) = (i : Int) + 1 := by rw [IntKind.wrap_i64]; have := HN.out; omega
        clear hd
        go_wp2_with (go_at_call 16; refine K.mono ?_; clear K; rintro e w1 ⟨rfl, b1⟩)
        go_roundg (gk - 1)
        case measure => omega
        case rel => exact ⟨i + 1, by first | rfl | go_num, by omega, B.trans (b1.mono B.size), fun j hj => (Nat.lt_succ_iff_lt_or_eq.1 hj).elim (HOK.out j) (fun e => by rw [e]; exact HF.out)⟩
/-- Pairs of n nodes that are fit. -/
def fit (n : Int) (l : List LK) : Bool := few n && (rises n l && !crowded n l)
theorem fit_few {n : Int} {l : List LK} (h : fit n l = true) : few n = true := by
  unfold fit at h
  simp only [Bool.and_eq_true] at h
  exact h.1
theorem fit_rises {n : Int} {l : List LK} (h : fit n l = true) : rises n l = true := by
  unfold fit at h
  simp only [Bool.and_eq_true] at h
  exact h.2.1
theorem fit_crowded {n : Int} {l : List LK} (h : fit n l = true) : crowded n l = false := by
  unfold fit at h
  simp only [Bool.and_eq_true, Bool.not_eq_true'] at h
  exact h.2.2
set_option maxRecDepth 100000 in
set_option maxHeartbeats 1000000 in
theorem fit_any (n : Int) (a : Option Addr) (k cap : Nat) (l : List LK) (w : World) (hr : RdL w a k cap l) : Calls Try.prog 14 #[.int .i64 n, .slice a k cap] w fun e w' => e = .returned (.bool (fit n l)) ∧ Below w.heap.size w w' := by
  have K1 := fun W => few_any n W
  have K2 := rises_any n a k cap l w hr
  cases h1 : few n with
  | false =>
    have HF : Hid (fit n l = false) := by show _ = _; unfold fit; rw [h1]; rfl
    rw [h1] at K1
    clear K2 h1
    go_enter Try.func14, Try.ntmps14
    go_wp2_with (go_at_call 29; refine (K1 _).mono ?_; clear K1; rintro e w1 ⟨rfl, hw⟩; rw [hw]; clear hw w1)
    go_ret
    exact ⟨ret_bool HF.out.symm, Below.refl _ _⟩
  | true =>
    cases h2 : rises n l with
    | false =>
      have HF : Hid (fit n l = false) := by show _ = _; unfold fit; rw [h1, h2]; rfl
      rw [h1] at K1
      rw [h2] at K2
      clear h1 h2
      go_enter Try.func14, Try.ntmps14
      go_wp2_with (first
        | (go_at_call 29; refine (K1 _).mono ?_; clear K1; rintro e w1 ⟨rfl, hw⟩; rw [hw]; clear hw w1)
        | (go_at_call 36; refine K2.mono ?_; clear K2; rintro e w2 ⟨rfl, b2⟩))
      go_ret
      exact ⟨ret_bool HF.out.symm, b2⟩
    | true =>
      have HF : Hid (fit n l = !crowded n l) := by show _ = _; unfold fit; rw [h1, h2]; rfl
      have K3 := fun W (hb : Below w.heap.size w W) => crowded_any n a k cap l W (hr.below hb) (rises_apart h2) h1
      rw [h1] at K1
      rw [h2] at K2
      clear h1 h2
      obtain ⟨c, hc⟩ : ∃ c, crowded n l = c := ⟨_, rfl⟩
      have HC : Hid (crowded n l = c) := hc
      rw [hc] at K3
      clear hc
      go_enter Try.func14, Try.ntmps14
      go_wp2_with (first
        | (go_at_call 29; refine (K1 _).mono ?_; clear K1; rintro e w1 ⟨rfl, hw⟩; rw [hw]; clear hw w1)
        | (go_at_call 36; refine K2.mono ?_; clear K2; rintro e w2 ⟨rfl, b2⟩)
        | (go_at_call 32; refine (K3 _ b2).mono ?_; clear K3; rintro e w3 ⟨rfl, b3⟩))
      all_goals
        go_ret
        exact ⟨ret_bool (by rw [HF.out, HC.out]), b2.trans (b3.mono b2.size)⟩
end Go.Proofs.Ytpdmpekkmblgmaa
