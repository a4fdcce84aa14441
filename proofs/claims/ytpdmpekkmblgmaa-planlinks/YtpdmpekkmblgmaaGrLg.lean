/-
  The document: Links, the shape of number 7.
-/
import Derived.Test.YtpdmpekkmblgmaaGrLf
namespace Go.Proofs.Ytpdmpekkmblgmaa
open Go.ChangeShapes Go.WideShapes Go.ChangeAt Go.RowKit Go.Maps Go.Shelf
set_option linter.unusedVariables false
set_option linter.unusedSimpArgs false
attribute [local go_sem] Oper.semAt_some

set_option maxRecDepth 100000 in
set_option maxHeartbeats 1000000 in
theorem rlinks_1 (n k : Int) (w : World) : Calls Try.prog 9 #[.int .i64 1, .int .i64 n, .int .i64 k] w (LnkP w n (!few n) (lineL n.toNat)) := by
  cases hf : few n with
  | false =>
    show Calls _ _ _ _ (LnkP w n true _)
    have hb : n < 1 ∨ 16 < n := by unfold few at hf; simp at hf; omega
    clear hf
    rcases hb with hb | hb
    · go_enter Try.func9, Try.ntmps9
      go_wp2
      refine bodyPost_ret (results_tmp2 rfl _ _ _) rfl ?_
      exact LnkP.bad (Below.refl _ _)
    · have hb1 : ¬ n < 1 := by omega
      go_enter Try.func9, Try.ntmps9
      go_wp2
      refine bodyPost_ret (results_tmp2 rfl _ _ _) rfl ?_
      exact LnkP.bad (Below.refl _ _)
  | true =>
    obtain ⟨N, rfl, hN1, hN2⟩ := few_nat hf
    rw [Int.toNat_natCast]
    show Calls _ _ _ _ (LnkP w (N : Int) false _)
    have KS := fun W => shaped_1 N k W hN2
    have HN : Hid (1 ≤ N ∧ N ≤ 16) := ⟨hN1, hN2⟩
    have hlo : ¬ (N : Int) < 1 := by omega
    have hhi : ¬ (N : Int) > 16 := by omega
    obtain ⟨xs, hxs⟩ : ∃ xs, lineL N = xs := ⟨_, rfl⟩
    rw [hxs] at KS ⊢
    clear hxs hf hN1 hN2
    go_enter Try.func9, Try.ntmps9
    go_wp2_with (go_at_call 33; refine (KS _).mono ?_; clear KS; rintro e w1 ⟨a, m, c, rfl, R, B1⟩)
    go_loopg [9] N (fun gk v9 wr => ∃ v : Nat, v9 = .int .i64 (v : Int) ∧ v + gk = N ∧ wr = w1 ∧ ∀ u, u < v → dg (srt xs) (u : Int) ≤ 6)
    case atStart => exact ⟨0, by first | rfl | go_num, by omega, rfl, fun u hu => by omega⟩
    case round =>
      obtain ⟨v, rfl, hg, rfl, hu⟩ := hrel
      have HU : Hid (∀ u, u < v → dg (srt xs) (u : Int) ≤ 6) := hu
      clear hu
      have hadd : IntKind.i64.wrap ((v : Int) + 1) = (v : Int) + 1 := by rw [IntKind.wrap_i64]; have := HN.out; omega
      by_cases hv : v < N
      case neg =>
        have hvI : ¬ (v : Int) < (N : Int) := by omega
        have HC : Hid (crowded (N : Int) (srt xs) = false) := crowded_out fun u hu => HU.out u (by omega)
        go_wp2
        refine bodyPost_ret (results_tmp2 rfl _ _ _) rfl ?_
        exact LnkP.good B1 HC.out R
      case pos =>
        have hvI : (v : Int) < (N : Int) := by omega
        obtain ⟨d, hd⟩ : ∃ d, dg (srt xs) (v : Int) = d := ⟨_, rfl⟩
        have HD : Hid (dg (srt xs) (v : Int) = d) := hd
        clear hd
        by_cases h6 : d ≤ 6
        case neg =>
          have h6I : (d : Int) > 6 := by omega
          have HC : Hid (crowded (N : Int) (srt xs) = true) := crowded_yes hvI (by rw [HD.out]; omega)
          go_wp2_with (go_at_call 17; refine (rdegree_any a m c (srt xs) _ _ R).mono ?_; rintro e wy ⟨rfl, hwy⟩; rw [hwy, HD.out]; clear hwy wy)
          refine bodyPost_ret (results_tmp2 rfl _ _ _) rfl ?_
          exact LnkP.crowd B1 HC.out
        case pos =>
          have h6I : ¬ (d : Int) > 6 := by omega
          go_wp2_with (go_at_call 17; refine (rdegree_any a m c (srt xs) _ _ R).mono ?_; rintro e wy ⟨rfl, hwy⟩; rw [hwy, HD.out]; clear hwy wy)
          go_roundg (gk - 1)
          case measure => omega
          case rel => exact ⟨v + 1, by first | rfl | go_num, by omega, rfl, fun u hu => (Nat.lt_succ_iff_lt_or_eq.1 hu).elim (HU.out u) (fun e => by rw [e, HD.out]; exact h6)⟩
end Go.Proofs.Ytpdmpekkmblgmaa

namespace Go.Proofs.Ytpdmpekkmblgmaa
open Go.ChangeShapes Go.WideShapes Go.ChangeAt Go.RowKit Go.Maps Go.Shelf
set_option linter.unusedVariables false
set_option linter.unusedSimpArgs false
attribute [local go_sem] Oper.semAt_some

set_option maxRecDepth 100000 in
set_option maxHeartbeats 1000000 in
theorem rlinks_2 (n k : Int) (w : World) : Calls Try.prog 9 #[.int .i64 2, .int .i64 n, .int .i64 k] w (LnkP w n (!few n) (ringL n.toNat)) := by
  cases hf : few n with
  | false =>
    show Calls _ _ _ _ (LnkP w n true _)
    have hb : n < 1 ∨ 16 < n := by unfold few at hf; simp at hf; omega
    clear hf
    rcases hb with hb | hb
    · go_enter Try.func9, Try.ntmps9
      go_wp2
      refine bodyPost_ret (results_tmp2 rfl _ _ _) rfl ?_
      exact LnkP.bad (Below.refl _ _)
    · have hb1 : ¬ n < 1 := by omega
      go_enter Try.func9, Try.ntmps9
      go_wp2
      refine bodyPost_ret (results_tmp2 rfl _ _ _) rfl ?_
      exact LnkP.bad (Below.refl _ _)
  | true =>
    obtain ⟨N, rfl, hN1, hN2⟩ := few_nat hf
    rw [Int.toNat_natCast]
    show Calls _ _ _ _ (LnkP w (N : Int) false _)
    have KS := fun W => shaped_2 N k W hN2
    have HN : Hid (1 ≤ N ∧ N ≤ 16) := ⟨hN1, hN2⟩
    have hlo : ¬ (N : Int) < 1 := by omega
    have hhi : ¬ (N : Int) > 16 := by omega
    obtain ⟨xs, hxs⟩ : ∃ xs, ringL N = xs := ⟨_, rfl⟩
    rw [hxs] at KS ⊢
    clear hxs hf hN1 hN2
    go_enter Try.func9, Try.ntmps9
    go_wp2_with (go_at_call 33; refine (KS _).mono ?_; clear KS; rintro e w1 ⟨a, m, c, rfl, R, B1⟩)
    go_loopg [9] N (fun gk v9 wr => ∃ v : Nat, v9 = .int .i64 (v : Int) ∧ v + gk = N ∧ wr = w1 ∧ ∀ u, u < v → dg (srt xs) (u : Int) ≤ 6)
    case atStart => exact ⟨0, by first | rfl | go_num, by omega, rfl, fun u hu => by omega⟩
    case round =>
      obtain ⟨v, rfl, hg, rfl, hu⟩ := hrel
      have HU : Hid (∀ u, u < v → dg (srt xs) (u : Int) ≤ 6) := hu
      clear hu
      have hadd : IntKind.i64.wrap ((v : Int) + 1) = (v : Int) + 1 := by rw [IntKind.wrap_i64]; have := HN.out; omega
      by_cases hv : v < N
      case neg =>
        have hvI : ¬ (v : Int) < (N : Int) := by omega
        have HC : Hid (crowded (N : Int) (srt xs) = false) := crowded_out fun u hu => HU.out u (by omega)
        go_wp2
        refine bodyPost_ret (results_tmp2 rfl _ _ _) rfl ?_
        exact LnkP.good B1 HC.out R
      case pos =>
        have hvI : (v : Int) < (N : Int) := by omega
        obtain ⟨d, hd⟩ : ∃ d, dg (srt xs) (v : Int) = d := ⟨_, rfl⟩
        have HD : Hid (dg (srt xs) (v : Int) = d) := hd
        clear hd
        by_cases h6 : d ≤ 6
        case neg =>
          have h6I : (d : Int) > 6 := by omega
          have HC : Hid (crowded (N : Int) (srt xs) = true) := crowded_yes hvI (by rw [HD.out]; omega)
          go_wp2_with (go_at_call 17; refine (rdegree_any a m c (srt xs) _ _ R).mono ?_; rintro e wy ⟨rfl, hwy⟩; rw [hwy, HD.out]; clear hwy wy)
          refine bodyPost_ret (results_tmp2 rfl _ _ _) rfl ?_
          exact LnkP.crowd B1 HC.out
        case pos =>
          have h6I : ¬ (d : Int) > 6 := by omega
          go_wp2_with (go_at_call 17; refine (rdegree_any a m c (srt xs) _ _ R).mono ?_; rintro e wy ⟨rfl, hwy⟩; rw [hwy, HD.out]; clear hwy wy)
          go_roundg (gk - 1)
          case measure => omega
          case rel => exact ⟨v + 1, by first | rfl | go_num, by omega, rfl, fun u hu => (Nat.lt_succ_iff_lt_or_eq.1 hu).elim (HU.out u) (fun e => by rw [e, HD.out]; exact h6)⟩
end Go.Proofs.Ytpdmpekkmblgmaa

namespace Go.Proofs.Ytpdmpekkmblgmaa
open Go.ChangeShapes Go.WideShapes Go.ChangeAt Go.RowKit Go.Maps Go.Shelf
set_option linter.unusedVariables false
set_option linter.unusedSimpArgs false
attribute [local go_sem] Oper.semAt_some

set_option maxRecDepth 100000 in
set_option maxHeartbeats 1000000 in
theorem rlinks_3 (n k : Int) (w : World) : Calls Try.prog 9 #[.int .i64 3, .int .i64 n, .int .i64 k] w (LnkP w n (!few n) (treeL n.toNat (n.toNat : Int))) := by
  cases hf : few n with
  | false =>
    show Calls _ _ _ _ (LnkP w n true _)
    have hb : n < 1 ∨ 16 < n := by unfold few at hf; simp at hf; omega
    clear hf
    rcases hb with hb | hb
    · go_enter Try.func9, Try.ntmps9
      go_wp2
      refine bodyPost_ret (results_tmp2 rfl _ _ _) rfl ?_
      exact LnkP.bad (Below.refl _ _)
    · have hb1 : ¬ n < 1 := by omega
      go_enter Try.func9, Try.ntmps9
      go_wp2
      refine bodyPost_ret (results_tmp2 rfl _ _ _) rfl ?_
      exact LnkP.bad (Below.refl _ _)
  | true =>
    obtain ⟨N, rfl, hN1, hN2⟩ := few_nat hf
    rw [Int.toNat_natCast]
    show Calls _ _ _ _ (LnkP w (N : Int) false _)
    have KS := fun W => shaped_3 N k W hN2
    have HN : Hid (1 ≤ N ∧ N ≤ 16) := ⟨hN1, hN2⟩
    have hlo : ¬ (N : Int) < 1 := by omega
    have hhi : ¬ (N : Int) > 16 := by omega
    obtain ⟨xs, hxs⟩ : ∃ xs, treeL N (N : Int) = xs := ⟨_, rfl⟩
    rw [hxs] at KS ⊢
    clear hxs hf hN1 hN2
    go_enter Try.func9, Try.ntmps9
    go_wp2_with (go_at_call 33; refine (KS _).mono ?_; clear KS; rintro e w1 ⟨a, m, c, rfl, R, B1⟩)
    go_loopg [9] N (fun gk v9 wr => ∃ v : Nat, v9 = .int .i64 (v : Int) ∧ v + gk = N ∧ wr = w1 ∧ ∀ u, u < v → dg (srt xs) (u : Int) ≤ 6)
    case atStart => exact ⟨0, by first | rfl | go_num, by omega, rfl, fun u hu => by omega⟩
    case round =>
      obtain ⟨v, rfl, hg, rfl, hu⟩ := hrel
      have HU : Hid (∀ u, u < v → dg (srt xs) (u : Int) ≤ 6) := hu
      clear hu
      have hadd : IntKind.i64.wrap ((v : Int) + 1) = (v : Int) + 1 := by rw [IntKind.wrap_i64]; have := HN.out; omega
      by_cases hv : v < N
      case neg =>
        have hvI : ¬ (v : Int) < (N : Int) := by omega
        have HC : Hid (crowded (N : Int) (srt xs) = false) := crowded_out fun u hu => HU.out u (by omega)
        go_wp2
        refine bodyPost_ret (results_tmp2 rfl _ _ _) rfl ?_
        exact LnkP.good B1 HC.out R
      case pos =>
        have hvI : (v : Int) < (N : Int) := by omega
        obtain ⟨d, hd⟩ : ∃ d, dg (srt xs) (v : Int) = d := ⟨_, rfl⟩
        have HD : Hid (dg (srt xs) (v : Int) = d) := hd
        clear hd
        by_cases h6 : d ≤ 6
        case neg =>
          have h6I : (d : Int) > 6 := by omega
          have HC : Hid (crowded (N : Int) (srt xs) = true) := crowded_yes hvI (by rw [HD.out]; omega)
          go_wp2_with (go_at_call 17; refine (rdegree_any a m c (srt xs) _ _ R).mono ?_; rintro e wy ⟨rfl, hwy⟩; rw [hwy, HD.out]; clear hwy wy)
          refine bodyPost_ret (results_tmp2 rfl _ _ _) rfl ?_
          exact LnkP.crowd B1 HC.out
        case pos =>
          have h6I : ¬ (d : Int) > 6 := by omega
          go_wp2_with (go_at_call 17; refine (rdegree_any a m c (srt xs) _ _ R).mono ?_; rintro e wy ⟨rfl, hwy⟩; rw [hwy, HD.out]; clear hwy wy)
          go_roundg (gk - 1)
          case measure => omega
          case rel => exact ⟨v + 1, by first | rfl | go_num, by omega, rfl, fun u hu => (Nat.lt_succ_iff_lt_or_eq.1 hu).elim (HU.out u) (fun e => by rw [e, HD.out]; exact h6)⟩
end Go.Proofs.Ytpdmpekkmblgmaa

namespace Go.Proofs.Ytpdmpekkmblgmaa
open Go.ChangeShapes Go.WideShapes Go.ChangeAt Go.RowKit Go.Maps Go.Shelf
set_option linter.unusedVariables false
set_option linter.unusedSimpArgs false
attribute [local go_sem] Oper.semAt_some

set_option maxRecDepth 100000 in
set_option maxHeartbeats 1000000 in
theorem rlinks_4 (n k : Int) (w : World) : Calls Try.prog 9 #[.int .i64 4, .int .i64 n, .int .i64 k] w (LnkP w n (!few n) (fullD n.toNat n.toNat)) := by
  cases hf : few n with
  | false =>
    show Calls _ _ _ _ (LnkP w n true _)
    have hb : n < 1 ∨ 16 < n := by unfold few at hf; simp at hf; omega
    clear hf
    rcases hb with hb | hb
    · go_enter Try.func9, Try.ntmps9
      go_wp2
      refine bodyPost_ret (results_tmp2 rfl _ _ _) rfl ?_
      exact LnkP.bad (Below.refl _ _)
    · have hb1 : ¬ n < 1 := by omega
      go_enter Try.func9, Try.ntmps9
      go_wp2
      refine bodyPost_ret (results_tmp2 rfl _ _ _) rfl ?_
      exact LnkP.bad (Below.refl _ _)
  | true =>
    obtain ⟨N, rfl, hN1, hN2⟩ := few_nat hf
    rw [Int.toNat_natCast]
    show Calls _ _ _ _ (LnkP w (N : Int) false _)
    have KS := fun W => shaped_4 N k W hN2
    have HN : Hid (1 ≤ N ∧ N ≤ 16) := ⟨hN1, hN2⟩
    have hlo : ¬ (N : Int) < 1 := by omega
    have hhi : ¬ (N : Int) > 16 := by omega
    obtain ⟨xs, hxs⟩ : ∃ xs, fullD N N = xs := ⟨_, rfl⟩
    rw [hxs] at KS ⊢
    clear hxs hf hN1 hN2
    go_enter Try.func9, Try.ntmps9
    go_wp2_with (go_at_call 33; refine (KS _).mono ?_; clear KS; rintro e w1 ⟨a, m, c, rfl, R, B1⟩)
    go_loopg [9] N (fun gk v9 wr => ∃ v : Nat, v9 = .int .i64 (v : Int) ∧ v + gk = N ∧ wr = w1 ∧ ∀ u, u < v → dg (srt xs) (u : Int) ≤ 6)
    case atStart => exact ⟨0, by first | rfl | go_num, by omega, rfl, fun u hu => by omega⟩
    case round =>
      obtain ⟨v, rfl, hg, rfl, hu⟩ := hrel
      have HU : Hid (∀ u, u < v → dg (srt xs) (u : Int) ≤ 6) := hu
      clear hu
      have hadd : IntKind.i64.wrap ((v : Int) + 1) = (v : Int) + 1 := by rw [IntKind.wrap_i64]; have := HN.out; omega
      by_cases hv : v < N
      case neg =>
        have hvI : ¬ (v : Int) < (N : Int) := by omega
        have HC : Hid (crowded (N : Int) (srt xs) = false) := crowded_out fun u hu => HU.out u (by omega)
        go_wp2
        refine bodyPost_ret (results_tmp2 rfl _ _ _) rfl ?_
        exact LnkP.good B1 HC.out R
      case pos =>
        have hvI : (v : Int) < (N : Int) := by omega
        obtain ⟨d, hd⟩ : ∃ d, dg (srt xs) (v : Int) = d := ⟨_, rfl⟩
        have HD : Hid (dg (srt xs) (v : Int) = d) := hd
        clear hd
        by_cases h6 : d ≤ 6
        case neg =>
          have h6I : (d : Int) > 6 := by omega
          have HC : Hid (crowded (N : Int) (srt xs) = true) := crowded_yes hvI (by rw [HD.out]; omega)
          go_wp2_with (go_at_call 17; refine (rdegree_any a m c (srt xs) _ _ R).mono ?_; rintro e wy ⟨rfl, hwy⟩; rw [hwy, HD.out]; clear hwy wy)
          refine bodyPost_ret (results_tmp2 rfl _ _ _) rfl ?_
          exact LnkP.crowd B1 HC.out
        case pos =>
          have h6I : ¬ (d : Int) > 6 := by omega
          go_wp2_with (go_at_call 17; refine (rdegree_any a m c (srt xs) _ _ R).mono ?_; rintro e wy ⟨rfl, hwy⟩; rw [hwy, HD.out]; clear hwy wy)
          go_roundg (gk - 1)
          case measure => omega
          case rel => exact ⟨v + 1, by first | rfl | go_num, by omega, rfl, fun u hu => (Nat.lt_succ_iff_lt_or_eq.1 hu).elim (HU.out u) (fun e => by rw [e, HD.out]; exact h6)⟩
end Go.Proofs.Ytpdmpekkmblgmaa

namespace Go.Proofs.Ytpdmpekkmblgmaa
open Go.ChangeShapes Go.WideShapes Go.ChangeAt Go.RowKit Go.Maps Go.Shelf
set_option linter.unusedVariables false
set_option linter.unusedSimpArgs false
attribute [local go_sem] Oper.semAt_some

set_option maxRecDepth 100000 in
set_option maxHeartbeats 1000000 in
theorem rlinks_5 (n k : Int) (w : World) (hk : k ≤ 9223372036854775807) : Calls Try.prog 9 #[.int .i64 5, .int .i64 n, .int .i64 k] w (LnkP w n (!few n || decide (k < 1)) (gridL n.toNat k n.toNat)) := by
  cases hf : few n with
  | false =>
    show Calls _ _ _ _ (LnkP w n true _)
    have hb : n < 1 ∨ 16 < n := by unfold few at hf; simp at hf; omega
    clear hf
    rcases hb with hb | hb
    · go_enter Try.func9, Try.ntmps9
      go_wp2
      refine bodyPost_ret (results_tmp2 rfl _ _ _) rfl ?_
      exact LnkP.bad (Below.refl _ _)
    · have hb1 : ¬ n < 1 := by omega
      go_enter Try.func9, Try.ntmps9
      go_wp2
      refine bodyPost_ret (results_tmp2 rfl _ _ _) rfl ?_
      exact LnkP.bad (Below.refl _ _)
  | true =>
    obtain ⟨N, rfl, hN1, hN2⟩ := few_nat hf
    rw [Int.toNat_natCast]
    by_cases hk1 : k < 1
    · rw [show (!true || decide (k < 1)) = true from by simp [hk1]]
      have hlo : ¬ (N : Int) < 1 := by omega
      have hhi : ¬ (N : Int) > 16 := by omega
      clear hf
      go_enter Try.func9, Try.ntmps9
      go_wp2
      refine bodyPost_ret (results_tmp2 rfl _ _ _) rfl ?_
      exact LnkP.bad (Below.refl _ _)
    · rw [show (!true || decide (k < 1)) = false from by simp; omega]
      show Calls _ _ _ _ (LnkP w (N : Int) false _)
      have KS := fun W => shaped_5 N k W hN2 (by omega) hk
      have HN : Hid (1 ≤ N ∧ N ≤ 16) := ⟨hN1, hN2⟩
      have hlo : ¬ (N : Int) < 1 := by omega
      have hhi : ¬ (N : Int) > 16 := by omega
      obtain ⟨xs, hxs⟩ : ∃ xs, gridL N k N = xs := ⟨_, rfl⟩
      rw [hxs] at KS ⊢
      clear hxs hf hN1 hN2
      go_enter Try.func9, Try.ntmps9
      go_wp2_with (go_at_call 33; refine (KS _).mono ?_; clear KS; rintro e w1 ⟨a, m, c, rfl, R, B1⟩)
      go_loopg [9] N (fun gk v9 wr => ∃ v : Nat, v9 = .int .i64 (v : Int) ∧ v + gk = N ∧ wr = w1 ∧ ∀ u, u < v → dg (srt xs) (u : Int) ≤ 6)
      case atStart => exact ⟨0, by first | rfl | go_num, by omega, rfl, fun u hu => by omega⟩
      case round =>
        obtain ⟨v, rfl, hg, rfl, hu⟩ := hrel
        have HU : Hid (∀ u, u < v → dg (srt xs) (u : Int) ≤ 6) := hu
        clear hu
        have hadd : IntKind.i64.wrap ((v : Int) + 1) = (v : Int) + 1 := by rw [IntKind.wrap_i64]; have := HN.out; omega
        by_cases hv : v < N
        case neg =>
          have hvI : ¬ (v : Int) < (N : Int) := by omega
          have HC : Hid (crowded (N : Int) (srt xs) = false) := crowded_out fun u hu => HU.out u (by omega)
          go_wp2
          refine bodyPost_ret (results_tmp2 rfl _ _ _) rfl ?_
          exact LnkP.good B1 HC.out R
        case pos =>
          have hvI : (v : Int) < (N : Int) := by omega
          obtain ⟨d, hd⟩ : ∃ d, dg (srt xs) (v : Int) = d := ⟨_, rfl⟩
          have HD : Hid (dg (srt xs) (v : Int) = d) := hd
          clear hd
          by_cases h6 : d ≤ 6
          case neg =>
            have h6I : (d : Int) > 6 := by omega
            have HC : Hid (crowded (N : Int) (srt xs) = true) := crowded_yes hvI (by rw [HD.out]; omega)
            go_wp2_with (go_at_call 17; refine (rdegree_any a m c (srt xs) _ _ R).mono ?_; rintro e wy ⟨rfl, hwy⟩; rw [hwy, HD.out]; clear hwy wy)
            refine bodyPost_ret (results_tmp2 rfl _ _ _) rfl ?_
            exact LnkP.crowd B1 HC.out
          case pos =>
            have h6I : ¬ (d : Int) > 6 := by omega
            go_wp2_with (go_at_call 17; refine (rdegree_any a m c (srt xs) _ _ R).mono ?_; rintro e wy ⟨rfl, hwy⟩; rw [hwy, HD.out]; clear hwy wy)
            go_roundg (gk - 1)
            case measure => omega
            case rel => exact ⟨v + 1, by first | rfl | go_num, by omega, rfl, fun u hu => (Nat.lt_succ_iff_lt_or_eq.1 hu).elim (HU.out u) (fun e => by rw [e, HD.out]; exact h6)⟩
end Go.Proofs.Ytpdmpekkmblgmaa

namespace Go.Proofs.Ytpdmpekkmblgmaa
open Go.ChangeShapes Go.WideShapes Go.ChangeAt Go.RowKit Go.Maps Go.Shelf
set_option linter.unusedVariables false
set_option linter.unusedSimpArgs false
attribute [local go_sem] Oper.semAt_some

set_option maxRecDepth 100000 in
set_option maxHeartbeats 1000000 in
theorem rlinks_6 (n k : Int) (w : World) (hk : k ≤ 9223372036854775807) : Calls Try.prog 9 #[.int .i64 6, .int .i64 n, .int .i64 k] w (LnkP w n (!few n || decide (k < 1)) (treeL n.toNat k)) := by
  cases hf : few n with
  | false =>
    show Calls _ _ _ _ (LnkP w n true _)
    have hb : n < 1 ∨ 16 < n := by unfold few at hf; simp at hf; omega
    clear hf
    rcases hb with hb | hb
    · go_enter Try.func9, Try.ntmps9
      go_wp2
      refine bodyPost_ret (results_tmp2 rfl _ _ _) rfl ?_
      exact LnkP.bad (Below.refl _ _)
    · have hb1 : ¬ n < 1 := by omega
      go_enter Try.func9, Try.ntmps9
      go_wp2
      refine bodyPost_ret (results_tmp2 rfl _ _ _) rfl ?_
      exact LnkP.bad (Below.refl _ _)
  | true =>
    obtain ⟨N, rfl, hN1, hN2⟩ := few_nat hf
    rw [Int.toNat_natCast]
    by_cases hk1 : k < 1
    · rw [show (!true || decide (k < 1)) = true from by simp [hk1]]
      have hlo : ¬ (N : Int) < 1 := by omega
      have hhi : ¬ (N : Int) > 16 := by omega
      clear hf
      go_enter Try.func9, Try.ntmps9
      go_wp2
      refine bodyPost_ret (results_tmp2 rfl _ _ _) rfl ?_
      exact LnkP.bad (Below.refl _ _)
    · rw [show (!true || decide (k < 1)) = false from by simp; omega]
      show Calls _ _ _ _ (LnkP w (N : Int) false _)
      have KS := fun W => shaped_6 N k W hN2 (by omega)
      have HN : Hid (1 ≤ N ∧ N ≤ 16) := ⟨hN1, hN2⟩
      have hlo : ¬ (N : Int) < 1 := by omega
      have hhi : ¬ (N : Int) > 16 := by omega
      obtain ⟨xs, hxs⟩ : ∃ xs, treeL N k = xs := ⟨_, rfl⟩
      rw [hxs] at KS ⊢
      clear hxs hf hN1 hN2
      go_enter Try.func9, Try.ntmps9
      go_wp2_with (go_at_call 33; refine (KS _).mono ?_; clear KS; rintro e w1 ⟨a, m, c, rfl, R, B1⟩)
      go_loopg [9] N (fun gk v9 wr => ∃ v : Nat, v9 = .int .i64 (v : Int) ∧ v + gk = N ∧ wr = w1 ∧ ∀ u, u < v → dg (srt xs) (u : Int) ≤ 6)
      case atStart => exact ⟨0, by first | rfl | go_num, by omega, rfl, fun u hu => by omega⟩
      case round =>
        obtain ⟨v, rfl, hg, rfl, hu⟩ := hrel
        have HU : Hid (∀ u, u < v → dg (srt xs) (u : Int) ≤ 6) := hu
        clear hu
        have hadd : IntKind.i64.wrap ((v : Int) + 1) = (v : Int) + 1 := by rw [IntKind.wrap_i64]; have := HN.out; omega
        by_cases hv : v < N
        case neg =>
          have hvI : ¬ (v : Int) < (N : Int) := by omega
          have HC : Hid (crowded (N : Int) (srt xs) = false) := crowded_out fun u hu => HU.out u (by omega)
          go_wp2
          refine bodyPost_ret (results_tmp2 rfl _ _ _) rfl ?_
          exact LnkP.good B1 HC.out R
        case pos =>
          have hvI : (v : Int) < (N : Int) := by omega
          obtain ⟨d, hd⟩ : ∃ d, dg (srt xs) (v : Int) = d := ⟨_, rfl⟩
          have HD : Hid (dg (srt xs) (v : Int) = d) := hd
          clear hd
          by_cases h6 : d ≤ 6
          case neg =>
            have h6I : (d : Int) > 6 := by omega
            have HC : Hid (crowded (N : Int) (srt xs) = true) := crowded_yes hvI (by rw [HD.out]; omega)
            go_wp2_with (go_at_call 17; refine (rdegree_any a m c (srt xs) _ _ R).mono ?_; rintro e wy ⟨rfl, hwy⟩; rw [hwy, HD.out]; clear hwy wy)
            refine bodyPost_ret (results_tmp2 rfl _ _ _) rfl ?_
            exact LnkP.crowd B1 HC.out
          case pos =>
            have h6I : ¬ (d : Int) > 6 := by omega
            go_wp2_with (go_at_call 17; refine (rdegree_any a m c (srt xs) _ _ R).mono ?_; rintro e wy ⟨rfl, hwy⟩; rw [hwy, HD.out]; clear hwy wy)
            go_roundg (gk - 1)
            case measure => omega
            case rel => exact ⟨v + 1, by first | rfl | go_num, by omega, rfl, fun u hu => (Nat.lt_succ_iff_lt_or_eq.1 hu).elim (HU.out u) (fun e => by rw [e, HD.out]; exact h6)⟩
end Go.Proofs.Ytpdmpekkmblgmaa

namespace Go.Proofs.Ytpdmpekkmblgmaa
open Go.ChangeShapes Go.WideShapes Go.ChangeAt Go.RowKit Go.Maps Go.Shelf
set_option linter.unusedVariables false
set_option linter.unusedSimpArgs false
attribute [local go_sem] Oper.semAt_some

set_option maxRecDepth 100000 in
set_option maxHeartbeats 1000000 in
theorem rlinks_7 (n k : Int) (w : World) : Calls Try.prog 9 #[.int .i64 7, .int .i64 n, .int .i64 k] w (LnkP w n (!few n) (randL n.toNat k)) := by
  cases hf : few n with
  | false =>
    show Calls _ _ _ _ (LnkP w n true _)
    have hb : n < 1 ∨ 16 < n := by unfold few at hf; simp at hf; omega
    clear hf
    rcases hb with hb | hb
    · go_enter Try.func9, Try.ntmps9
      go_wp2
      refine bodyPost_ret (results_tmp2 rfl _ _ _) rfl ?_
      exact LnkP.bad (Below.refl _ _)
    · have hb1 : ¬ n < 1 := by omega
      go_enter Try.func9, Try.ntmps9
      go_wp2
      refine bodyPost_ret (results_tmp2 rfl _ _ _) rfl ?_
      exact LnkP.bad (Below.refl _ _)
  | true =>
    obtain ⟨N, rfl, hN1, hN2⟩ := few_nat hf
    rw [Int.toNat_natCast]
    show Calls _ _ _ _ (LnkP w (N : Int) false _)
    have KS := fun W => shaped_7 N k W hN1 hN2
    have HN : Hid (1 ≤ N ∧ N ≤ 16) := ⟨hN1, hN2⟩
    have hlo : ¬ (N : Int) < 1 := by omega
    have hhi : ¬ (N : Int) > 16 := by omega
    obtain ⟨xs, hxs⟩ : ∃ xs, randL N k = xs := ⟨_, rfl⟩
    rw [hxs] at KS ⊢
    clear hxs hf hN1 hN2
    go_enter Try.func9, Try.ntmps9
    go_wp2_with (go_at_call 33; refine (KS _).mono ?_; clear KS; rintro e w1 ⟨a, m, c, rfl, R, B1⟩)
    go_loopg [9] N (fun gk v9 wr => ∃ v : Nat, v9 = .int .i64 (v : Int) ∧ v + gk = N ∧ wr = w1 ∧ ∀ u, u < v → dg (srt xs) (u : Int) ≤ 6)
    case atStart => exact ⟨0, by first | rfl | go_num, by omega, rfl, fun u hu => by omega⟩
    case round =>
      obtain ⟨v, rfl, hg, rfl, hu⟩ := hrel
      have HU : Hid (∀ u, u < v → dg (srt xs) (u : Int) ≤ 6) := hu
      clear hu
      have hadd : IntKind.i64.wrap ((v : Int) + 1) = (v : Int) + 1 := by rw [IntKind.wrap_i64]; have := HN.out; omega
      by_cases hv : v < N
      case neg =>
        have hvI : ¬ (v : Int) < (N : Int) := by omega
        have HC : Hid (crowded (N : Int) (srt xs) = false) := crowded_out fun u hu => HU.out u (by omega)
        go_wp2
        refine bodyPost_ret (results_tmp2 rfl _ _ _) rfl ?_
        exact LnkP.good B1 HC.out R
      case pos =>
        have hvI : (v : Int) < (N : Int) := by omega
        obtain ⟨d, hd⟩ : ∃ d, dg (srt xs) (v : Int) = d := ⟨_, rfl⟩
        have HD : Hid (dg (srt xs) (v : Int) = d) := hd
        clear hd
        by_cases h6 : d ≤ 6
        case neg =>
          have h6I : (d : Int) > 6 := by omega
          have HC : Hid (crowded (N : Int) (srt xs) = true) := crowded_yes hvI (by rw [HD.out]; omega)
          go_wp2_with (go_at_call 17; refine (rdegree_any a m c (srt xs) _ _ R).mono ?_; rintro e wy ⟨rfl, hwy⟩; rw [hwy, HD.out]; clear hwy wy)
          refine bodyPost_ret (results_tmp2 rfl _ _ _) rfl ?_
          exact LnkP.crowd B1 HC.out
        case pos =>
          have h6I : ¬ (d : Int) > 6 := by omega
          go_wp2_with (go_at_call 17; refine (rdegree_any a m c (srt xs) _ _ R).mono ?_; rintro e wy ⟨rfl, hwy⟩; rw [hwy, HD.out]; clear hwy wy)
          go_roundg (gk - 1)
          case measure => omega
          case rel => exact ⟨v + 1, by first | rfl | go_num, by omega, rfl, fun u hu => (Nat.lt_succ_iff_lt_or_eq.1 hu).elim (HU.out u) (fun e => by rw [e, HD.out]; exact h6)⟩
end Go.Proofs.Ytpdmpekkmblgmaa
