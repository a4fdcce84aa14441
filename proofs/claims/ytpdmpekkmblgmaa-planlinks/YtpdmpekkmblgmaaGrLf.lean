/-
  The document: a random network.
-/
import Derived.Test.YtpdmpekkmblgmaaF3
import Derived.Test.YtpdmpekkmblgmaaPB
import Derived.Test.YtpdmpekkmblgmaaP6
namespace Go.Proofs.Ytpdmpekkmblgmaa
open Go.ChangeShapes Go.WideShapes Go.ChangeAt Go.RowKit Go.Maps Go.Shelf
set_option linter.unusedVariables false
set_option linter.unusedSimpArgs false
attribute [local go_sem] Oper.semAt_some

theorem srt_nil : srt [] = [] := by simp [srt]
theorem rdL_srt0 (W : World) (L : List LK) : RdL W none 0 0 (srt (L.take 0)) := by rw [List.take_zero, srt_nil]; exact rdL_nil _
theorem rdL_all {W : World} {a : Option Addr} {m c : Nat} {L : List LK} {j : Nat} (h : RdL W a m c (srt (L.take j))) (hj : L.length ≤ j) : RdL W a m c (srt L) := by rw [List.take_of_length_le hj] at h; exact h
set_option maxRecDepth 100000 in
set_option maxHeartbeats 1000000 in
theorem rline_any (n : Nat) (w : World) (hn : n ≤ 1000) : Calls Try.prog 55 #[.int .i64 (n : Int)] w fun e w' => ∃ a m c, e = .returned (.slice a m c) ∧ RdL w' a m c (srt (lineL n)) ∧ Below w.heap.size w w' := by
  have HN : Hid (n ≤ 1000) := hn
  have HL : Hid ((lineL n).length ≤ 1000) := by show _ ≤ _; rw [lineL_len]; omega
  clear hn
  go_enter Try.func55, Try.ntmps55
  go_wp2
  go_loopg [3, 4] n (fun gk v3 v4 wr => ∃ (i : Nat) (a : Option Addr) (m c : Nat), v3 = .slice a m c ∧ v4 = .int .i64 (i : Int) ∧ i + gk = n ∧ i ≤ n - 1 ∧ RdL wr a m c (srt ((lineL n).take i)) ∧ Below w.heap.size w wr)
  case atStart => exact ⟨0, none, 0, 0, rfl, by first | rfl | go_num, by omega, by omega, rdL_srt0 _ _, Below.refl _ _⟩
  case round =>
    obtain ⟨i, a, m, c, rfl, rfl, hg, hle, R, B⟩ := hrel
    have hadd : IntKind.i64.wrap ((i : Int) + 1) = (i : Int) + 1 := by rw [IntKind.wrap_i64]; have := HN.out; omega
    by_cases hi : (i : Int) + 1 < (n : Int)
    case pos =>
      have hx := lineL_at (show i < n - 1 by omega)
      go_wp2_with (go_at_call 56; refine (put_any _ _ _ _ _ _ _ R (by rw [srt_len, List.length_take]; have := HL.out; omega)).mono ?_; rintro e w2 ⟨a2, m2, c2, rfl, R2, b2⟩; rw [putD_at (lineL_nodup n) hx (by omega)] at R2; have B2 := B.trans (b2.mono B.size))
      go_roundg (gk - 1)
      case measure => omega
      case rel => exact ⟨i + 1, a2, m2, c2, rfl, by first | rfl | go_num, by omega, by omega, R2, B2⟩
    case neg =>
      have R9 := rdL_all R (by rw [lineL_len]; omega)
      go_wp2
      go_ret
      exact ⟨a, m, c, rfl, R9, B⟩
end Go.Proofs.Ytpdmpekkmblgmaa

namespace Go.Proofs.Ytpdmpekkmblgmaa
open Go.ChangeShapes Go.WideShapes Go.ChangeAt Go.RowKit Go.Maps Go.Shelf
set_option linter.unusedVariables false
set_option linter.unusedSimpArgs false
attribute [local go_sem] Oper.semAt_some

set_option maxRecDepth 100000 in
set_option maxHeartbeats 1000000 in
theorem shaped_1 (n : Nat) (k : Int) (w : World) (hn : n ≤ 16) : Calls Try.prog 33 #[.int .i64 1, .int .i64 (n : Int), .int .i64 k] w fun e w' => ∃ a m c, e = .returned (.slice a m c) ∧ RdL w' a m c (srt (lineL n)) ∧ Below w.heap.size w w' := by
  have HN : Hid (n ≤ 16) := hn
  have KL := fun W => rline_any n W (by have := HN.out; omega)
  clear hn
  go_enter Try.func33, Try.ntmps33
  go_wp2_with (go_at_call 55; refine (KL _).mono ?_; clear KL; rintro e w1 ⟨a, m, c, rfl, R, B⟩)
  go_ret
  exact ⟨a, m, c, rfl, R, B⟩
set_option maxRecDepth 100000 in
set_option maxHeartbeats 1000000 in
theorem shaped_2 (n : Nat) (k : Int) (w : World) (hn : n ≤ 16) : Calls Try.prog 33 #[.int .i64 2, .int .i64 (n : Int), .int .i64 k] w fun e w' => ∃ a m c, e = .returned (.slice a m c) ∧ RdL w' a m c (srt (ringL n)) ∧ Below w.heap.size w w' := by
  have HN : Hid (n ≤ 16) := hn
  have KL := fun W => rline_any n W (by have := HN.out; omega)
  clear hn
  by_cases h3 : 3 ≤ n
  case pos =>
    have h3I : (3 : Int) ≤ (n : Int) := by omega
    have hsub : IntKind.i64.wrap ((n : Int) - 1) = (n : Int) - 1 := by rw [IntKind.wrap_i64]; have := HN.out; omega
    have HT : Hid ((ringL n).take (lineL n).length = lineL n ∧ (ringL n).take ((lineL n).length + 1) = ringL n) := by
      refine ⟨?_, ?_⟩
      · unfold ringL; rw [List.take_left]
      · rw [← ringL_len h3, List.take_length]
    have HL : Hid ((ringL n).length ≤ 1000) := by show _ ≤ _; rw [ringL_len h3, lineL_len]; have := HN.out; omega
    have hx := ringL_last h3
    go_enter Try.func33, Try.ntmps33
    go_wp2_with (first
      | (go_at_call 55; refine (KL _).mono ?_; clear KL; rintro e w1 ⟨a, m, c, rfl, R0, B⟩; have R := R0; rw [← HT.out.1] at R)
      | (go_at_call 56; refine (put_any _ _ _ _ _ _ _ R (by rw [srt_len, List.length_take]; have := HL.out; omega)).mono ?_; rintro e w2 ⟨a2, m2, c2, rfl, R2, b2⟩; rw [putD_at (ringL_nodup n) hx (by omega)] at R2; have B2 := B.trans (b2.mono B.size)))
    go_ret
    rw [HT.out.2] at R2
    exact ⟨a2, m2, c2, rfl, R2, B2⟩
  case neg =>
    have h3I : ¬ (3 : Int) ≤ (n : Int) := by omega
    have HE : Hid (ringL n = lineL n) := by show _ = _; unfold ringL; rw [if_neg h3, List.append_nil]
    go_enter Try.func33, Try.ntmps33
    go_wp2_with (go_at_call 55; refine (KL _).mono ?_; clear KL; rintro e w1 ⟨a, m, c, rfl, R, B⟩)
    go_ret
    exact ⟨a, m, c, rfl, by rw [HE.out]; exact R, B⟩
end Go.Proofs.Ytpdmpekkmblgmaa

namespace Go.Proofs.Ytpdmpekkmblgmaa
open Go.ChangeShapes Go.WideShapes Go.ChangeAt Go.RowKit Go.Maps Go.Shelf
set_option linter.unusedVariables false
set_option linter.unusedSimpArgs false
attribute [local go_sem] Oper.semAt_some

set_option maxRecDepth 100000 in
set_option maxHeartbeats 1000000 in
theorem shaped_3 (n : Nat) (k : Int) (w : World) (hn : n ≤ 16) : Calls Try.prog 33 #[.int .i64 3, .int .i64 (n : Int), .int .i64 k] w fun e w' => ∃ a m c, e = .returned (.slice a m c) ∧ RdL w' a m c (srt (treeL n (n : Int))) ∧ Below w.heap.size w w' := by
  have HN : Hid (n ≤ 16) := hn
  have HL : Hid ((treeL n (n : Int)).length ≤ 1000) := by show _ ≤ _; rw [treeL_len]; omega



  clear hn
  go_enter Try.func33, Try.ntmps33
  go_wp2
  go_loopg [7, 8] n (fun gk v7 v8 wr => ∃ (i : Nat) (a : Option Addr) (m c : Nat), v7 = .slice a m c ∧ v8 = .int .i64 ((i : Int) + 1) ∧ i + gk = n ∧ i ≤ n - 1 ∧ RdL wr a m c (srt ((treeL n (n : Int)).take i)) ∧ Below w.heap.size w wr)
  case atStart => exact ⟨0, none, 0, 0, rfl, by first | rfl | go_num, by omega, by omega, rdL_srt0 _ _, Below.refl _ _⟩
  case round =>
    obtain ⟨i, a, m, c, rfl, rfl, hg, hle, R, B⟩ := hrel
    by_cases hi : (i : Int) + 1 < (n : Int)
    case pos =>
      have hadd : IntKind.i64.wrap ((i : Int) + 1 + 1) = (i : Int) + 1 + 1 := by rw [IntKind.wrap_i64]; have := HN.out; omega
      have hx := treeL_at (k := (n : Int)) (show i < n - 1 by omega)
      obtain ⟨d, hd⟩ : ∃ d, (i : Int) / (n : Int) = d := ⟨_, rfl⟩
      rw [hd] at hx
      have hd0 : (0 : Int) = d := by rw [← hd]; exact (Int.ediv_eq_zero_of_lt (by omega) (by omega)).symm
      subst hd0
      have HDL : Hid ((0 : Int) < (i : Int) + 1) := by show _ < _; omega
      clear hd
      go_wp2_with (go_at_call 56; refine (put_any _ _ _ _ _ _ _ R (by rw [srt_len, List.length_take]; have := HL.out; omega)).mono ?_; rintro e w2 ⟨a2, m2, c2, rfl, R2, b2⟩; rw [putD_at (treeL_nodup n (n : Int)) hx (HDL.out)] at R2; have B2 := B.trans (b2.mono B.size))
      go_roundg (gk - 1)
      case measure => omega
      case rel => exact ⟨i + 1, a2, m2, c2, rfl, by first | rfl | go_num | (congr 1), by omega, by omega, R2, B2⟩
    case neg =>
      have R9 := rdL_all R (by rw [treeL_len]; omega)
      go_wp2
      go_ret
      exact ⟨a, m, c, rfl, R9, B⟩
end Go.Proofs.Ytpdmpekkmblgmaa

namespace Go.Proofs.Ytpdmpekkmblgmaa
open Go.ChangeShapes Go.WideShapes Go.ChangeAt Go.RowKit Go.Maps Go.Shelf
set_option linter.unusedVariables false
set_option linter.unusedSimpArgs false
attribute [local go_sem] Oper.semAt_some

set_option maxRecDepth 100000 in
set_option maxHeartbeats 1000000 in
theorem shaped_6 (n : Nat) (k : Int) (w : World) (hn : n ≤ 16) (hk : 1 ≤ k) : Calls Try.prog 33 #[.int .i64 6, .int .i64 (n : Int), .int .i64 k] w fun e w' => ∃ a m c, e = .returned (.slice a m c) ∧ RdL w' a m c (srt (treeL n k)) ∧ Below w.heap.size w w' := by
  have HN : Hid (n ≤ 16) := hn
  have HL : Hid ((treeL n k).length ≤ 1000) := by show _ ≤ _; rw [treeL_len]; omega
  have hk0 : (k == 0) = false := by simp; omega
  have hk0b : k ≠ 0 := by omega
  have HK : Hid (1 ≤ k) := hk
  clear hn hk
  go_enter Try.func33, Try.ntmps33
  go_wp2
  go_loopg [7, 12] n (fun gk v7 v12 wr => ∃ (i : Nat) (a : Option Addr) (m c : Nat), v7 = .slice a m c ∧ v12 = .int .i64 ((i : Int) + 1) ∧ i + gk = n ∧ i ≤ n - 1 ∧ RdL wr a m c (srt ((treeL n k).take i)) ∧ Below w.heap.size w wr)
  case atStart => exact ⟨0, none, 0, 0, rfl, by first | rfl | go_num, by omega, by omega, rdL_srt0 _ _, Below.refl _ _⟩
  case round =>
    obtain ⟨i, a, m, c, rfl, rfl, hg, hle, R, B⟩ := hrel
    by_cases hi : (i : Int) + 1 < (n : Int)
    case pos =>
      have hadd : IntKind.i64.wrap ((i : Int) + 1 + 1) = (i : Int) + 1 + 1 := by rw [IntKind.wrap_i64]; have := HN.out; omega
      have hx := treeL_at (k := k) (show i < n - 1 by omega)
      obtain ⟨d, hd⟩ : ∃ d, (i : Int) / k = d := ⟨_, rfl⟩
      rw [hd] at hx
      have hsub : IntKind.i64.wrap ((i : Int) + 1 - 1) = (i : Int) := by rw [IntKind.wrap_i64]; have := HN.out; omega
      have hdiv : Int.tdiv (i : Int) k = d := by rw [← hd]; exact Int.tdiv_eq_ediv_of_nonneg (by omega)
      have hlt : d ≤ (i : Int) := by rw [← hd]; exact Int.ediv_le_self _ (by omega)
      have hge : 0 ≤ d := by rw [← hd]; exact Int.ediv_nonneg (by omega) (by have := HK.out; omega)
      have hw0 : IntKind.i64.wrap (i : Int) = (i : Int) := by rw [IntKind.wrap_i64]; have := HN.out; omega
      have hw1 : IntKind.i64.wrap d = d := by rw [IntKind.wrap_i64]; have := HN.out; omega
      have HDL : Hid (d < (i : Int) + 1) := by show _ < _; omega
      clear hd hlt hge hsub
      go_wp2_with (go_at_call 56; refine (put_any _ _ _ _ _ _ _ R (by rw [srt_len, List.length_take]; have := HL.out; omega)).mono ?_; rintro e w2 ⟨a2, m2, c2, rfl, R2, b2⟩; rw [putD_at (treeL_nodup n k) hx (HDL.out)] at R2; have B2 := B.trans (b2.mono B.size))
      go_roundg (gk - 1)
      case measure => omega
      case rel => exact ⟨i + 1, a2, m2, c2, rfl, by first | rfl | go_num | (congr 1), by omega, by omega, R2, B2⟩
    case neg =>
      have R9 := rdL_all R (by rw [treeL_len]; omega)
      go_wp2
      go_ret
      exact ⟨a, m, c, rfl, R9, B⟩
end Go.Proofs.Ytpdmpekkmblgmaa

namespace Go.Proofs.Ytpdmpekkmblgmaa
open Go.ChangeShapes Go.WideShapes Go.ChangeAt Go.RowKit Go.Maps Go.Shelf
set_option linter.unusedVariables false
set_option linter.unusedSimpArgs false
attribute [local go_sem] Oper.semAt_some

set_option maxRecDepth 100000 in
set_option maxHeartbeats 1000000 in
theorem shaped_4 (n : Nat) (k : Int) (w : World) (hn : n ≤ 16) : Calls Try.prog 33 #[.int .i64 4, .int .i64 (n : Int), .int .i64 k] w fun e w' => ∃ a m c, e = .returned (.slice a m c) ∧ RdL w' a m c (srt (fullD n n)) ∧ Below w.heap.size w w' := by
  have HN : Hid (n ≤ 16) := hn
  have HL : Hid ((fullD n n).length ≤ 1000) := by show _ ≤ _; have h1 := fullD_len n n; have h2 : n * n ≤ 16 * 16 := Nat.mul_le_mul hn hn; omega
  clear hn
  go_enter Try.func33, Try.ntmps33
  go_wp2
  go_loopg [7, 9] n (fun gk v7 v9 wr => ∃ (i : Nat) (a : Option Addr) (m c : Nat), v7 = .slice a m c ∧ v9 = .int .i64 (i : Int) ∧ i + gk = n ∧ RdL wr a m c (srt ((fullD n n).take (fullD n i).length)) ∧ Below w.heap.size w wr)
  case atStart => exact ⟨0, none, 0, 0, rfl, by first | rfl | go_num, by omega, rdL_srt0 _ _, Below.refl _ _⟩
  case round =>
    obtain ⟨i, a0, m0, c0, rfl, rfl, hg, R0, B0⟩ := hrel
    by_cases hi : i < n
    case pos =>
      have hiI : (i : Int) < (n : Int) := by omega
      have hadd : IntKind.i64.wrap ((i : Int) + 1) = (i : Int) + 1 := by rw [IntKind.wrap_i64]; have := HN.out; omega
      have HI : Hid (i < n) := hi
      obtain ⟨g1, hg1⟩ : ∃ g1, g1 = gk := ⟨_, rfl⟩
      go_wp2
      go_loopg [7, 10] (n - (i + 1)) (fun gk v7 v10 wr => ∃ (j : Nat) (a : Option Addr) (m c : Nat), v7 = .slice a m c ∧ v10 = .int .i64 ((i : Int) + 1 + (j : Int)) ∧ j + gk = n - (i + 1) ∧ RdL wr a m c (srt ((fullD n n).take ((fullD n i).length + j))) ∧ Below w.heap.size w wr)
      case atStart => exact ⟨0, a0, m0, c0, rfl, by first | rfl | go_num | (congr 1; omega), by omega, R0, B0⟩
      case round =>
        clear R0 B0
        obtain ⟨j, a, m, c, rfl, rfl, hg2, R, B⟩ := hrel
        have hadd2 : IntKind.i64.wrap ((i : Int) + 1 + (j : Int) + 1) = (i : Int) + 1 + (j : Int) + 1 := by rw [IntKind.wrap_i64]; have := HN.out; omega
        by_cases hj : (i : Int) + 1 + (j : Int) < (n : Int)
        case pos =>
          have hx := fullD_at HI.out (show j < n - (i + 1) by omega)
          go_wp2_with (go_at_call 56; refine (put_any _ _ _ _ _ _ _ R (by rw [srt_len, List.length_take]; have := HL.out; omega)).mono ?_; rintro e w2 ⟨a2, m2, c2, rfl, R2, b2⟩; rw [putD_at (fullD_nodup n n) hx (by omega)] at R2; have B2 := B.trans (b2.mono B.size))
          go_roundg (gk - 1)
          case measure => omega
          case rel => exact ⟨j + 1, a2, m2, c2, rfl, by first | rfl | go_num | (congr 1; omega), by omega, R2, B2⟩
        case neg =>
          have HA : Hid ((fullD n (i + 1)).length = (fullD n i).length + j) := by show _ = _; rw [fullD, List.length_append, fullE_len]; omega
          rw [← HA.out] at R
          go_wp2
          go_roundg (g1 - 1)
          case measure => omega
          case rel => exact ⟨i + 1, a, m, c, rfl, by first | rfl | go_num, by omega, R, B⟩
    case neg =>
      have hiI : ¬ (i : Int) < (n : Int) := by omega
      have hin : i = n := by omega
      rw [hin] at R0
      have R9 := rdL_all R0 (Nat.le_refl _)
      go_wp2
      go_ret
      exact ⟨a0, m0, c0, rfl, R9, B0⟩
end Go.Proofs.Ytpdmpekkmblgmaa

namespace Go.Proofs.Ytpdmpekkmblgmaa
open Go.ChangeShapes Go.WideShapes Go.ChangeAt Go.RowKit Go.Maps Go.Shelf
set_option linter.unusedVariables false
set_option linter.unusedSimpArgs false
attribute [local go_sem] Oper.semAt_some

set_option maxRecDepth 100000 in
set_option maxHeartbeats 4000000 in
theorem shaped_5 (n : Nat) (k : Int) (w : World) (hn : n ≤ 16) (hk : 1 ≤ k) (hk2 : k ≤ 9223372036854775807) : Calls Try.prog 33 #[.int .i64 5, .int .i64 (n : Int), .int .i64 k] w fun e w' => ∃ a m c, e = .returned (.slice a m c) ∧ RdL w' a m c (srt (gridL n k n)) ∧ Below w.heap.size w w' := by
  have HN : Hid (n ≤ 16) := hn
  have HL : Hid ((gridL n k n).length ≤ 1000) := by show _ ≤ _; have h1 := gridL_len n k n; omega
  have hk0 : (k == 0) = false := by simp; omega
  have hk0b : k ≠ 0 := by omega
  have HK : Hid (1 ≤ k ∧ k ≤ 9223372036854775807) := ⟨hk, hk2⟩
  clear hn hk hk2
  go_enter Try.func33, Try.ntmps33
  go_wp2
  go_loopg [7, 11] n (fun gk v7 v11 wr => ∃ (i : Nat) (a : Option Addr) (m c : Nat), v7 = .slice a m c ∧ v11 = .int .i64 (i : Int) ∧ i + gk = n ∧ RdL wr a m c (srt ((gridL n k n).take (gridL n k i).length)) ∧ Below w.heap.size w wr)
  case atStart => exact ⟨0, none, 0, 0, rfl, by first | rfl | go_num, by omega, rdL_srt0 _ _, Below.refl _ _⟩
  case round =>
    obtain ⟨i, a, m, c, rfl, rfl, hg, R, B⟩ := hrel
    by_cases hi : i < n
    case neg =>
      have hiI : ¬ (i : Int) < (n : Int) := by omega
      have hin : i = n := by omega
      rw [hin] at R
      have R9 := rdL_all R (Nat.le_refl _)
      go_wp2
      go_ret
      exact ⟨a, m, c, rfl, R9, B⟩
    case pos =>
      have hiI : (i : Int) < (n : Int) := by omega
      have hadd : IntKind.i64.wrap ((i : Int) + 1) = (i : Int) + 1 := by rw [IntKind.wrap_i64]; have := HN.out; omega
      have HI : Hid (i < n) := hi
      obtain ⟨d, hd⟩ : ∃ d, Int.tmod ((i : Int) + 1) k = d := ⟨_, rfl⟩
      have hlt : d < k := by rw [← hd]; exact Int.tmod_lt_of_pos _ (by have := HK.out; omega)
      have hge : 0 ≤ d := by rw [← hd]; exact Int.tmod_nonneg _ (by omega)
      have hw1 : IntKind.i64.wrap d = d := by rw [IntKind.wrap_i64]; have := HK.out; omega
      clear hlt hge
      by_cases hkn : k < (n : Int)
      case pos =>
        have hadk : IntKind.i64.wrap ((i : Int) + k) = (i : Int) + k := by rw [IntKind.wrap_i64]; have := HN.out; have := HK.out; omega
        by_cases h2 : (i : Int) + k < (n : Int)
        case pos =>
          by_cases h1 : (i : Int) + 1 < (n : Int)
          case pos =>
            by_cases hdz : d = 0
            case pos =>
              have HG : Hid (gridR n k i = [((i : Int), (i : Int) + k)]) := by show _ = _; unfold gridR; rw [hd, if_neg (by simp [hdz]), if_pos (by omega)]; rfl
              subst hdz
              have hx2 : (gridL n k n)[(gridL n k i).length]? = some ((i : Int), (i : Int) + k) := gridL_at (m := n) (j := 0) HI.out (by rw [HG.out]; rfl)
              go_wp2_with (go_at_call 56; refine (put_any _ _ _ _ _ _ _ R (by rw [srt_len, List.length_take]; have := HL.out; omega)).mono ?_; rintro e w2 ⟨a2, m2, c2, rfl, R2, b2⟩; rw [putD_at (gridL_nodup n k n) hx2 (by have := HK.out; omega)] at R2; have B2 := B.trans (b2.mono B.size))
              have HE : Hid ((gridL n k (i + 1)).length = (gridL n k i).length + 1) := by show _ = _; rw [gridL, List.length_append, HG.out]; rfl
              rw [← HE.out] at R2
              go_roundg (gk - 1)
              case measure => omega
              case rel => exact ⟨i + 1, a2, m2, c2, rfl, by first | rfl | go_num, by omega, R2, B2⟩
            case neg =>
              have hdz' : (d == 0) = false := by simpa using hdz
              have HG : Hid (gridR n k i = [((i : Int), (i : Int) + 1), ((i : Int), (i : Int) + k)]) := by show _ = _; unfold gridR; rw [hd, if_pos ⟨h1, hdz⟩, if_pos (by omega)]; rfl
              have hx : (gridL n k n)[(gridL n k i).length]? = some ((i : Int), (i : Int) + 1) := gridL_at (m := n) (j := 0) HI.out (by rw [HG.out]; rfl)
              have hx3 : (gridL n k n)[(gridL n k i).length + 1]? = some ((i : Int), (i : Int) + k) := gridL_at (m := n) (j := 1) HI.out (by rw [HG.out]; rfl)
              go_wp2_with (first
                | (go_at_call 56; refine (put_any _ _ _ _ _ _ _ R2 (by rw [srt_len, List.length_take]; have := HL.out; omega)).mono ?_; rintro e w3 ⟨a3, m3, c3, rfl, R3, b3⟩; rw [putD_at (gridL_nodup n k n) hx3 (by have := HK.out; omega)] at R3; have B3 := B2.trans (b3.mono B2.size))
                | (go_at_call 56; refine (put_any _ _ _ _ _ _ _ R (by rw [srt_len, List.length_take]; have := HL.out; omega)).mono ?_; rintro e w2 ⟨a2, m2, c2, rfl, R2, b2⟩; rw [putD_at (gridL_nodup n k n) hx (by omega)] at R2; have B2 := B.trans (b2.mono B.size)))
              have HE : Hid ((gridL n k (i + 1)).length = (gridL n k i).length + 2) := by show _ = _; rw [gridL, List.length_append, HG.out]; rfl
              rw [← HE.out] at R3
              go_roundg (gk - 1)
              case measure => omega
              case rel => exact ⟨i + 1, a3, m3, c3, rfl, by first | rfl | go_num, by omega, R3, B3⟩
          case neg =>
            have HG : Hid (gridR n k i = [((i : Int), (i : Int) + k)]) := by show _ = _; unfold gridR; rw [if_neg (by omega), if_pos (by omega)]; rfl
            have hx2 : (gridL n k n)[(gridL n k i).length]? = some ((i : Int), (i : Int) + k) := gridL_at (m := n) (j := 0) HI.out (by rw [HG.out]; rfl)
            go_wp2_with (go_at_call 56; refine (put_any _ _ _ _ _ _ _ R (by rw [srt_len, List.length_take]; have := HL.out; omega)).mono ?_; rintro e w2 ⟨a2, m2, c2, rfl, R2, b2⟩; rw [putD_at (gridL_nodup n k n) hx2 (by have := HK.out; omega)] at R2; have B2 := B.trans (b2.mono B.size))
            have HE : Hid ((gridL n k (i + 1)).length = (gridL n k i).length + 1) := by show _ = _; rw [gridL, List.length_append, HG.out]; rfl
            rw [← HE.out] at R2
            go_roundg (gk - 1)
            case measure => omega
            case rel => exact ⟨i + 1, a2, m2, c2, rfl, by first | rfl | go_num, by omega, R2, B2⟩
        case neg =>
          by_cases h1 : (i : Int) + 1 < (n : Int)
          case pos =>
            by_cases hdz : d = 0
            case pos =>
              have HG : Hid (gridR n k i = []) := by show _ = _; unfold gridR; rw [hd, if_neg (by simp [hdz]), if_neg (by omega)]; rfl
              subst hdz
              go_wp2
              have HE : Hid ((gridL n k (i + 1)).length = (gridL n k i).length) := by show _ = _; rw [gridL, List.length_append, HG.out]; rfl
              rw [← HE.out] at R
              go_roundg (gk - 1)
              case measure => omega
              case rel => exact ⟨i + 1, a, m, c, rfl, by first | rfl | go_num, by omega, R, B⟩
            case neg =>
              have hdz' : (d == 0) = false := by simpa using hdz
              have HG : Hid (gridR n k i = [((i : Int), (i : Int) + 1)]) := by show _ = _; unfold gridR; rw [hd, if_pos ⟨h1, hdz⟩, if_neg (by omega)]; rfl
              have hx : (gridL n k n)[(gridL n k i).length]? = some ((i : Int), (i : Int) + 1) := gridL_at (m := n) (j := 0) HI.out (by rw [HG.out]; rfl)
              go_wp2_with (go_at_call 56; refine (put_any _ _ _ _ _ _ _ R (by rw [srt_len, List.length_take]; have := HL.out; omega)).mono ?_; rintro e w2 ⟨a2, m2, c2, rfl, R2, b2⟩; rw [putD_at (gridL_nodup n k n) hx (by omega)] at R2; have B2 := B.trans (b2.mono B.size))
              have HE : Hid ((gridL n k (i + 1)).length = (gridL n k i).length + 1) := by show _ = _; rw [gridL, List.length_append, HG.out]; rfl
              rw [← HE.out] at R2
              go_roundg (gk - 1)
              case measure => omega
              case rel => exact ⟨i + 1, a2, m2, c2, rfl, by first | rfl | go_num, by omega, R2, B2⟩
          case neg =>
            have HG : Hid (gridR n k i = []) := by show _ = _; unfold gridR; rw [if_neg (by omega), if_neg (by omega)]; rfl
            go_wp2
            have HE : Hid ((gridL n k (i + 1)).length = (gridL n k i).length) := by show _ = _; rw [gridL, List.length_append, HG.out]; rfl
            rw [← HE.out] at R
            go_roundg (gk - 1)
            case measure => omega
            case rel => exact ⟨i + 1, a, m, c, rfl, by first | rfl | go_num, by omega, R, B⟩
      case neg =>
        by_cases h1 : (i : Int) + 1 < (n : Int)
        case pos =>
          by_cases hdz : d = 0
          case pos =>
            have HG : Hid (gridR n k i = []) := by show _ = _; unfold gridR; rw [hd, if_neg (by simp [hdz]), if_neg (by omega)]; rfl
            subst hdz
            go_wp2
            have HE : Hid ((gridL n k (i + 1)).length = (gridL n k i).length) := by show _ = _; rw [gridL, List.length_append, HG.out]; rfl
            rw [← HE.out] at R
            go_roundg (gk - 1)
            case measure => omega
            case rel => exact ⟨i + 1, a, m, c, rfl, by first | rfl | go_num, by omega, R, B⟩
          case neg =>
            have hdz' : (d == 0) = false := by simpa using hdz
            have HG : Hid (gridR n k i = [((i : Int), (i : Int) + 1)]) := by show _ = _; unfold gridR; rw [hd, if_pos ⟨h1, hdz⟩, if_neg (by omega)]; rfl
            have hx : (gridL n k n)[(gridL n k i).length]? = some ((i : Int), (i : Int) + 1) := gridL_at (m := n) (j := 0) HI.out (by rw [HG.out]; rfl)
            go_wp2_with (go_at_call 56; refine (put_any _ _ _ _ _ _ _ R (by rw [srt_len, List.length_take]; have := HL.out; omega)).mono ?_; rintro e w2 ⟨a2, m2, c2, rfl, R2, b2⟩; rw [putD_at (gridL_nodup n k n) hx (by omega)] at R2; have B2 := B.trans (b2.mono B.size))
            have HE : Hid ((gridL n k (i + 1)).length = (gridL n k i).length + 1) := by show _ = _; rw [gridL, List.length_append, HG.out]; rfl
            rw [← HE.out] at R2
            go_roundg (gk - 1)
            case measure => omega
            case rel => exact ⟨i + 1, a2, m2, c2, rfl, by first | rfl | go_num, by omega, R2, B2⟩
        case neg =>
          have HG : Hid (gridR n k i = []) := by show _ = _; unfold gridR; rw [if_neg (by omega), if_neg (by omega)]; rfl
          go_wp2
          have HE : Hid ((gridL n k (i + 1)).length = (gridL n k i).length) := by show _ = _; rw [gridL, List.length_append, HG.out]; rfl
          rw [← HE.out] at R
          go_roundg (gk - 1)
          case measure => omega
          case rel => exact ⟨i + 1, a, m, c, rfl, by first | rfl | go_num, by omega, R, B⟩
end Go.Proofs.Ytpdmpekkmblgmaa

namespace Go.Proofs.Ytpdmpekkmblgmaa
open Go.ChangeShapes Go.WideShapes Go.ChangeAt Go.RowKit Go.Maps Go.Shelf
set_option linter.unusedVariables false
set_option linter.unusedSimpArgs false
attribute [local go_sem] Oper.semAt_some

/-- The pair that two numbers of a seed make. -/
def rnp (n x : Int) : LK := (min (bl n x) (bl n (nx x)), max (bl n x) (bl n (nx x)))
/-- Whether a pair may come to others. -/
def roomB (l : List LK) (p : LK) : Bool := decide (p.1 ≠ p.2) && (decide (p ∉ l) && (decide (dg l p.1 < 6) && decide (dg l p.2 < 6)))
def rput (n : Int) (l : List LK) (x : Int) : List LK := if roomB l (rnp n x) = true then l ++ [rnp n x] else l
/-- The pairs behind so many draws, and the number that they leave. -/
def rpairs (n : Int) (l : List LK) (x : Int) : Nat → List LK × Int
  | 0 => (l, x)
  | m + 1 => (rput n (rpairs n l x m).1 (rpairs n l x m).2, nx (nx (rpairs n l x m).2))
def randL (n : Nat) (k : Int) : List LK := (rpairs (n : Int) (lineL n) (IntKind.u64.wrap k) (2 * n)).1
theorem rput_nodup {n : Int} {l : List LK} {x : Int} (h : l.Nodup) : (rput n l x).Nodup := by
  unfold rput
  split
  · rename_i hr
    unfold roomB at hr
    simp only [Bool.and_eq_true, decide_eq_true_eq] at hr
    exact snoc_nodup h hr.2.1
  · exact h
theorem rpairs_nodup {n : Int} {l : List LK} {x : Int} (h : l.Nodup) (m : Nat) : (rpairs n l x m).1.Nodup := by
  induction m with
  | zero => exact h
  | succ m ih => exact rput_nodup ih
theorem rput_len (n : Int) (l : List LK) (x : Int) : (rput n l x).length ≤ l.length + 1 := by
  unfold rput
  split <;> simp
theorem rpairs_len (n : Int) (l : List LK) (x : Int) (m : Nat) : (rpairs n l x m).1.length ≤ l.length + m := by
  induction m with
  | zero => exact Nat.le_refl _
  | succ m ih => have := rput_len n (rpairs n l x m).1 (rpairs n l x m).2; show (rput n _ _).length ≤ _; omega
theorem rput_yes {n : Int} {l : List LK} {x : Int} (hx : l.Nodup) (h1 : dg l (bl n x) < 6) (h2 : dg l (bl n (nx x)) < 6) : putD (srt l) (bl n x) (bl n (nx x)) = srt (rput n l x) := by
  rw [putD_srt hx]
  congr 1
  unfold putX rput roomB rnp
  by_cases h : bl n x = bl n (nx x)
  · rw [if_pos (.inl h), if_neg (by simp [h])]
  · by_cases hm : (min (bl n x) (bl n (nx x)), max (bl n x) (bl n (nx x))) ∈ l
    · rw [if_pos (.inr hm), if_neg (by simp [hm])]
    · rw [if_neg (by rintro (h9 | h9); exact h h9; exact hm h9), if_pos]
      simp only [Bool.and_eq_true, decide_eq_true_eq]
      refine ⟨by omega, hm, ?_, ?_⟩
      · rcases Int.le_total (bl n x) (bl n (nx x)) with h5 | h5
        · rw [show min (bl n x) (bl n (nx x)) = bl n x by omega]; exact h1
        · rw [show min (bl n x) (bl n (nx x)) = bl n (nx x) by omega]; exact h2
      · rcases Int.le_total (bl n x) (bl n (nx x)) with h5 | h5
        · rw [show max (bl n x) (bl n (nx x)) = bl n (nx x) by omega]; exact h2
        · rw [show max (bl n x) (bl n (nx x)) = bl n x by omega]; exact h1
theorem rput_no {n : Int} {l : List LK} {x : Int} (h : ¬ (dg l (bl n x) < 6 ∧ dg l (bl n (nx x)) < 6)) : rput n l x = l := by
  unfold rput roomB rnp
  rw [if_neg]
  intro h2
  simp only [Bool.and_eq_true, decide_eq_true_eq] at h2
  obtain ⟨_, _, h3, h4⟩ := h2
  rcases Int.le_total (bl n x) (bl n (nx x)) with h5 | h5
  · rw [show min (bl n x) (bl n (nx x)) = bl n x by omega] at h3
    rw [show max (bl n x) (bl n (nx x)) = bl n (nx x) by omega] at h4
    exact h ⟨h3, h4⟩
  · rw [show min (bl n x) (bl n (nx x)) = bl n (nx x) by omega] at h3
    rw [show max (bl n x) (bl n (nx x)) = bl n x by omega] at h4
    exact h ⟨h4, h3⟩
end Go.Proofs.Ytpdmpekkmblgmaa

namespace Go.Proofs.Ytpdmpekkmblgmaa
open Go.ChangeShapes Go.WideShapes Go.ChangeAt Go.RowKit Go.Maps Go.Shelf
set_option linter.unusedVariables false
set_option linter.unusedSimpArgs false
attribute [local go_sem] Oper.semAt_some

set_option maxRecDepth 100000 in
set_option maxHeartbeats 1000000 in
theorem rrand_any (n : Nat) (k : Int) (w : World) (hn1 : 1 ≤ n) (hn : n ≤ 16) : Calls Try.prog 57 #[.int .i64 (n : Int), .int .i64 k] w fun e w' => ∃ a m c, e = .returned (.slice a m c) ∧ RdL w' a m c (srt (randL n k)) ∧ Below w.heap.size w w' := by
  have HN : Hid (1 ≤ n ∧ n ≤ 16) := ⟨hn1, hn⟩
  have KL := fun W => rline_any n W (by have := HN.out; omega)
  have hn0 : ((n : Int) == 0) = false := by simp; omega
  have hn0b : (n : Int) ≠ 0 := by omega
  have hcn : IntKind.u64.wrap (n : Int) = (n : Int) := by rw [IntKind.wrap_u64]; omega
  have h2n : IntKind.i64.wrap (2 * (n : Int)) = 2 * (n : Int) := by rw [IntKind.wrap_i64]; omega
  obtain ⟨x0, hx0⟩ : ∃ x0, IntKind.u64.wrap k = x0 := ⟨_, rfl⟩
  have HX0 : Hid (randL n k = (rpairs (n : Int) (lineL n) x0 (2 * n)).1) := by show _ = _; unfold randL; rw [hx0]
  clear hn hn1
  go_enter Try.func57, Try.ntmps57
  go_wp2_with (go_at_call 55; refine (KL _).mono ?_; clear KL; rintro e w1 ⟨a0, m0, c0, rfl, R0, B0⟩)
  go_loopg [5, 6, 7] (2 * n) (fun gk v5 v6 v7 wr => ∃ (i : Nat) (a : Option Addr) (m c : Nat), v5 = .slice a m c ∧ v6 = .int .u64 (rpairs (n : Int) (lineL n) x0 i).2 ∧ v7 = .int .i64 (i : Int) ∧ i + gk = 2 * n ∧ RdL wr a m c (srt (rpairs (n : Int) (lineL n) x0 i).1) ∧ Below w.heap.size w wr)
  case atStart => exact ⟨0, a0, m0, c0, rfl, rfl, by first | rfl | go_num, by omega, R0, B0⟩
  case round =>
    clear R0 B0 hx0
    obtain ⟨i, a, m, c, rfl, rfl, rfl, hg, R, B⟩ := hrel
    have hadd : IntKind.i64.wrap ((i : Int) + 1) = (i : Int) + 1 := by rw [IntKind.wrap_i64]; have := HN.out; omega
    by_cases hi : i < 2 * n
    case neg =>
      have hiI : ¬ (i : Int) < 2 * (n : Int) := by omega
      have hin : i = 2 * n := by omega
      rw [hin, ← HX0.out] at R
      go_wp2
      go_ret
      exact ⟨a, m, c, rfl, R, B⟩
    case pos =>
      have hiI : (i : Int) < 2 * (n : Int) := by omega
      have HND : Hid ((rpairs (n : Int) (lineL n) x0 i).1.Nodup ∧ (rpairs (n : Int) (lineL n) x0 i).1.length ≤ 1000) := ⟨rpairs_nodup (lineL_nodup n) i, by have := rpairs_len (n : Int) (lineL n) x0 i; rw [lineL_len] at this; have := HN.out; omega⟩
      have HS : Hid (rpairs (n : Int) (lineL n) x0 (i + 1) = (rput (n : Int) (rpairs (n : Int) (lineL n) x0 i).1 (rpairs (n : Int) (lineL n) x0 i).2, nx (nx (rpairs (n : Int) (lineL n) x0 i).2))) := rfl
      obtain ⟨l, hl⟩ : ∃ l, (rpairs (n : Int) (lineL n) x0 i).1 = l := ⟨_, rfl⟩
      obtain ⟨x, hx⟩ : ∃ x, (rpairs (n : Int) (lineL n) x0 i).2 = x := ⟨_, rfl⟩
      rw [hl] at R HND
      rw [hl, hx] at HS
      rw [hx]
      have HL : Hid (l.length ≤ 1000) := HND.out.2
      clear hl hx
      obtain ⟨u, hu⟩ : ∃ u, up (nx x) = u := ⟨_, rfl⟩
      have hu0 : nx x / 8589934592 = u := hu
      have hur := up_rng x
      rw [hu] at hur
      obtain ⟨p, hp⟩ : ∃ a, bl (n : Int) x = a := ⟨_, rfl⟩
      have hpm : u % (n : Int) = p := by rw [← hp, bl, hu]
      have hpt : Int.tmod u (n : Int) = p := by rw [Int.tmod_eq_emod_of_nonneg hur.1]; exact hpm
      have hpr := bl_rng (n := (n : Int)) (x := x) (by have := HN.out; omega)
      rw [hp] at hpr
      have hp1 : IntKind.i64.wrap p = p := by rw [IntKind.wrap_i64]; have := HN.out; omega
      have hp2 : IntKind.u64.wrap p = p := by rw [IntKind.wrap_u64]; have := HN.out; omega
      obtain ⟨v, hv⟩ : ∃ u, up (nx (nx x)) = u := ⟨_, rfl⟩
      have hv0 : nx (nx x) / 8589934592 = v := hv
      have hvr := up_rng (nx x)
      rw [hv] at hvr
      obtain ⟨q, hq⟩ : ∃ a, bl (n : Int) (nx x) = a := ⟨_, rfl⟩
      have hqm : v % (n : Int) = q := by rw [← hq, bl, hv]
      have hqt : Int.tmod v (n : Int) = q := by rw [Int.tmod_eq_emod_of_nonneg hvr.1]; exact hqm
      have hqr := bl_rng (n := (n : Int)) (x := (nx x)) (by have := HN.out; omega)
      rw [hq] at hqr
      have hq1 : IntKind.i64.wrap q = q := by rw [IntKind.wrap_i64]; have := HN.out; omega
      have hq2 : IntKind.u64.wrap q = q := by rw [IntKind.wrap_u64]; have := HN.out; omega
      obtain ⟨dp, hdp⟩ : ∃ d, dg l p = d := ⟨_, rfl⟩
      obtain ⟨dq, hdq⟩ : ∃ d, dg l q = d := ⟨_, rfl⟩
      have HD0 : Hid (bl (n : Int) x = p ∧ bl (n : Int) (nx x) = q ∧ dg l p = dp ∧ dg l q = dq) := ⟨hp, hq, hdp, hdq⟩
      clear hu hv hp hq hpm hqm hpr hqr
      by_cases h1 : dp < 6
      case neg =>
        have h1I : ¬ (dp : Int) < 6 := by omega
        have HR : Hid (rput (n : Int) l x = l) := rput_no (by have := HD0.out; rw [this.1, this.2.2.1]; omega)
        rw [HR.out] at HS
        go_wp2_with (first | (go_at_call 35; refine (step_any _ _).mono ?_; rintro e wx ⟨rfl, hwx⟩; rw [hwx]; clear hwx wx) | (go_at_call 17; refine (rdegree_any a m c (srt l) _ _ R).mono ?_; rintro e wy ⟨rfl, hwy⟩; rw [hwy, dg_srt]; clear hwy wy; first | rw [HD0.out.2.2.1] | rw [HD0.out.2.2.2]))
        go_roundg (gk - 1)
        case measure => omega
        case rel => exact ⟨i + 1, a, m, c, rfl, by rw [HS.out], by first | rfl | go_num, by omega, by rw [HS.out]; exact R, B⟩
      case pos =>
        have h1I : (dp : Int) < 6 := by omega
        by_cases h2 : dq < 6
        case neg =>
          have h2I : ¬ (dq : Int) < 6 := by omega
          have HR : Hid (rput (n : Int) l x = l) := rput_no (by have := HD0.out; rw [this.2.1, this.2.2.2]; omega)
          rw [HR.out] at HS
          go_wp2_with (first | (go_at_call 35; refine (step_any _ _).mono ?_; rintro e wx ⟨rfl, hwx⟩; rw [hwx]; clear hwx wx) | (go_at_call 17; refine (rdegree_any a m c (srt l) _ _ R).mono ?_; rintro e wy ⟨rfl, hwy⟩; rw [hwy, dg_srt]; clear hwy wy; first | rw [HD0.out.2.2.1] | rw [HD0.out.2.2.2]))
          go_roundg (gk - 1)
          case measure => omega
          case rel => exact ⟨i + 1, a, m, c, rfl, by rw [HS.out], by first | rfl | go_num, by omega, by rw [HS.out]; exact R, B⟩
        case pos =>
          have h2I : (dq : Int) < 6 := by omega
          have HR : Hid (putD (srt l) p q = srt (rput (n : Int) l x)) := by
            show _ = _
            have h5 := HD0.out
            have h6 := rput_yes (n := (n : Int)) (x := x) HND.out.1 (by rw [h5.1, h5.2.2.1]; exact h1) (by rw [h5.2.1, h5.2.2.2]; exact h2)
            rw [h5.1, h5.2.1] at h6
            exact h6
          go_wp2_with (first | (go_at_call 35; refine (step_any _ _).mono ?_; rintro e wx ⟨rfl, hwx⟩; rw [hwx]; clear hwx wx) | (go_at_call 17; refine (rdegree_any a m c (srt l) _ _ R).mono ?_; rintro e wy ⟨rfl, hwy⟩; rw [hwy, dg_srt]; clear hwy wy; first | rw [HD0.out.2.2.1] | rw [HD0.out.2.2.2]) | (go_at_call 56; refine (put_any _ _ _ _ _ _ _ R (by rw [srt_len]; have := HL.out; omega)).mono ?_; rintro e w2 ⟨a2, m2, c2, rfl, R2, b2⟩; rw [HR.out] at R2; have B2 := B.trans (b2.mono B.size)))
          go_roundg (gk - 1)
          case measure => omega
          case rel => exact ⟨i + 1, a2, m2, c2, rfl, by rw [HS.out], by first | rfl | go_num, by omega, by rw [HS.out]; exact R2, B2⟩
end Go.Proofs.Ytpdmpekkmblgmaa

namespace Go.Proofs.Ytpdmpekkmblgmaa
open Go.ChangeShapes Go.WideShapes Go.ChangeAt Go.RowKit Go.Maps Go.Shelf
set_option linter.unusedVariables false
set_option linter.unusedSimpArgs false
attribute [local go_sem] Oper.semAt_some

set_option maxRecDepth 100000 in
set_option maxHeartbeats 1000000 in
theorem shaped_7 (n : Nat) (k : Int) (w : World) (hn1 : 1 ≤ n) (hn : n ≤ 16) : Calls Try.prog 33 #[.int .i64 7, .int .i64 (n : Int), .int .i64 k] w fun e w' => ∃ a m c, e = .returned (.slice a m c) ∧ RdL w' a m c (srt (randL n k)) ∧ Below w.heap.size w w' := by
  have KL := fun W => rrand_any n k W hn1 hn
  clear hn hn1
  go_enter Try.func33, Try.ntmps33
  go_wp2_with (go_at_call 57; refine (KL _).mono ?_; clear KL; rintro e w1 ⟨a, m, c, rfl, R, B⟩)
  go_ret
  exact ⟨a, m, c, rfl, R, B⟩
theorem crowded_out {N : Nat} {l : List LK} (h : ∀ v : Nat, v < N → dg l (v : Int) ≤ 6) : crowded (N : Int) l = false := crowded_no fun v hv => by have := h v (by omega); omega
end Go.Proofs.Ytpdmpekkmblgmaa
