/-
  Package dir: names, kinds, scales, the program's and the document's.
-/
import Derived.Test.YtoeebofappbneaaGreatD1
namespace Go.Proofs.YtoeebofappbneaaGreat
open Go.ChangeShapes Go.WideShapes Go.ChangeAt Go.RowKit
set_option linter.unusedVariables false
set_option linter.unusedSimpArgs false

theorem within_any (a b c : Int) (w : World) : Calls Tryz.prog 85 #[.int .i64 a, .int .i64 b, .int .i64 c] w fun e w' => e = .returned (.bool (inB a b c)) ∧ w' = w := by
  go_enter Tryz.func85, Tryz.ntmps85
  go_wp2
  all_goals go_ret
  all_goals exact ⟨ret_bool (by rw [Bool.eq_iff_iff]; simp_all [inB] <;> omega), rfl⟩
theorem node_any (n : Int) (w : World) : Calls Tryz.prog 102 #[.int .i64 n] w fun e w' => e = .returned (.bool (nodeB n)) ∧ w' = w := by
  go_enter Tryz.func102, Tryz.ntmps102
  go_wp2
  all_goals go_ret
  all_goals exact ⟨ret_bool (by rw [Bool.eq_iff_iff]; simp_all [nodeB] <;> omega), rfl⟩
theorem kind_any (n : Int) (w : World) : Calls Tryz.prog 50 #[.int .i64 n] w fun e w' => e = .returned (.bool (kindB n)) ∧ w' = w := by
  go_enter Tryz.func50, Tryz.ntmps50
  go_wp2
  all_goals go_ret
  all_goals exact ⟨ret_bool (by rw [Bool.eq_iff_iff]; simp_all [kindB, inB] <;> omega), rfl⟩
theorem scale_any (k n : Int) (w : World) : Calls Tryz.prog 51 #[.int .i64 k, .int .i64 n] w fun e w' => e = .returned (.bool (scaleB k n)) ∧ w' = w := by
  have K := fun w => within_any 1 n 1048576 w
  by_cases c : k = 4
  · have H : Hid (scaleB k n = decide (n = 1)) := by show _ = _; subst c; rw [Bool.eq_iff_iff]; simp [scaleB, inB]; omega
    have hc : (k == 4) = true := by simp [c]
    clear c
    go_enter Tryz.func51, Tryz.ntmps51
    go_wp2
    go_ret
    exact ⟨ret_bool (by rw [H.out, Bool.eq_iff_iff]; simp), rfl⟩
  · have H : Hid (scaleB k n = inB 1 n 1048576) := by show _ = _; simp [scaleB, c]
    have hc : (k == 4) = false := by simp [c]
    clear c
    go_enter Tryz.func51, Tryz.ntmps51
    go_wp2_with (go_at_call 85; refine (K _).mono ?_; rintro e w1 ⟨rfl, rfl⟩)
    go_ret
    exact ⟨ret_bool H.out.symm, rfl⟩
theorem rscale_any (k n : Int) (w : World) : Calls Tryz.prog 64 #[.int .i64 k, .int .i64 n] w fun e w' => e = .returned (.bool (scaleB k n)) ∧ w' = w := by
  go_enter Tryz.func64, Tryz.ntmps64
  go_wp2
  all_goals go_ret
  all_goals exact ⟨ret_bool (by rw [Bool.eq_iff_iff]; simp_all [scaleB, inB] <;> omega), rfl⟩
theorem seven (x : Int) : (x < 48 ∧ (x == 95) = false ∧ (x != 95) = true) ∨ (48 ≤ x ∧ x ≤ 57) ∨ (57 < x ∧ x < 97 ∧ (x == 95) = false ∧ (x != 95) = true) ∨ (57 < x ∧ x < 97 ∧ (x == 95) = true ∧ (x != 95) = false) ∨ (97 ≤ x ∧ x ≤ 122) ∨ (122 < x ∧ (x == 95) = false ∧ (x != 95) = true) := by
  by_cases h : x = 95
  · subst h; exact .inr (.inr (.inr (.inl ⟨by omega, by omega, by decide, by decide⟩)))
  · have h1 : (x == 95) = false := by simpa using h
    have h2 : (x != 95) = true := by simpa using h
    simp only [h1, h2, true_and, and_true]
    simp
    omega
set_option maxRecDepth 100000 in
set_option maxHeartbeats 4000000 in
theorem letter_any (x : Int) (w : World) : Calls Tryz.prog 84 #[.int .u8 x] w fun e w' => e = .returned (.bool (chrB x)) ∧ w' = w := by
  rcases seven x with ⟨k1, k2, k3⟩ | ⟨k1, k2⟩ | ⟨k1, k2, k3, k4⟩ | ⟨k1, k2, k3, k4⟩ | ⟨k1, k2⟩ | ⟨k1, k2, k3⟩
  · have H : Hid (chrB x = false) := by show _ = _; (try simp at *); simp [chrB, inB]; omega
    go_enter Tryz.func84, Tryz.ntmps84
    go_wp2
    go_ret
    exact ⟨ret_bool H.out.symm, rfl⟩
  · have H : Hid (chrB x = true) := by show _ = _; (try simp at *); simp [chrB, inB]; omega
    go_enter Tryz.func84, Tryz.ntmps84
    go_wp2
    go_ret
    exact ⟨ret_bool H.out.symm, rfl⟩
  · have d1 : decide (x ≤ 57) = false := by simp; omega
    have H : Hid (chrB x = false) := by show _ = _; (try simp at *); simp [chrB, inB]; omega
    go_enter Tryz.func84, Tryz.ntmps84
    go_wp2
    go_ret
    exact ⟨ret_bool H.out.symm, rfl⟩
  · have H : Hid (chrB x = true) := by show _ = _; (try simp at *); simp [chrB, inB]; omega
    go_enter Tryz.func84, Tryz.ntmps84
    go_wp2
    go_ret
    exact ⟨ret_bool H.out.symm, rfl⟩
  · have H : Hid (chrB x = true) := by show _ = _; (try simp at *); simp [chrB, inB]; omega
    go_enter Tryz.func84, Tryz.ntmps84
    go_wp2
    go_ret
    exact ⟨ret_bool H.out.symm, rfl⟩
  · have d1 : decide (x ≤ 57) = false := by simp; omega
    have d2 : decide (x ≤ 122) = false := by simp; omega
    have H : Hid (chrB x = false) := by show _ = _; (try simp at *); simp [chrB, inB]; omega
    go_enter Tryz.func84, Tryz.ntmps84
    go_wp2
    go_ret
    exact ⟨ret_bool H.out.symm, rfl⟩
/-- A text whose first k bytes stand in names. -/
def chrs (s : ByteArray) (k : Nat) : Bool := (s.data.toList.take k).all (fun c => chrB (c.toNat : Int))
theorem chrs_step (s : ByteArray) (k : Nat) (h : k < s.size) : chrs s (k + 1) = (chrs s k && chrB (s[k].toNat : Int)) := by
  unfold chrs
  rw [List.take_succ_eq_append_getElem (by simpa using h)]
  simp
  rfl
theorem chrs_bad {s : ByteArray} {k : Nat} (h : chrs s k = false) : s.data.toList.all (fun c => chrB (c.toNat : Int)) = false := by
  unfold chrs at h
  rw [List.all_eq_false] at h ⊢
  obtain ⟨x, hx, hc⟩ := h
  exact ⟨x, List.mem_of_mem_take hx, hc⟩
theorem chrs_all (s : ByteArray) : chrs s s.size = s.data.toList.all (fun c => chrB (c.toNat : Int)) := by
  unfold chrs
  rw [List.take_of_length_le (by simp)]
set_option maxRecDepth 100000 in
set_option maxHeartbeats 4000000 in
theorem name_any (s : ByteArray) (w : World) : Calls Tryz.prog 48 #[.string s] w fun e w' => e = .returned (.bool (nameB s)) ∧ w' = w := by
  by_cases h0 : s.size < 1
  · have E : nameB s = false := by simp [nameB]; omega
    rw [E]
    go_enter Tryz.func48, Tryz.ntmps48
    go_wp2
    all_goals go_ret
    all_goals exact ⟨rfl, rfl⟩
  · by_cases h1 : 16 < s.size
    · have E : nameB s = false := by simp [nameB]; omega
      rw [E]
      go_enter Tryz.func48, Tryz.ntmps48
      go_wp2
      all_goals go_ret
      all_goals exact ⟨rfl, rfl⟩
    · have HE : Hid (nameB s = s.data.toList.all (fun c => chrB (c.toNat : Int))) := by show _ = _; simp [nameB]; omega
      go_enter Tryz.func48, Tryz.ntmps48
      go_wp2
      go_loopg [3, 14] s.size (fun g v3 ix wr => ∃ (j : Nat), ix = .int .i64 j ∧ j + g = s.size ∧ Hid (chrs s j = true) ∧ wr = w)
      case atStart => exact ⟨0, rfl, by omega, rfl, rfl⟩
      case round =>
        obtain ⟨j, rfl, hg, HC, rfl⟩ := hrel
        have HG : Hid (j + gk = s.size) := hg
        have hj : j ≤ s.size := by omega
        clear hg
        by_cases hlt : j < s.size
        · have hI : (j : Int) < (s.size : Int) := by omega
          have HS : Hid (chrs s (j + 1) = (chrs s j && chrB (s[j].toNat : Int))) := chrs_step s j hlt
          have K := fun w => letter_any (s[j].toNat : Int) w
          cases hc : chrB (s[j].toNat : Int) with
          | false =>
            have no : Hid (nameB s = false) := by show _ = _; rw [HE.out]; exact chrs_bad (k := j + 1) (by rw [HS.out, hc]; simp)
            rw [hc] at K
            clear hc HS
            go_wp2_with (go_at_call 84; refine (K _).mono ?_; rintro e w1 ⟨rfl, rfl⟩)
            go_ret
            exact ⟨ret_bool no.out.symm, rfl⟩
          | true =>
            have yes : Hid (chrs s (j + 1) = true) := by show _ = _; rw [HS.out, HC.out, hc]; rfl
            rw [hc] at K
            clear hc HS
            go_wp2_with (go_at_call 84; refine (K _).mono ?_; rintro e w1 ⟨rfl, rfl⟩)
            go_roundg (gk - 1)
            case measure => have := HG.out; omega
            case rel => exact ⟨j + 1, by go_num, by have := HG.out; omega, yes, rfl⟩
        · have hjs : j = s.size := by omega
          have HT : Hid (nameB s = true) := by
            show _ = _
            rw [HE.out, ← chrs_all, ← hjs]
            exact HC.out
          clear hjs
          go_wp2
          go_ret
          rw [HT.out]
          exact ⟨rfl, rfl⟩
set_option maxRecDepth 100000 in
set_option maxHeartbeats 4000000 in
theorem rname_any (s : ByteArray) (w : World) (hs : Hid ((s.size : Int) ≤ 9223372036854775807)) : Calls Tryz.prog 62 #[.string s] w fun e w' => e = .returned (.bool (nameB s)) ∧ w' = w := by
  go_enter Tryz.func62, Tryz.ntmps62
  go_wp2
  go_loopg [3, 4] s.size (fun g ix v4 wr => ∃ (j : Nat), ix = .int .i64 j ∧ j + g = s.size ∧ Hid (chrs s j = true) ∧ wr = w)
  case atStart => exact ⟨0, by first | rfl | go_num, by omega, rfl, rfl⟩
  case round =>
    obtain ⟨j, rfl, hg, HC, rfl⟩ := hrel
    have HG : Hid (j + gk = s.size) := hg
    have hj : j ≤ s.size := by omega
    clear hg
    by_cases hlt : j < s.size
    · have hI : (j : Int) < (s.size : Int) := by omega
      have hwr : IntKind.i64.wrap ((j : Int) + 1) = (j : Int) + 1 := by rw [IntKind.wrap_i64]; have := hs.out; omega
      have HS : Hid (chrs s (j + 1) = (chrs s j && chrB (s[j].toNat : Int))) := chrs_step s j hlt
      have yes : chrB (s[j].toNat : Int) = true → Hid (chrs s (j + 1) = true) := fun hb => by show _ = _; rw [HS.out, HC.out, hb]; rfl
      have no : chrB (s[j].toNat : Int) = false → nameB s = false := fun hc => by
        have := chrs_bad (k := j + 1) (by rw [HS.out, hc]; simp)
        unfold nameB
        rw [this]
        simp
      have YN : Hid ((chrB (s[j].toNat : Int) = true → Hid (chrs s (j + 1) = true)) ∧ (chrB (s[j].toNat : Int) = false → nameB s = false)) := ⟨yes, no⟩
      clear yes no HS
      rcases seven (s[j].toNat : Int) with ⟨k1, k2, k3⟩ | ⟨k1, k2⟩ | ⟨k1, k2, k3, k4⟩ | ⟨k1, k2, k3, k4⟩ | ⟨k1, k2⟩ | ⟨k1, k2, k3⟩
      · have no : Hid (nameB s = false) := YN.out.2 (by (try simp at *); simp [chrB, inB]; omega)
        go_wp2
        go_ret
        exact ⟨ret_bool no.out.symm, rfl⟩
      · have yes := YN.out.1 (by (try simp at *); simp [chrB, inB]; omega)
        go_wp2
        go_roundg (gk - 1)
        case measure => have := HG.out; omega
        case rel => exact ⟨j + 1, by first | rfl | go_num, by have := HG.out; omega, yes, rfl⟩
      · have d1 : decide ((s[j].toNat : Int) ≤ 57) = false := by simp; omega
        have no : Hid (nameB s = false) := YN.out.2 (by (try simp at *); simp [chrB, inB]; omega)
        go_wp2
        go_ret
        exact ⟨ret_bool no.out.symm, rfl⟩
      · have yes := YN.out.1 (by (try simp at *); simp [chrB, inB]; omega)
        go_wp2
        go_roundg (gk - 1)
        case measure => have := HG.out; omega
        case rel => exact ⟨j + 1, by first | rfl | go_num, by have := HG.out; omega, yes, rfl⟩
      · have yes := YN.out.1 (by (try simp at *); simp [chrB, inB]; omega)
        go_wp2
        go_roundg (gk - 1)
        case measure => have := HG.out; omega
        case rel => exact ⟨j + 1, by first | rfl | go_num, by have := HG.out; omega, yes, rfl⟩
      · have d1 : decide ((s[j].toNat : Int) ≤ 57) = false := by simp; omega
        have d2 : decide ((s[j].toNat : Int) ≤ 122) = false := by simp; omega
        have no : Hid (nameB s = false) := YN.out.2 (by (try simp at *); simp [chrB, inB]; omega)
        go_wp2
        go_ret
        exact ⟨ret_bool no.out.symm, rfl⟩
    · have hjs : j = s.size := by omega
      have HT : Hid (s.data.toList.all (fun c => chrB (c.toNat : Int)) = true) := by
        show _ = _
        rw [← chrs_all, ← hjs]
        exact HC.out
      clear hjs
      by_cases h1 : 1 ≤ s.size
      · by_cases h2 : s.size ≤ 16
        · have E : Hid (nameB s = true) := by show _ = _; unfold nameB; rw [HT.out]; simp; omega
          have h1I : (1 : Int) ≤ (s.size : Int) := by omega
          have h2I : (s.size : Int) ≤ 16 := by omega
          go_wp2
          go_ret
          rw [E.out]
          exact ⟨rfl, rfl⟩
        · have E : Hid (nameB s = false) := by show _ = _; unfold nameB; simp; omega
          have h1I : (1 : Int) ≤ (s.size : Int) := by omega
          have h2I : ¬ (s.size : Int) ≤ 16 := by omega
          go_wp2
          go_ret
          rw [E.out]
          exact ⟨rfl, rfl⟩
      · have E : Hid (nameB s = false) := by show _ = _; unfold nameB; simp; omega
        have h1I : ¬ (1 : Int) ≤ (s.size : Int) := by omega
        go_wp2
        go_ret
        rw [E.out]
        exact ⟨rfl, rfl⟩
end Go.Proofs.YtoeebofappbneaaGreat
