/-
  Small tests of package wire and of the document: ranges, nodes, names.
-/
import Derived.Test.YticmjlnpjopfbaaDoorPack
namespace Go.Proofs.YticmjlnpjopfbaaDoor
open Go.ChangeShapes Go.WideShapes Go.ChangeAt Go.RowKit
open C (bytesL bytesL_length ret_bool)
set_option linter.unusedVariables false

theorem from_any (lo x hi : Int) (w : World) :
    Calls Tryd.prog 52 #[.int .i64 lo, .int .i64 x, .int .i64 hi] w fun e w' => e = .returned (.bool (inB x lo hi)) ∧ w' = w := by
  go_enter Tryd.func52, Tryd.ntmps52
  go_wp2
  all_goals go_ret
  all_goals exact ⟨ret_bool (by rw [Bool.eq_iff_iff]; simp_all [inB] <;> omega), rfl⟩
theorem within_any (x lo hi : Int) (w : World) :
    Calls Tryd.prog 32 #[.int .i64 x, .int .i64 lo, .int .i64 hi] w fun e w' => e = .returned (.bool (inB x lo hi)) ∧ w' = w := by
  go_enter Tryd.func32, Tryd.ntmps32
  go_wp2
  all_goals go_ret
  all_goals exact ⟨ret_bool (by rw [Bool.eq_iff_iff]; simp_all [inB] <;> omega), rfl⟩
theorem node_any (x : Int) (w : World) :
    Calls Tryd.prog 27 #[.int .i64 x] w fun e w' => e = .returned (.bool (nodeB x)) ∧ w' = w := by
  go_enter Tryd.func27, Tryd.ntmps27
  go_wp2
  all_goals go_ret
  all_goals exact ⟨ret_bool (by rw [Bool.eq_iff_iff]; simp_all [nodeB] <;> omega), rfl⟩
theorem rnode_any (x : Int) (w : World) :
    Calls Tryd.prog 31 #[.int .i64 x] w fun e w' => e = .returned (.bool (nodeB x)) ∧ w' = w := by
  go_enter Tryd.func31, Tryd.ntmps31
  go_wp2
  all_goals go_ret
  all_goals exact ⟨ret_bool (by rw [Bool.eq_iff_iff]; simp_all [nodeB] <;> omega), rfl⟩
theorem inRange_any (x : Int) (w : World) :
    Calls Tryd.prog 63 #[.int .i64 x] w fun e w' => e = .returned (.bool (flowB x)) ∧ w' = w := by
  go_enter Tryd.func63, Tryd.ntmps63
  go_wp2_with (go_at_call 52; refine (from_any _ _ _ _).mono ?_; rintro e w' ⟨rfl, hw⟩; rw [hw]; clear hw)
  all_goals go_ret
  all_goals exact ⟨rfl, rfl⟩
theorem flow_any (x : Int) (w : World) :
    Calls Tryd.prog 43 #[.int .i64 x] w fun e w' => e = .returned (.bool (flowB x)) ∧ w' = w := by
  go_enter Tryd.func43, Tryd.ntmps43
  go_wp2_with (go_at_call 32; refine (within_any _ _ _ _).mono ?_; rintro e w' ⟨rfl, hw⟩; rw [hw]; clear hw)
  all_goals go_ret
  all_goals exact ⟨rfl, rfl⟩
theorem incarnation_any (b l : Int) (w : World) :
    Calls Tryd.prog 28 #[.int .i64 b, .int .i64 l] w fun e w' => e = .returned (.bool (inB b 1 1099511627776 && inB l 0 1099511627776)) ∧ w' = w := by
  go_enter Tryd.func28, Tryd.ntmps28
  go_wp2_with (go_at_call 52; refine (from_any _ _ _ _).mono ?_; rintro e w' ⟨rfl, hw⟩; rw [hw]; clear hw)
  all_goals go_ret
  all_goals exact ⟨ret_bool (by simp_all), rfl⟩
set_option maxHeartbeats 1000000 in
theorem letter_any (c : Int) (w : World) :
    Calls Tryd.prog 45 #[.int .u8 c] w fun e w' => e = .returned (.bool (chrB c)) ∧ w' = w := by
  go_enter Tryd.func45, Tryd.ntmps45
  go_wp2
  all_goals go_ret
  all_goals exact ⟨ret_bool (by rw [Bool.eq_iff_iff]; simp [chrB, inB]; omega), rfl⟩

/-- A text whose first k bytes stand in names. -/
def chrs (s : ByteArray) (k : Nat) : Bool := ((bytesL s).take k).all chrB
theorem chrs_step (s : ByteArray) (k : Nat) (h : k < s.size) : chrs s (k + 1) = (chrs s k && chrB (s[k].toNat : Int)) := by
  unfold chrs
  rw [List.take_succ_eq_append_getElem (by rw [bytesL_length]; exact h)]
  simp [bytesL]
  rfl
theorem chrs_bad {s : ByteArray} {k : Nat} (h : chrs s k = false) : (bytesL s).all chrB = false := by
  unfold chrs at h
  rw [List.all_eq_false] at h ⊢
  obtain ⟨x, hx, hc⟩ := h
  exact ⟨x, List.mem_of_mem_take hx, hc⟩
theorem chrs_all (s : ByteArray) : chrs s s.size = (bytesL s).all chrB := by
  unfold chrs
  rw [List.take_of_length_le (by rw [bytesL_length]; omega)]

set_option maxHeartbeats 2000000 in
theorem name_any (s : ByteArray) (w : World) : Calls Tryd.prog 18 #[.string s] w fun e w' => e = .returned (.bool (nameB s)) ∧ w' = w := by
  by_cases h0 : s.size < 1
  · have E : nameB s = false := by simp [nameB, inB]; omega
    rw [E]
    go_enter Tryd.func18, Tryd.ntmps18
    go_wp2
    all_goals go_ret
    all_goals exact ⟨rfl, rfl⟩
  · by_cases h1 : 16 < s.size
    · have E : nameB s = false := by simp [nameB, inB]; omega
      rw [E]
      go_enter Tryd.func18, Tryd.ntmps18
      go_wp2
      all_goals go_ret
      all_goals exact ⟨rfl, rfl⟩
    · have E : nameB s = (bytesL s).all chrB := by simp [nameB, inB]; omega
      have HE : Hid (nameB s = (bytesL s).all chrB) := E
      clear E
      go_enter Tryd.func18, Tryd.ntmps18
      go_wp2
      go_loopg [14] s.size (fun g ix wr => ∃ (j : Nat), ix = .int .i64 j ∧ j + g = s.size ∧ Hid (chrs s j = true) ∧ wr = w)
      case atStart => exact ⟨0, rfl, by omega, rfl, rfl⟩
      case round =>
        obtain ⟨j, rfl, hg, HC, rfl⟩ := hrel
        have HG : Hid (j + gk = s.size) := hg
        have hj : j ≤ s.size := by omega
        clear hg
        by_cases hlt : j < s.size
        · have hI : (j : Int) < (s.size : Int) := by omega
          have HS : Hid (chrs s (j + 1) = (chrs s j && chrB (s[j].toNat : Int))) := chrs_step s j hlt
          cases hc : chrB (s[j].toNat : Int) with
          | true =>
            go_wp2_with (go_at_call 45; refine (letter_any _ _).mono ?_; rintro e w' ⟨rfl, hw⟩; rw [hw, hc]; clear hw)
            go_roundg (gk - 1)
            case measure => have := HG.out; omega
            case rel => exact ⟨j + 1, by go_num, by have := HG.out; omega, by show _ = _; rw [HS.out, HC.out, hc]; rfl, rfl⟩
          | false =>
            have HF : Hid (nameB s = false) := by
              show _ = _
              rw [HE.out]
              exact chrs_bad (k := j + 1) (by rw [HS.out, hc]; simp)
            go_wp2_with (go_at_call 45; refine (letter_any _ _).mono ?_; rintro e w' ⟨rfl, hw⟩; rw [hw, hc]; clear hw)
            go_ret
            rw [HF.out]
            exact ⟨rfl, rfl⟩
        · have HT : Hid (nameB s = true) := by
            show _ = _
            have e : j = s.size := by omega
            subst e
            rw [HE.out, ← chrs_all]
            exact HC.out
          go_wp2
          go_ret
          rw [HT.out]
          exact ⟨rfl, rfl⟩

set_option maxHeartbeats 2000000 in
theorem rname_any (s : ByteArray) (w : World) : Calls Tryd.prog 19 #[.string s] w fun e w' => e = .returned (.bool (nameB s)) ∧ w' = w := by
  by_cases h0 : s.size < 1
  · have E : nameB s = false := by simp [nameB, inB]; omega
    rw [E]
    go_enter Tryd.func19, Tryd.ntmps19
    go_wp2
    all_goals go_ret
    all_goals exact ⟨rfl, rfl⟩
  · by_cases h1 : 16 < s.size
    · have E : nameB s = false := by simp [nameB, inB]; omega
      rw [E]
      go_enter Tryd.func19, Tryd.ntmps19
      go_wp2
      all_goals go_ret
      all_goals exact ⟨rfl, rfl⟩
    · have E : nameB s = (bytesL s).all chrB := by simp [nameB, inB]; omega
      have HE : Hid (nameB s = (bytesL s).all chrB) := E
      clear E
      go_enter Tryd.func19, Tryd.ntmps19
      go_wp2
      go_loopg [3] s.size (fun g ix wr => ∃ (j : Nat), ix = .int .i64 j ∧ j + g = s.size ∧ Hid (chrs s j = true) ∧ wr = w)
      case atStart => exact ⟨0, rfl, by omega, rfl, rfl⟩
      case round =>
        obtain ⟨j, rfl, hg, HC, rfl⟩ := hrel
        have HG : Hid (j + gk = s.size) := hg
        have hj : j ≤ s.size := by omega
        clear hg
        by_cases hlt : j < s.size
        · have hI : (j : Int) < (s.size : Int) := by omega
          have HS : Hid (chrs s (j + 1) = (chrs s j && chrB (s[j].toNat : Int))) := chrs_step s j hlt
          obtain ⟨c, hcc⟩ : ∃ c : Int, (s[j].toNat : Int) = c := ⟨_, rfl⟩
          rw [hcc] at HS
          have hcr : 0 ≤ c ∧ c < 256 := by have := s[j].toNat_lt; omega
          by_cases k1 : 97 ≤ c ∧ c ≤ 122
          · skip
            have HR : Hid (chrs s (j + 1) = true) := by show _ = _; rw [HS.out, HC.out]; simp [chrB, inB]; omega
            clear HS
            have a1 : 97 ≤ c := by omega
            have a2 : c ≤ 122 := by omega
            clear k1 hcr
            go_wp2
            go_roundg (gk - 1)
            case measure => have := HG.out; omega
            case rel => exact ⟨j + 1, by go_num, by have := HG.out; omega, HR, rfl⟩
          by_cases k2 : 48 ≤ c ∧ c ≤ 57
          · skip
            have HR : Hid (chrs s (j + 1) = true) := by show _ = _; rw [HS.out, HC.out]; simp [chrB, inB]; omega
            clear HS
            have a1 : ¬ 97 ≤ c := by omega
            have a3 : 48 ≤ c := by omega
            have a4 : c ≤ 57 := by omega
            clear k1 k2 hcr
            go_wp2
            go_roundg (gk - 1)
            case measure => have := HG.out; omega
            case rel => exact ⟨j + 1, by go_num, by have := HG.out; omega, HR, rfl⟩
          by_cases k3 : c = 95
          · skip
            have HR : Hid (chrs s (j + 1) = true) := by show _ = _; rw [HS.out, HC.out]; simp [chrB, inB]; omega
            clear HS
            have a1 : ¬ 97 ≤ c := by omega
            have a3 : 48 ≤ c := by omega
            have a4 : ¬ c ≤ 57 := by omega
            clear k1 k2 hcr
            go_wp2
            go_roundg (gk - 1)
            case measure => have := HG.out; omega
            case rel => exact ⟨j + 1, by go_num, by have := HG.out; omega, HR, rfl⟩
          by_cases k4 : c < 48
          · skip
            have HF : Hid (nameB s = false) := by
              show _ = _
              rw [HE.out]
              exact chrs_bad (k := j + 1) (by rw [HS.out]; simp [chrB, inB]; omega)
            clear HS
            have a1 : ¬ 97 ≤ c := by omega
            have a3 : ¬ 48 ≤ c := by omega
            have a5 : (c == 95) = false := by simp; omega
            clear k1 k2 hcr k3 k4
            go_wp2
            go_ret
            rw [HF.out]
            exact ⟨rfl, rfl⟩
          by_cases k5 : c < 97
          · skip
            have HF : Hid (nameB s = false) := by
              show _ = _
              rw [HE.out]
              exact chrs_bad (k := j + 1) (by rw [HS.out]; simp [chrB, inB]; omega)
            clear HS
            have a1 : ¬ 97 ≤ c := by omega
            have a3 : 48 ≤ c := by omega
            have a4 : ¬ c ≤ 57 := by omega
            have a5 : (c == 95) = false := by simp; omega
            clear k1 k2 hcr k3 k4 k5
            go_wp2
            go_ret
            rw [HF.out]
            exact ⟨rfl, rfl⟩
          · skip
            have HF : Hid (nameB s = false) := by
              show _ = _
              rw [HE.out]
              exact chrs_bad (k := j + 1) (by rw [HS.out]; simp [chrB, inB]; omega)
            clear HS
            have a1 : 97 ≤ c := by omega
            have a2 : ¬ c ≤ 122 := by omega
            have a3 : 48 ≤ c := by omega
            have a4 : ¬ c ≤ 57 := by omega
            have a5 : (c == 95) = false := by simp; omega
            clear k1 k2 hcr k3 k4 k5
            go_wp2
            go_ret
            rw [HF.out]
            exact ⟨rfl, rfl⟩
        · have HT : Hid (nameB s = true) := by
            show _ = _
            have e : j = s.size := by omega
            subst e
            rw [HE.out, ← chrs_all]
            exact HC.out
          go_wp2
          go_ret
          rw [HT.out]
          exact ⟨rfl, rfl⟩

end Go.Proofs.YticmjlnpjopfbaaDoor
