/-
  Package half: what its small tests return (nodes, ranges, misses, letters, names), and the document's own.
-/
import Derived.Test.YtifkkkfejbgifaaML
import Derived.Test.YtifkkkfejbgifaaMH
namespace Go.Proofs.Ytifkkkfejbgifaa
open Go.ChangeShapes Go.WideShapes Go.ChangeAt Go.RowKit
set_option linter.unusedVariables false
set_option linter.unusedSimpArgs false

def inB (lo x hi : Int) : Bool := decide (lo ≤ x ∧ x ≤ hi)
def missB (pend : Bool) (m : Int) : Bool := decide (m = 0) || (pend && decide (0 < m ∧ m < 3))
def chrB (c : Int) : Bool := inB 97 c 122 || inB 48 c 57 || decide (c = 95)
def nameB (s : ByteArray) : Bool := decide (1 ≤ s.size ∧ s.size ≤ 16) && s.data.toList.all (fun c => chrB (c.toNat : Int))
def ltN (a b : ByteArray) : Bool := Op.bytesLess a.toList b.toList
def eqN (a b : ByteArray) : Bool := a.toList == b.toList
theorem tnode_any (n : Int) (w : World) : Calls Try.prog 32 #[.int .i64 n] w fun e w' => e = .returned (.bool (nodeB n)) ∧ w' = w := by
  go_enter Try.func32, Try.ntmps32
  go_wp2
  all_goals go_ret
  all_goals exact ⟨ret_bool (by rw [Bool.eq_iff_iff]; simp_all [nodeB] <;> omega), rfl⟩
/-- A text whose first k bytes stand in names. -/
def chrs (s : ByteArray) (k : Nat) : Bool := (s.data.toList.take k).all (fun c => chrB (c.toNat : Int))
theorem chrs_step (s : ByteArray) (k : Nat) (h : k < s.size) : chrs s (k + 1) = (chrs s k && chrB (s[k].toNat : Int)) := by
  unfold chrs
  rw [List.take_succ_eq_append_getElem (by simpa using h)]
  simp
  rfl
theorem chrs_bad {s : ByteArray} {k : Nat} (h : chrs s k = false) : s.data.toList.all (fun c => chrB (c.toNat : Int)) = false := by
  unfold chrs at h
  rw [List.all_eq_false] at h ⊢
  obtain ⟨x, hx, hc⟩ := h
  exact ⟨x, List.mem_of_mem_take hx, hc⟩
theorem chrs_all (s : ByteArray) : chrs s s.size = s.data.toList.all (fun c => chrB (c.toNat : Int)) := by
  unfold chrs
  rw [List.take_of_length_le (by simp)]
set_option maxHeartbeats 4000000 in
theorem rname_any (s : ByteArray) (w : World) : Calls Try.prog 33 #[.string s] w fun e w' => e = .returned (.bool (nameB s)) ∧ w' = w := by
  by_cases h0 : s.size < 1
  · have E : nameB s = false := by simp [nameB]; omega
    rw [E]
    go_enter Try.func33, Try.ntmps33
    go_wp2
    all_goals go_ret
    all_goals exact ⟨rfl, rfl⟩
  · by_cases h1 : 16 < s.size
    · have E : nameB s = false := by simp [nameB]; omega
      rw [E]
      go_enter Try.func33, Try.ntmps33
      go_wp2
      all_goals go_ret
      all_goals exact ⟨rfl, rfl⟩
    · have HE : Hid (nameB s = s.data.toList.all (fun c => chrB (c.toNat : Int))) := by show _ = _; simp [nameB]; omega
      go_enter Try.func33, Try.ntmps33
      go_wp2
      go_loopg [3] s.size (fun g ix wr => ∃ (j : Nat), ix = .int .i64 j ∧ j + g = s.size ∧ Hid (chrs s j = true) ∧ wr = w)
      case atStart => exact ⟨0, rfl, by omega, rfl, rfl⟩
      case round =>
        obtain ⟨j, rfl, hg, HC, rfl⟩ := hrel
        have HG : Hid (j + gk = s.size) := hg
        have hj : j ≤ s.size := by omega
        clear hg
        by_cases hlt : j < s.size
        · have hI : (j : Int) < (s.size : Int) := by omega
          have HS : Hid (chrs s (j + 1) = (chrs s j && chrB (s[j].toNat : Int))) := chrs_step s j hlt
          have yes : ∀ b : Bool, chrB (s[j].toNat : Int) = b → b = true → Hid (chrs s (j + 1) = true) := fun b hb ht => by show _ = _; rw [HS.out, HC.out, hb, ht]; rfl
          have no : chrB (s[j].toNat : Int) = false → nameB s = false := fun hc => by
            rw [HE.out]
            exact chrs_bad (k := j + 1) (by rw [HS.out, hc]; simp)
          have YN : Hid ((∀ b : Bool, chrB (s[j].toNat : Int) = b → b = true → Hid (chrs s (j + 1) = true)) ∧ (chrB (s[j].toNat : Int) = false → nameB s = false)) := ⟨yes, no⟩
          clear yes no HS
          have seven : ∀ x : Int, (x < 48 ∧ (x == 95) = false) ∨ (48 ≤ x ∧ x ≤ 57) ∨ (57 < x ∧ x < 97 ∧ (x == 95) = false) ∨ (57 < x ∧ x < 97 ∧ (x == 95) = true) ∨ (97 ≤ x ∧ x ≤ 122) ∨ (122 < x ∧ (x == 95) = false) := fun x => by
            by_cases h : x = 95
            · subst h; exact .inr (.inr (.inr (.inl ⟨by omega, by omega, by decide⟩)))
            · have this : (x == 95) = false := by simpa using h
              simp only [this, true_and, and_true]
              simp
              omega
          rcases seven (s[j].toNat : Int) with ⟨k1, k2⟩ | ⟨k1, k2⟩ | ⟨k1, k2, k3⟩ | ⟨k1, k2, k3⟩ | ⟨k1, k2⟩ | ⟨k1, k2⟩
          case inl =>
            clear seven
            go_wp2
            go_ret
            exact ⟨ret_bool (YN.out.2 (by simp at k2; simp [chrB, inB]; omega)).symm, rfl⟩
          case inr.inl =>
            clear seven
            go_wp2
            go_roundg (gk - 1)
            case measure => have := HG.out; omega
            case rel => exact ⟨j + 1, by go_num, by have := HG.out; omega, YN.out.1 true (by simp [chrB, inB]; omega) rfl, rfl⟩
          case inr.inr.inl =>
            clear seven
            have d1 : decide ((s[j].toNat : Int) ≤ 57) = false := by simp; omega
            go_wp2
            go_ret
            exact ⟨ret_bool (YN.out.2 (by simp at k3; simp [chrB, inB]; omega)).symm, rfl⟩
          case inr.inr.inr.inl =>
            clear seven
            go_wp2
            go_roundg (gk - 1)
            case measure => have := HG.out; omega
            case rel => exact ⟨j + 1, by go_num, by have := HG.out; omega, YN.out.1 true (by simp at k3; simp [chrB, inB]; omega) rfl, rfl⟩
          case inr.inr.inr.inr.inl =>
            clear seven
            go_wp2
            go_roundg (gk - 1)
            case measure => have := HG.out; omega
            case rel => exact ⟨j + 1, by go_num, by have := HG.out; omega, YN.out.1 true (by simp [chrB, inB]; omega) rfl, rfl⟩
          case inr.inr.inr.inr.inr =>
            clear seven
            have d1 : decide ((s[j].toNat : Int) ≤ 57) = false := by simp; omega
            have d2 : decide ((s[j].toNat : Int) ≤ 122) = false := by simp; omega
            go_wp2
            go_ret
            exact ⟨ret_bool (YN.out.2 (by simp at k2; simp [chrB, inB]; omega)).symm, rfl⟩
        · have hjs : j = s.size := by omega
          have HT : Hid (nameB s = true) := by
            show _ = _
            rw [HE.out, ← chrs_all, ← hjs]
            exact HC.out
          clear hjs
          go_wp2
          go_ret
          rw [HT.out]
          exact ⟨rfl, rfl⟩
/-- A half-edge. -/
structure HS where
  peer : Int
  boot : Int
  life : Int
  ls : List LS
  pend : Bool
  miss : Int
/-- Its cells, where its lines lie at a. -/
def HS.on (h : HS) (a : Option Addr) (c : Nat) : HR := ⟨h.peer, h.boot, h.life, a, h.ls.length, c, h.pend, h.miss⟩
end Go.Proofs.Ytifkkkfejbgifaa
