/-
  Whether a field is as its kind has it (fit), and the document's own (right).
-/
import Derived.Test.YticmjlnpjopfbaaDoorCField
namespace Go.Proofs.YticmjlnpjopfbaaDoor.C
open Go.ChangeShapes Go.WideShapes Go.ChangeAt Go.RowKit
set_option linter.unusedVariables false

/-- A field is as its kind has it. -/
def fitB (k n : Int) (s : ByteArray) (b : Bool) : Bool :=
  if k = 1 then decide (0 ≤ n) && s.toList.isEmpty && !b
  else if k = 2 then s.toList.isEmpty && !b
  else if k = 3 then (n == 0) && !b
  else if k = 4 then (n == 0) && s.toList.isEmpty
  else false
theorem ret_bool {a b : Bool} (h : a = b) : Ending.returned (.bool a) = .returned (.bool b) := by rw [h]

set_option maxHeartbeats 1000000 in
theorem fit_any (k n : Int) (s : ByteArray) (b : Bool) (w : World) :
    Calls Tryd.prog 57 #[fv k n s b] w fun e w' => e = .returned (.bool (fitB k n s b)) ∧ Below w.heap.size w w' := by
  by_cases k1 : k = 1
  · subst k1
    by_cases hn : 0 ≤ n
    · go_enter Tryd.func57, Tryd.ntmps57
      go_wp2
      all_goals go_ret
      all_goals exact ⟨ret_bool (by simp_all [fitB]), (Below.refl _ _).alloc (Nat.le_refl _) _⟩
    · have E : fitB 1 n s b = false := by simp [fitB, hn]
      rw [E]
      go_enter Tryd.func57, Tryd.ntmps57
      go_wp2
      all_goals go_ret
      all_goals exact ⟨rfl, (Below.refl _ _).alloc (Nat.le_refl _) _⟩
  · by_cases k2 : k = 2
    · subst k2
      go_enter Tryd.func57, Tryd.ntmps57
      go_wp2
      all_goals go_ret
      all_goals exact ⟨ret_bool (by simp_all [fitB]), (Below.refl _ _).alloc (Nat.le_refl _) _⟩
    · by_cases k3 : k = 3
      · subst k3
        go_enter Tryd.func57, Tryd.ntmps57
        go_wp2
        all_goals go_ret
        all_goals exact ⟨ret_bool (by simp_all [fitB]), (Below.refl _ _).alloc (Nat.le_refl _) _⟩
      · by_cases k4 : k = 4
        · subst k4
          go_enter Tryd.func57, Tryd.ntmps57
          go_wp2
          all_goals go_ret
          all_goals exact ⟨ret_bool (by simp_all [fitB]), (Below.refl _ _).alloc (Nat.le_refl _) _⟩
        · have e1 : (k == 1) = false := by simpa using k1
          have e2 : (k == 2) = false := by simpa using k2
          have e3 : (k == 3) = false := by simpa using k3
          have e4 : (k == 4) = false := by simpa using k4
          have E : fitB k n s b = false := by simp [fitB, k1, k2, k3, k4]
          rw [E]
          go_enter Tryd.func57, Tryd.ntmps57
          go_wp2
          all_goals go_ret
          all_goals exact ⟨rfl, (Below.refl _ _).alloc (Nat.le_refl _) _⟩

end Go.Proofs.YticmjlnpjopfbaaDoor.C
