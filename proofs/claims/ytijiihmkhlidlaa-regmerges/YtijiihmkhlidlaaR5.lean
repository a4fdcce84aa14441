/-
  Package reg: the chapter's examples, which every statement calls at its end.
-/
import Derived.Test.YtijiihmkhlidlaaR3
namespace Go.Proofs.Ytijiihmkhlidlaa
open Go.ChangeShapes Go.WideShapes Go.ChangeAt Go.RowKit
set_option linter.unusedVariables false
set_option linter.unusedSimpArgs false
theorem mv_one : mv 0 0 0 5 2 3 2 = MV.mk 1 2 (-3) 0 := by simp [mv, fitB, edgeB, nodeB, zeroB, lineB, endB, rngB, alongZ]
theorem mv_two : mv 1 2 2147483647 2 5 1 2 = MV.mk 0 0 0 10 := by simp [mv, fitB, edgeB, nodeB, zeroB, lineB, endB, rngB, alongZ]
theorem out_one : outZ 1 2 (-3) 5 2 = 3 := by simp [outZ, fitB, edgeB, nodeB, zeroB, lineB, endB, rngB, alongZ]
theorem new_one : newB 2 0 2 5 = true := by simp [newB, aboveB]
set_option maxRecDepth 100000 in
set_option maxHeartbeats 2000000 in
theorem awake_any (w : World) : Calls Try.prog 17 #[] w fun e w' => e = .returned (.bool true) ∧ Below w.heap.size w w' := by
  have K1 : ∀ w, Calls Try.prog 18 #[rg 0 0 0, .int .i64 5, .int .i64 2, .int .i64 3, .int .i64 2] w fun e w' => e = .returned (.tuple #[rg 1 2 (-3), .int .i64 0]) ∧ Below w.heap.size w w' := fun w => by
    have h := move_any 0 0 0 5 2 3 2 w
    rw [mv_one] at h
    exact h
  have K2 : ∀ w, Calls Try.prog 18 #[rg 1 2 2147483647, .int .i64 2, .int .i64 5, .int .i64 1, .int .i64 2] w fun e w' => e = .returned (.tuple #[rg 0 0 0, .int .i64 10]) ∧ Below w.heap.size w w' := fun w => by
    have h := move_any 1 2 2147483647 2 5 1 2 w
    rw [mv_two] at h
    exact h
  have K3 : ∀ w, Calls Try.prog 10 #[rg 2 0 1, rg 2 5 9] w fun e w' => e = .returned (.bool true) ∧ Below w.heap.size w w' := fun w => by
    have h := newer_any 2 0 1 2 5 9 w
    rw [new_one] at h
    exact h
  have K4 : ∀ w, Calls Try.prog 15 #[rg 1 2 (-3), .int .i64 5, .int .i64 2] w fun e w' => e = .returned (.int .i64 3) ∧ Below w.heap.size w w' := fun w => by
    have h := out_any 1 2 (-3) 5 2 w
    rw [out_one] at h
    exact h
  go_enter Try.func17, Try.ntmps17
  go_wp2_with (first
    | (go_at_call 18; refine (K1 _).mono ?_; clear K1; rintro e w1 ⟨rfl, B1⟩)
    | (go_at_call 18; refine (K2 _).mono ?_; clear K2; rintro e w2 ⟨rfl, B2⟩; obtain ⟨a0, a1, a2, b0, b1, b2, z0⟩ := (Tri.new w1 (.int .i64 1) (.int .i64 2) (.int .i64 (-3)) 23).below B2; have hB : Below w.heap.size w w2 := Below.trans (B1.alloc B1.size _) (B2.mono (by have := B1.size; simp; omega)); clear B2)
    | (go_at_call 10; refine (K3 _).mono ?_; clear K3; rintro e w3 ⟨rfl, B3⟩; obtain ⟨c0, c1, c2, d0, d1, d2, y0⟩ := ((Tri.mk a0 a1 a2 b0 b1 b2 z0).alloc (.cells #[.int .i64 0, .int .i64 0, .int .i64 0] 23)).below B3; have hB3 : Below w.heap.size w w3 := Below.trans (hB.alloc hB.size _) (B3.mono (by have := hB.size; simp; omega)); clear B3)
    | (go_at_call 15; refine (K4 _).mono ?_; clear K4; rintro e w4 ⟨rfl, B4⟩; have hB4 : Below w.heap.size w w4 := Below.trans hB3 (B4.mono (by have := hB3.size; simp; omega)); clear B4))
  go_ret
  exact ⟨rfl, hB4⟩
end Go.Proofs.Ytijiihmkhlidlaa
