/-
  What the law RegMoves returns.
-/
import Derived.Test.YtijiihmkhlidlaaR4
import Derived.Test.YtijiihmkhlidlaaR5
import Derived.Test.YtijiihmkhlidlaaR6
namespace Go.Proofs.Ytijiihmkhlidlaa
open Go.ChangeShapes Go.WideShapes Go.ChangeAt Go.RowKit
set_option linter.unusedVariables false
set_option linter.unusedSimpArgs false
set_option maxRecDepth 100000 in
set_option maxHeartbeats 2000000 in
theorem moves_walk (v p f a b x q : Int) (w : World) : Calls Try.prog 4 #[rg v p f, .int .i64 a, .int .i64 b, .int .i64 x, .int .i64 q] w fun e w' => e = .returned (.bool true) ∧ Below w.heap.size w w' := by
  have K1 := fun w => move_any v p f a b x q w
  have K2 := fun w => rmove_any v p f a b x q w
  obtain ⟨m0, m1, m2, m3, hm⟩ : ∃ m0 m1 m2 m3, mv v p f a b x q = ⟨m0, m1, m2, m3⟩ := ⟨_, _, _, _, rfl⟩
  simp only [hm] at K1 K2
  clear hm
  go_enter Try.func4, Try.ntmps4
  go_wp2_with (first
    | (go_at_call 18; refine (K1 _).mono ?_; clear K1; rintro e w1 ⟨rfl, B1⟩; obtain ⟨a0, a1, a2, b0, b1, b2, z0⟩ := (Tri.new w (.int .i64 v) (.int .i64 p) (.int .i64 f) 23).below B1; have hB : Below w.heap.size w w1 := Below.trans (by go_grown) (B1.mono (by simp)); clear B1)
    | (go_at_call 19; refine (K2 _).mono ?_; clear K2; rintro e w2 ⟨rfl, B2⟩; obtain ⟨c0, c1, c2, d0, d1, d2, z1⟩ := (Tri.new w1 (.int .i64 m0) (.int .i64 m1) (.int .i64 m2) 23).below B2; have hB2 : Below w.heap.size w w2 := Below.trans (hB.alloc hB.size _) (B2.mono (by have := hB.size; simp; omega)); clear B2)
    | (go_at_call 17; refine (awake_any _).mono ?_; rintro e w3 ⟨rfl, B3⟩; have hB3 : Below w.heap.size w w3 := Below.trans (hB2.alloc hB2.size _) (B3.mono (by have := hB2.size; simp; omega)); clear B3))
  go_ret
  exact ⟨rfl, hB3⟩
end Go.Proofs.Ytijiihmkhlidlaa
