/-
  The law FracMakes, walked: any fraction, any two numbers.
-/
import Derived.Test.YtonndlhppihdiaaDoorEnv
import Derived.Deep.RegionHeld3
namespace Go.Proofs.YtonndlhppihdiaaDoor
open Go.ChangeShapes Go.WideShapes Go.ChangeAt Go.RowKit
set_option linter.unusedVariables false
set_option linter.unusedSimpArgs false

set_option maxRecDepth 100000 in
set_option maxHeartbeats 4000000 in
theorem makes_ok (fn fd n d N D : Int) (v : Bool) (w : World) (ht : Tab w)
    (M : Hid (∀ W, Calls Tryd.prog 9 #[.int .i64 n, .int .i64 d] W fun e w' => e = .returned (.tuple #[fr N D, .int .i64 0]) ∧ Below W.heap.size W w'))
    (R : Hid (∀ W, Calls Tryd.prog 10 #[.int .i64 n, .int .i64 d] W fun e w' => e = .returned (.tuple #[fr N D, .int .i64 0]) ∧ Below W.heap.size W w'))
    (V : Hid (∀ W, Calls Tryd.prog 11 #[fr fn fd] W fun e w' => e = .returned (.bool v) ∧ Below W.heap.size W w'))
    (U : Hid (∀ W, Calls Tryd.prog 12 #[fr fn fd] W fun e w' => e = .returned (.bool v) ∧ Below W.heap.size W w'))
    (X : Hid (∀ W, Calls Tryd.prog 11 #[fr N D] W fun e w' => e = .returned (.bool true) ∧ Below W.heap.size W w'))
    :
    Calls Tryd.prog 3 #[fr fn fd, .int .i64 n, .int .i64 d] w fun e w' => e = .returned (.bool true) ∧ Below w.heap.size w w' := by
  have I0 := (Env.start ht).push fn fd
  go_enter Tryd.func3, Tryd.ntmps3
  go_wp2_with fail
  refine (M.out _).mono ?_
  rintro e w1 ⟨rfl, b1⟩
  have I1 := (I0.below b1).push N D
  clear b1 I0
  go_wp2_with fail
  refine (R.out _).mono ?_
  rintro e w2 ⟨rfl, b2⟩
  have I2 := I1.below b2
  obtain ⟨_, _, _, _, _⟩ := id (I2.two (w1.heap.size, N, D) (by simp))
  obtain ⟨_, _, _, _, _⟩ := id (I2.two (w.heap.size, fn, fd) (by simp))
  have J := I2.push N D
  clear b2 I1 I2
  go_wp2_with fail
  first | (go_region_held3 (fun W => W.cell? ⟨w2.heap.size, 0, none⟩ = some (.int .i64 N) ∧ W.cell? ⟨w2.heap.size, 1, none⟩ = some (.int .i64 D) ∧ W.cell? ⟨w1.heap.size, 0, none⟩ = some (.int .i64 N) ∧ W.cell? ⟨w1.heap.size, 1, none⟩ = some (.int .i64 D) ∧ W.cell? ⟨w.heap.size, 0, none⟩ = some (.int .i64 fn) ∧ W.cell? ⟨w.heap.size, 1, none⟩ = some (.int .i64 fd) ∧ Env w [(w2.heap.size, N, D), (w1.heap.size, N, D), (w.heap.size, fn, fd)] W)
    (first | exact ⟨(J.two (w2.heap.size, N, D) (by simp)).1, (J.two (w2.heap.size, N, D) (by simp)).2.1, (J.two (w1.heap.size, N, D) (by simp)).1, (J.two (w1.heap.size, N, D) (by simp)).2.1, (J.two (w.heap.size, fn, fd) (by simp)).1, (J.two (w.heap.size, fn, fd) (by simp)).2.1, J⟩ | exact ⟨(J.two (w2.heap.size, N, D) (by simp)).1, (J.two (w2.heap.size, N, D) (by simp)).2.1, (J.two (w1.heap.size, N, D) (by simp)).1, (J.two (w1.heap.size, N, D) (by simp)).2.1, (J.two (w.heap.size, fn, fd) (by simp)).1, (J.two (w.heap.size, fn, fd) (by simp)).2.1, J.drew⟩)
    (first
      | (go_at_call_of 11 fn; refine (V.out _).mono ?_; rintro e wx ⟨rfl, hb⟩; replace J := Env.below (by first | exact J | exact J.drew) hb)
      | (go_at_call_of 11 N; refine (X.out _).mono ?_; rintro e wx ⟨rfl, hb⟩; replace J := Env.below (by first | exact J | exact J.drew) hb)
      | (go_at_call 12; refine (U.out _).mono ?_; rintro e wx ⟨rfl, hb⟩; replace J := Env.below (by first | exact J | exact J.drew) hb)
      | (go_at_call 13; refine (awake_any _ (by first | exact J.tab | exact J.drew.tab)).mono ?_; rintro e wx ⟨rfl, hb⟩; replace J := Env.below (by first | exact J | exact J.drew) hb))) | fail
  all_goals go_wp2
  all_goals go_ret
  all_goals exact ⟨rfl, J.old⟩

end Go.Proofs.YtonndlhppihdiaaDoor
