/-
  The laws FracNear and FracSimplest, walked by scenarios.
-/
import Derived.Test.YtonndlhppihdiaaDoorEnv
namespace Go.Proofs.YtonndlhppihdiaaDoor
open Go.ChangeShapes Go.WideShapes Go.ChangeAt Go.RowKit
set_option linter.unusedVariables false
set_option linter.unusedSimpArgs false

set_option maxRecDepth 100000 in
set_option maxHeartbeats 2000000 in
theorem nearl_no1 (an ad bn bd : Int) (w : World) (ht : Tab w)
    (VA : ∀ W, Calls Tryd.prog 12 #[fr an ad] W fun e w' => e = .returned (.bool false) ∧ Below W.heap.size W w') :
    Calls Tryd.prog 7 #[fr an ad, fr bn bd] w fun e w' => e = .returned (.bool true) ∧ Below w.heap.size w w' := by
  have J := ((Env.start ht).push an ad).push bn bd
  rw [World.size_alloc] at J
  go_enter Tryd.func7, Tryd.ntmps7
  go_wp2_with (first
    | (go_at_call 12; refine (VA _).mono ?_; rintro e w1 ⟨rfl, hb⟩; replace J := J.below hb; clear hb)
    | (go_at_call 13; refine (awake_any _ J.tab).mono ?_; rintro e w2 ⟨rfl, hb⟩; replace J := J.below hb; clear hb))
  go_ret
  exact ⟨rfl, J.old⟩
set_option maxRecDepth 100000 in
set_option maxHeartbeats 2000000 in
theorem nearl_no2 (an ad bn bd : Int) (w : World) (ht : Tab w)
    (VA : ∀ W, Calls Tryd.prog 12 #[fr an ad] W fun e w' => e = .returned (.bool true) ∧ Below W.heap.size W w')
    (VB : ∀ W, Calls Tryd.prog 12 #[fr bn bd] W fun e w' => e = .returned (.bool false) ∧ Below W.heap.size W w') :
    Calls Tryd.prog 7 #[fr an ad, fr bn bd] w fun e w' => e = .returned (.bool true) ∧ Below w.heap.size w w' := by
  have J := ((Env.start ht).push an ad).push bn bd
  rw [World.size_alloc] at J
  go_enter Tryd.func7, Tryd.ntmps7
  go_wp2_with fail
  refine (VA _).mono ?_
  rintro e w1 ⟨rfl, hb⟩
  replace J := J.below hb
  clear hb
  obtain ⟨a0, a1, _, _, a2⟩ := id (J.two (w.heap.size + 1, bn, bd) (by simp))
  go_wp2_with fail
  refine (VB _).mono ?_
  rintro e w2 ⟨rfl, hb⟩
  replace J := J.below hb
  clear hb
  go_wp2_with (go_at_call 13; refine (awake_any _ J.tab).mono ?_; rintro e w3 ⟨rfl, hb⟩; replace J := J.below hb; clear hb)
  go_ret
  exact ⟨rfl, J.old⟩
set_option maxRecDepth 100000 in
set_option maxHeartbeats 2000000 in
theorem nearl_yes (an ad bn bd n d : Int) (b : Bool) (w : World) (ht : Tab w)
    (VA : ∀ W, Calls Tryd.prog 12 #[fr an ad] W fun e w' => e = .returned (.bool true) ∧ Below W.heap.size W w')
    (VB : ∀ W, Calls Tryd.prog 12 #[fr bn bd] W fun e w' => e = .returned (.bool true) ∧ Below W.heap.size W w')
    (P : ∀ W, Tab W → Calls Tryd.prog 34 #[fr an ad, fr bn bd] W fun e w' => e = .returned (.tuple #[fr n d, .bool b]) ∧ Below W.heap.size W w')
    (Q : ∀ W, Calls Tryd.prog 35 #[fr an ad, fr bn bd] W fun e w' => e = .returned (.tuple #[fr n d, .bool b]) ∧ Below W.heap.size W w') :
    Calls Tryd.prog 7 #[fr an ad, fr bn bd] w fun e w' => e = .returned (.bool true) ∧ Below w.heap.size w w' := by
  have J := ((Env.start ht).push an ad).push bn bd
  rw [World.size_alloc] at J
  go_enter Tryd.func7, Tryd.ntmps7
  go_wp2_with fail
  refine (VA _).mono ?_
  rintro e w1 ⟨rfl, hb⟩
  replace J := J.below hb
  clear hb
  obtain ⟨a0, a1, _, _, a2⟩ := id (J.two (w.heap.size + 1, bn, bd) (by simp))
  go_wp2_with fail
  refine (VB _).mono ?_
  rintro e w2 ⟨rfl, hb⟩
  replace J := J.below hb
  clear hb a0 a1 a2
  obtain ⟨a0, a1, _, _, a2⟩ := id (J.two (w.heap.size + 1, bn, bd) (by simp))
  obtain ⟨b0, b1, _, _, b2⟩ := id (J.two (w.heap.size, an, ad) (by simp))
  go_wp2_with fail
  refine (P _ J.tab).mono ?_
  rintro e w3 ⟨rfl, hb⟩
  replace J := (J.below hb).push n d
  clear hb a0 a1 a2 b0 b1 b2
  obtain ⟨a0, a1, _, _, a2⟩ := id (J.two (w.heap.size + 1, bn, bd) (by simp))
  obtain ⟨b0, b1, _, _, b2⟩ := id (J.two (w.heap.size, an, ad) (by simp))
  go_wp2_with fail
  refine (Q _).mono ?_
  rintro e w4 ⟨rfl, hb⟩
  replace J := (J.below hb).push n d
  clear hb a0 a1 a2 b0 b1 b2
  obtain ⟨a0, a1, _, _, a2⟩ := id (J.two (w3.heap.size, n, d) (by simp))
  obtain ⟨b0, b1, _, _, b2⟩ := id (J.two (w4.heap.size, n, d) (by simp))
  go_wp2_with (go_at_call 13; refine (awake_any _ J.tab).mono ?_; rintro e w5 ⟨rfl, hb⟩; replace J := J.below hb; clear hb)
  go_ret
  exact ⟨rfl, J.old⟩

end Go.Proofs.YtonndlhppihdiaaDoor
