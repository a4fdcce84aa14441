/-
  The laws FracOrder and FracField where one of the three is not valid.
-/
import Derived.Test.YtonndlhppihdiabDoorEnv
namespace Go.Proofs.YtonndlhppihdiabDoor
open Go.ChangeShapes Go.WideShapes Go.ChangeAt Go.RowKit
set_option linter.unusedVariables false
set_option linter.unusedSimpArgs false

set_option maxRecDepth 100000 in
set_option maxHeartbeats 1000000 in
theorem order_out (an ad bn bd cn cd : Int) (va vb vc : Bool) (hv : va = false ∨ (va = true ∧ vb = false) ∨ (va = true ∧ vb = true ∧ vc = false)) (w : World) (ht : Tab w)
    (Va : Hid (∀ W, Calls Tryd.prog 8 #[fr an ad] W fun e w' => e = .returned (.bool va) ∧ Below W.heap.size W w'))
    (Vb : Hid (∀ W, Calls Tryd.prog 8 #[fr bn bd] W fun e w' => e = .returned (.bool vb) ∧ Below W.heap.size W w'))
    (Vc : Hid (∀ W, Calls Tryd.prog 8 #[fr cn cd] W fun e w' => e = .returned (.bool vc) ∧ Below W.heap.size W w'))
    :
    Calls Tryd.prog 5 #[fr an ad, fr bn bd, fr cn cd] w fun e w' => e = .returned (.bool true) ∧ Below w.heap.size w w' := by
  have J := (((Env.start ht).push an ad).push bn bd).push cn cd
  simp only [World.size_alloc] at J
  go_enter Tryd.func5, Tryd.ntmps5
  go_wp2_with fail
  refine (Va.out _).mono ?_
  rintro e w1 ⟨rfl, hb⟩
  replace J := J.below hb
  clear hb
  obtain ⟨_, _, _, _, _⟩ := id (J.two (w.heap.size + 1, bn, bd) (by simp))
  rcases hv with rfl | ⟨rfl, rfl⟩ | ⟨rfl, rfl, rfl⟩
  · go_wp2_with fail
    refine (awake_any _ J.tab).mono ?_
    rintro e w2 ⟨rfl, hb⟩
    go_wp2_with fail
    go_ret
    exact ⟨rfl, (J.below hb).old⟩
  · go_wp2_with fail
    refine (Vb.out _).mono ?_
    rintro e w2 ⟨rfl, hb⟩
    replace J := J.below hb
    clear hb
    go_wp2_with fail
    refine (awake_any _ J.tab).mono ?_
    rintro e w3 ⟨rfl, hb⟩
    go_wp2_with fail
    go_ret
    exact ⟨rfl, (J.below hb).old⟩
  · go_wp2_with fail
    refine (Vb.out _).mono ?_
    rintro e w2 ⟨rfl, hb⟩
    replace J := J.below hb
    clear hb
    obtain ⟨_, _, _, _, _⟩ := id (J.two (w.heap.size + 1 + 1, cn, cd) (by simp))
    go_wp2_with fail
    refine (Vc.out _).mono ?_
    rintro e w3 ⟨rfl, hb⟩
    replace J := J.below hb
    clear hb
    go_wp2_with fail
    refine (awake_any _ J.tab).mono ?_
    rintro e w4 ⟨rfl, hb⟩
    go_wp2_with fail
    go_ret
    exact ⟨rfl, (J.below hb).old⟩

set_option maxRecDepth 100000 in
set_option maxHeartbeats 1000000 in
theorem field_out (an ad bn bd cn cd : Int) (va vb vc : Bool) (hv : va = false ∨ (va = true ∧ vb = false) ∨ (va = true ∧ vb = true ∧ vc = false)) (w : World) (ht : Tab w)
    (Va : Hid (∀ W, Calls Tryd.prog 8 #[fr an ad] W fun e w' => e = .returned (.bool va) ∧ Below W.heap.size W w'))
    (Vb : Hid (∀ W, Calls Tryd.prog 8 #[fr bn bd] W fun e w' => e = .returned (.bool vb) ∧ Below W.heap.size W w'))
    (Vc : Hid (∀ W, Calls Tryd.prog 8 #[fr cn cd] W fun e w' => e = .returned (.bool vc) ∧ Below W.heap.size W w'))
    :
    Calls Tryd.prog 4 #[fr an ad, fr bn bd, fr cn cd] w fun e w' => e = .returned (.bool true) ∧ Below w.heap.size w w' := by
  have J := (((Env.start ht).push an ad).push bn bd).push cn cd
  simp only [World.size_alloc] at J
  go_enter Tryd.func4, Tryd.ntmps4
  go_wp2_with fail
  refine (Va.out _).mono ?_
  rintro e w1 ⟨rfl, hb⟩
  replace J := J.below hb
  clear hb
  obtain ⟨_, _, _, _, _⟩ := id (J.two (w.heap.size + 1, bn, bd) (by simp))
  rcases hv with rfl | ⟨rfl, rfl⟩ | ⟨rfl, rfl, rfl⟩
  · go_wp2_with fail
    refine (awake_any _ J.tab).mono ?_
    rintro e w2 ⟨rfl, hb⟩
    go_wp2_with fail
    go_ret
    exact ⟨rfl, (J.below hb).old⟩
  · go_wp2_with fail
    refine (Vb.out _).mono ?_
    rintro e w2 ⟨rfl, hb⟩
    replace J := J.below hb
    clear hb
    go_wp2_with fail
    refine (awake_any _ J.tab).mono ?_
    rintro e w3 ⟨rfl, hb⟩
    go_wp2_with fail
    go_ret
    exact ⟨rfl, (J.below hb).old⟩
  · go_wp2_with fail
    refine (Vb.out _).mono ?_
    rintro e w2 ⟨rfl, hb⟩
    replace J := J.below hb
    clear hb
    obtain ⟨_, _, _, _, _⟩ := id (J.two (w.heap.size + 1 + 1, cn, cd) (by simp))
    go_wp2_with fail
    refine (Vc.out _).mono ?_
    rintro e w3 ⟨rfl, hb⟩
    replace J := J.below hb
    clear hb
    go_wp2_with fail
    refine (awake_any _ J.tab).mono ?_
    rintro e w4 ⟨rfl, hb⟩
    go_wp2_with fail
    go_ret
    exact ⟨rfl, (J.below hb).old⟩

end Go.Proofs.YtonndlhppihdiabDoor
