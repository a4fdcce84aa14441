/-
  What Valid returns, and the document's own answer for it.
-/
import Derived.Test.YtiigmohnmkgfoaaDoorValid0
import Derived.WalkLawsBesides
import Derived.Deep.RegionWith
import Derived.Deep.DeepCutAuto
namespace Go.Proofs.YtiigmohnmkgfoaaDoor
open Go.ChangeShapes Go.WideShapes Go.ChangeAt Go.RowKit
set_option linter.unusedVariables false
set_option linter.unusedSimpArgs false


set_option maxRecDepth 100000 in
set_option maxHeartbeats 2000000 in
theorem valid_any (n d : Int) (w : World) (hn : -9223372036854775808 ≤ n) (hn' : n ≤ 9223372036854775807) (hd : -9223372036854775808 ≤ d) (hd' : d ≤ 9223372036854775807) :
    Calls Tryd.prog 34 #[fr n d] w fun e w' => e = .returned (.bool (validB n d)) ∧ Below w.heap.size w w' := by
  have s1 := sz_bd hn hn'
  have s2 := sz_bd hd hd'
  by_cases c1 : 0 < d
  · have z1 : ((sz d : Nat) : Int) = d := by unfold sz; omega
    by_cases c2 : d ≤ 2147483647
    · by_cases c3 : -2147483647 ≤ n ∧ n ≤ 2147483647
      · have z2 : ((sz n : Nat) : Int) ≤ 2147483647 := by unfold sz; omega
        by_cases c4 : mkG n d = 1
        · have vb : validB n d = true := by unfold validB; simp; try omega
          rw [vb]
          clear vb
          have m : ((mkG n d : Nat) : Int) = 1 := by omega
          have k : ((sz d : Nat) : Int) ≤ 2147483647 := by omega
          clear z1
          go_enter Tryd.func34, Tryd.ntmps34
          go_wp2_with (go_at_call 42; refine (size_any _ _ (by omega) (by omega)).mono ?_; rintro e w' ⟨rfl, rfl⟩)
          go_region_with (first | (go_at_call 42; refine (size_any _ _ (by omega) (by omega)).mono ?_; rintro e w' ⟨rfl, rfl⟩) | (go_at_call 43; refine (divisor_mk n d _ s1 s2).mono ?_; rintro e w1 ⟨rfl, hb⟩; have hB : Below w.heap.size w w1 := Below.trans (by go_grown) (hb.mono (by simp)); clear hb))
          all_goals go_wp2
          all_goals go_ret
          all_goals exact ⟨rfl, by first | exact hB | go_grown⟩
        · have vb : validB n d = false := by unfold validB; simp; try omega
          rw [vb]
          clear vb
          have m : ¬ ((mkG n d : Nat) : Int) = 1 := by omega
          have m2 : (((mkG n d : Nat) : Int) == 1) = false := by simpa using m
          have k : ((sz d : Nat) : Int) ≤ 2147483647 := by omega
          clear z1
          go_enter Tryd.func34, Tryd.ntmps34
          go_wp2_with (go_at_call 42; refine (size_any _ _ (by omega) (by omega)).mono ?_; rintro e w' ⟨rfl, rfl⟩)
          go_region_with (first | (go_at_call 42; refine (size_any _ _ (by omega) (by omega)).mono ?_; rintro e w' ⟨rfl, rfl⟩) | (go_at_call 43; refine (divisor_mk n d _ s1 s2).mono ?_; rintro e w1 ⟨rfl, hb⟩; have hB : Below w.heap.size w w1 := Below.trans (by go_grown) (hb.mono (by simp)); clear hb))
          all_goals go_wp2
          all_goals go_ret
          all_goals exact ⟨rfl, by first | exact hB | go_grown⟩
      · have vb : validB n d = false := by unfold validB; simp; try omega
        rw [vb]
        clear vb
        have k3 : (2147483647 : Int) < ((sz n : Nat) : Int) := by unfold sz; omega
        have k4 : decide (((sz n : Nat) : Int) ≤ 2147483647) = false := by simp; omega
        have k : ((sz d : Nat) : Int) ≤ 2147483647 := by omega
        clear z1
        go_enter Tryd.func34, Tryd.ntmps34
        go_wp2_with (go_at_call 42; refine (size_any _ _ (by omega) (by omega)).mono ?_; rintro e w' ⟨rfl, rfl⟩)
        go_region
        all_goals go_wp2
        all_goals go_ret
        all_goals exact ⟨rfl, by first | exact hB | go_grown⟩
    · have vb : validB n d = false := by unfold validB; simp; try omega
      rw [vb]
      clear vb
      have k3 : (2147483647 : Int) < ((sz d : Nat) : Int) := by omega
      clear z1
      go_enter Tryd.func34, Tryd.ntmps34
      go_wp2_with (go_at_call 42; refine (size_any _ _ (by omega) (by omega)).mono ?_; rintro e w' ⟨rfl, rfl⟩)
      go_region
      all_goals go_wp2
      all_goals go_ret
      all_goals exact ⟨rfl, by first | exact hB | go_grown⟩
  · have vb : validB n d = false := by unfold validB; simp; try omega
    rw [vb]
    clear vb
    have c1 : d ≤ 0 := by omega
    go_enter Tryd.func34, Tryd.ntmps34
    go_wp2_with (go_at_call 42; refine (size_any _ _ (by omega) (by omega)).mono ?_; rintro e w' ⟨rfl, rfl⟩)
    go_region
    all_goals go_wp2
    all_goals go_ret
    all_goals exact ⟨rfl, by first | exact hB | go_grown⟩

end Go.Proofs.YtiigmohnmkgfoaaDoor
