/-
  What Valid returns, and the document's own answer for it.
-/
import Derived.Test.YtiigmohnmkgfoaaDoorValid0
import Derived.WalkLawsBesides
import Derived.Deep.RegionWith
import Derived.Deep.DeepCutAuto
namespace Go.Proofs.YtiigmohnmkgfoaaDoor
open Go.ChangeShapes Go.WideShapes Go.ChangeAt Go.RowKit
set_option linter.unusedVariables false
set_option linter.unusedSimpArgs false


set_option maxRecDepth 100000 in
set_option maxHeartbeats 2000000 in
theorem rvalid_any (n d : Int) (w : World) (hn : -9223372036854775808 ≤ n) (hn' : n ≤ 9223372036854775807) (hd : -9223372036854775808 ≤ d) (hd' : d ≤ 9223372036854775807) :
    Calls Tryd.prog 21 #[fr n d] w fun e w' => e = .returned (.bool (validB n d)) ∧ Below w.heap.size w w' := by
  have s1 := sz_bd hn hn'
  have s2 := sz_bd hd hd'
  by_cases c1 : 1 ≤ d
  · have Z : Hid (d = ((sz d : Nat) : Int)) := by show d = ((sz d : Nat) : Int); unfold sz; omega
    by_cases c2 : d ≤ 2147483647
    · by_cases c3 : -2147483647 ≤ n
      · by_cases c5 : n ≤ 2147483647
        · by_cases c4 : mkG n d = 1
          · have vb : validB n d = true := by unfold validB; simp; try omega
            rw [vb]
            clear vb
            have m : ((mkG n d : Nat) : Int) = 1 := by omega
            go_enter Tryd.func21, Tryd.ntmps21
            go_wp2
            go_quiet (first | (go_at_call 41; refine Calls.quiet_of_same (abs_any _ _ (by omega) (by omega))) | (go_at_call 40; refine Calls.quiet_of_same (rgcd_mk' n d _ s1 s2 (by omega))))
            all_goals go_wp2
            all_goals go_ret
            all_goals exact ⟨rfl, by first | exact hB | exact Below.drewn (by go_grown) _ | go_grown⟩
          · have vb : validB n d = false := by unfold validB; simp; try omega
            rw [vb]
            clear vb
            have m : ¬ ((mkG n d : Nat) : Int) = 1 := by omega
            have m2 : (((mkG n d : Nat) : Int) == 1) = false := by simpa using m
            go_enter Tryd.func21, Tryd.ntmps21
            go_wp2
            go_quiet (first | (go_at_call 41; refine Calls.quiet_of_same (abs_any _ _ (by omega) (by omega))) | (go_at_call 40; refine Calls.quiet_of_same (rgcd_mk' n d _ s1 s2 (by omega))))
            all_goals go_wp2
            all_goals go_ret
            all_goals exact ⟨rfl, by first | exact hB | exact Below.drewn (by go_grown) _ | go_grown⟩
        · have vb : validB n d = false := by unfold validB; simp; try omega
          rw [vb]
          clear vb
          have c5 : decide (n ≤ 2147483647) = false := by simp; omega
          go_enter Tryd.func21, Tryd.ntmps21
          go_wp2
          go_quiet (fail)
          all_goals go_wp2
          all_goals go_ret
          all_goals exact ⟨rfl, by first | exact hB | exact Below.drewn (by go_grown) _ | go_grown⟩
      · have vb : validB n d = false := by unfold validB; simp; try omega
        rw [vb]
        clear vb
        have c3 : decide (-2147483647 ≤ n) = false := by simp; omega
        go_enter Tryd.func21, Tryd.ntmps21
        go_wp2
        go_quiet (fail)
        all_goals go_wp2
        all_goals go_ret
        all_goals exact ⟨rfl, by first | exact hB | exact Below.drewn (by go_grown) _ | go_grown⟩
    · have vb : validB n d = false := by unfold validB; simp; try omega
      rw [vb]
      clear vb
      have c2 : decide (d ≤ 2147483647) = false := by simp; omega
      go_enter Tryd.func21, Tryd.ntmps21
      go_wp2
      go_quiet (fail)
      all_goals go_wp2
      all_goals go_ret
      all_goals exact ⟨rfl, by first | exact hB | exact Below.drewn (by go_grown) _ | go_grown⟩
  · have vb : validB n d = false := by unfold validB; simp; try omega
    rw [vb]
    clear vb
    have c1 : decide (1 ≤ d) = false := by simp; omega
    go_enter Tryd.func21, Tryd.ntmps21
    go_wp2
    go_quiet (fail)
    all_goals go_wp2
    all_goals go_ret
    all_goals exact ⟨rfl, by first | exact hB | exact Below.drewn (by go_grown) _ | go_grown⟩

end Go.Proofs.YtiigmohnmkgfoaaDoor
