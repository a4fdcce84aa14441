/-
  The law ShakeFits.
-/
import Derived.Test.YteoiogjaecpddaaSC
namespace Go.Proofs.Yteoiogjaecpddaa
open Go.ChangeShapes Go.WideShapes Go.ChangeAt Go.RowKit
set_option linter.unusedVariables false
set_option linter.unusedSimpArgs false

set_option maxRecDepth 100000 in
set_option maxHeartbeats 8000000 in
theorem fits_walk (idn : Int) (a : Option Addr) (n cap : Nat) (l : List SN) (x y z u : Int) (w : World) (hr : RdS w a n cap l) : Calls Try.prog 3 #[.int .i64 idn, .slice a n cap, .int .i64 x, .int .i64 y, .int .i64 z, .int .i64 u] w fun e w' => e = .returned (.bool true) ∧ Below w.heap.size w w' := by
  have K1 := fit_any idn a n cap l w hr
  have K2 := fun W (h : Below w.heap.size w W) => dfit_any_ idn a n cap l W (hr.below h)
  have K3 := fun W => later_any x y z u W
  have K4 := fun W => rlater_any x y z u W
  obtain ⟨f, hf⟩ : ∃ f, fitS idn l = f := ⟨_, rfl⟩
  obtain ⟨t, ht⟩ : ∃ t, ltr x y z u = t := ⟨_, rfl⟩
  rw [hf] at K1
  simp only [hf] at K2
  simp only [ht] at K3 K4
  clear hf ht hr
  go_enter Try.func3, Try.ntmps3
  go_wp2_with (first
    | (go_at_call 9; refine K1.mono ?_; rintro e w1 ⟨rfl, b1⟩)
    | (go_at_call 10; refine (K2 _ b1).mono ?_; rintro e w2 ⟨rfl, b2⟩; have B2 := b1.trans (b2.mono b1.size))
    | (go_at_call 11; refine (K3 _).mono ?_; rintro e w3 ⟨rfl, b3⟩; have B3 := B2.trans (b3.mono B2.size))
    | (go_at_call 12; refine (K4 _).mono ?_; rintro e w4 ⟨rfl, hw⟩; rw [hw]; clear hw w4)
    | (go_at_call 13; refine (awake_any _).mono ?_; rintro e w5 ⟨rfl, b5⟩))
  go_ret
  exact ⟨rfl, B3.trans (b5.mono B3.size)⟩
end Go.Proofs.Yteoiogjaecpddaa
