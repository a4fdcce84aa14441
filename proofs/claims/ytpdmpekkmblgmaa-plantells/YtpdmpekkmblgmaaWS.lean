/-
  The law: PlanScripts.
-/
import Derived.Test.YtpdmpekkmblgmaaE3
import Derived.Test.YtpdmpekkmblgmaaPCs
import Derived.Test.YtpdmpekkmblgmaaPD
import Derived.Test.YtpdmpekkmblgmaaD2
namespace Go.Proofs.Ytpdmpekkmblgmaa
open Go.ChangeShapes Go.WideShapes Go.ChangeAt Go.RowKit Go.Maps Go.Shelf
set_option linter.unusedVariables false
set_option linter.unusedSimpArgs false
attribute [local go_sem] Oper.semAt_some

theorem fit_len {n : Int} {l : List LK} (h : fit n l = true) : l.length ≤ 256 := by
  obtain ⟨N, rfl, h1, h2⟩ := few_nat (fit_few h)
  have := rises_len (fit_rises h)
  have h4 : N * N ≤ 16 * 16 := Nat.mul_le_mul h2 h2
  omega
set_option maxRecDepth 100000 in
set_option maxHeartbeats 1000000 in
theorem scripts_walk (n : Int) (a : Option Addr) (k cap : Nat) (l : List LK) (nm : ByteArray) (kd sc : Int) (a' : Option Addr) (k' cap' : Nat) (zs : List Int) (w : World) (hr : RdL w a k cap l) (hz : Row w a' k' cap' zs) :
    Calls Try.prog 5 #[.int .i64 n, .slice a k cap, .string nm, .int .i64 kd, .int .i64 sc, .slice a' k' cap'] w fun e w' => e = .returned (.bool true) ∧ Below w.heap.size w w' := by
  have KF := rfit_any n a k cap l w hr
  have KA := fun W => awake_any W
  cases hf : fit n l with
  | false =>
    rw [hf] at KF
    clear hr hz
    go_enter Try.func5, Try.ntmps5
    go_wp2_with (first
      | (go_at_call 15; refine KF.mono ?_; clear KF; rintro e w1 ⟨rfl, b1⟩)
      | (go_at_call 13; refine (KA _).mono ?_; clear KA; rintro e w2 ⟨rfl, b2⟩))
    go_ret
    exact ⟨rfl, b1.trans (b2.mono b1.size)⟩
  | true =>
    rw [hf] at KF
    obtain ⟨N, rfl, h1, h2⟩ := few_nat (fit_few hf)
    have hl := fit_len hf
    have KS := fun W (b : Below w.heap.size w W) => script_any N a k cap l nm kd sc a' k' cap' zs W (hr.below b) (hz.below b) hl h2
    have KR := fun W (b : Below w.heap.size w W) => rscript_any N a k cap l nm kd sc a' k' cap' zs W (hr.below b) (hz.below b) hl h2
    obtain ⟨xs, hxs⟩ : ∃ xs, scriptL (min N k') l nm kd sc zs = xs := ⟨_, rfl⟩
    rw [hxs] at KS KR
    clear hxs hl hf hr hz
    go_enter Try.func5, Try.ntmps5
    go_wp2_with (first
      | (go_at_call 15; refine KF.mono ?_; clear KF; rintro e w1 ⟨rfl, b1⟩)
      | (go_at_call 26; refine (KS w1 b1).mono ?_; clear KS; rintro e w2 ⟨c2, d2, m2, rfl, R2, b2⟩; have B2 := b1.trans (b2.mono b1.size))
      | (go_at_call 27; refine (KR w2 B2).mono ?_; clear KR; rintro e w3 ⟨c3, d3, m3, rfl, R3, b3⟩; have B3 := B2.trans (b3.mono B2.size); have KQ := steps_any c2 m2 d2 xs c3 m3 d3 xs w3 (R2.below b3) R3)
      | (go_at_call 25; refine KQ.mono ?_; clear KQ; rintro e w4 ⟨⟨r, rfl, hr4, b4⟩⟩; have e4 : r = true := hr4.2 rfl; subst e4; have B4 := B3.trans (b4.mono B3.size))
      | (go_at_call 13; refine (KA _).mono ?_; clear KA; rintro e w5 ⟨rfl, b5⟩))
    go_ret
    exact ⟨rfl, B4.trans (b5.mono B4.size)⟩
end Go.Proofs.Ytpdmpekkmblgmaa
