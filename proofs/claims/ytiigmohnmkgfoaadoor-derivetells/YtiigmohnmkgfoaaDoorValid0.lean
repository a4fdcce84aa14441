/-
  What Valid returns, and the document's own answer for it.
-/
import Derived.Test.YtiigmohnmkgfoaaDoorMake
import Derived.WalkLawsBesides
import Derived.Deep.RegionWith
import Derived.Deep.DeepCutAuto
namespace Go.Proofs.YtiigmohnmkgfoaaDoor
open Go.ChangeShapes Go.WideShapes Go.ChangeAt Go.RowKit
set_option linter.unusedVariables false
set_option linter.unusedSimpArgs false

def validB (n d : Int) : Bool := decide (0 < d ∧ d ≤ 2147483647 ∧ -2147483647 ≤ n ∧ n ≤ 2147483647 ∧ mkG n d = 1)
theorem rgcd_mk' (n d : Int) (w : World) (hn : sz n ≤ 9223372036854775808) (hd : sz d ≤ 9223372036854775808) (h0 : 0 ≤ d) :
    Calls Tryd.prog 40 #[.int .u64 (sz n), .int .u64 d] w fun e w' => e = .returned (.int .u64 (mkG n d)) ∧ w' = w := by
  have h := rgcd_mk n d w hn hd
  rw [show ((sz d : Nat) : Int) = d by unfold sz; omega] at h
  exact h
theorem ret_bool {a b : Bool} (h : a = b) : Ending.returned (.bool a) = .returned (.bool b) := by rw [h]

end Go.Proofs.YtiigmohnmkgfoaaDoor
