/-
  The law: PlanWays.
-/
import Derived.Test.YtpdmpekkmblgmaaWWc
import Derived.Test.YtpdmpekkmblgmaaPD
import Derived.Test.YtpdmpekkmblgmaaD2
namespace Go.Proofs.Ytpdmpekkmblgmaa
open Go.ChangeShapes Go.WideShapes Go.ChangeAt Go.RowKit Go.Maps Go.Shelf
set_option linter.unusedVariables false
set_option linter.unusedSimpArgs false
attribute [local go_sem] Oper.semAt_some

theorem ways_walk (n : Int) (a : Option Addr) (k cap : Nat) (l : List LK) (w : World) (hr : RdL w a k cap l) :
    Calls Try.prog 7 #[.int .i64 n, .slice a k cap] w fun e w' => e = .returned (.bool true) ∧ Below w.heap.size w w' :=
  ways_core n a k cap l w hr (rfit_any n a k cap l w hr) (fun W => awake_any W)
end Go.Proofs.Ytpdmpekkmblgmaa
