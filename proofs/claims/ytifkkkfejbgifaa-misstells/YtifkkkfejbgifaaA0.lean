/-
  Package reg: what the calls on numbers return (nodes, ends, ranges, stamps).
-/
import Derived.Test.YtifkkkfejbgifaaProg
import Derived.WalkKit
import Derived.ProofKit
import Derived.OpenShut
import Derived.Handy
import Derived.Below
import Derived.BigQuiet
import Derived.Deep.LoopGhost
import Derived.WalkLawsBesides
import Derived.Deep.RegionWith
import Derived.Deep.DeepCutAuto
namespace Go.Proofs.Ytifkkkfejbgifaa
open Go.ChangeShapes Go.WideShapes Go.ChangeAt Go.RowKit
set_option linter.unusedVariables false
set_option linter.unusedSimpArgs false

def nodeB (n : Int) : Bool := decide (0 ≤ n ∧ n < 16)
def edgeB (a b : Int) : Bool := decide (a ≠ b) && nodeB a && nodeB b
def endB (n a b : Int) : Bool := decide (n = a) || decide (n = b)
def rngB (x : Int) : Bool := decide (-2147483647 ≤ x ∧ x ≤ 2147483647)
def aboveB (a b c d : Int) : Bool := if a = b then decide (d < c) else decide (b < a)
theorem ret_bool {a b : Bool} (h : a = b) : Ending.returned (.bool a) = .returned (.bool b) := by rw [h]
theorem ret_i64 {a b : Int} (h : a = b) : Ending.returned (.int .i64 a) = .returned (.int .i64 b) := by rw [h]

theorem rnode_any (n : Int) (w : World) : Calls Try.prog 38 #[.int .i64 n] w fun e w' => e = .returned (.bool (nodeB n)) ∧ w' = w := by
  by_cases c : 0 ≤ n
  · by_cases d : n < 16
    all_goals
      go_enter Try.func38, Try.ntmps38
      go_wp2
      go_ret
      exact ⟨ret_bool (by simp [nodeB]; omega), rfl⟩
  · go_enter Try.func38, Try.ntmps38
    go_wp2
    go_ret
    exact ⟨ret_bool (by simp [nodeB]; omega), rfl⟩
def alongZ (x a b : Int) : Int := if a < b then x else -x
end Go.Proofs.Ytifkkkfejbgifaa
