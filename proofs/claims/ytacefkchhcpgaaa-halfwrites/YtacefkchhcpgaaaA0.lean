/-
  Package reg: what the calls on numbers return (nodes, ends, ranges, stamps).
-/
import Derived.Test.YtacefkchhcpgaaaProg
import Derived.WalkKit
import Derived.ProofKit
import Derived.OpenShut
import Derived.Handy
import Derived.Below
import Derived.BigQuiet
import Derived.Deep.LoopGhost
import Derived.WalkLawsBesides
import Derived.Deep.RegionWith
import Derived.Deep.DeepCutAuto
namespace Go.Proofs.Ytacefkchhcpgaaa
open Go.ChangeShapes Go.WideShapes Go.ChangeAt Go.RowKit
set_option linter.unusedVariables false
set_option linter.unusedSimpArgs false

def nodeB (n : Int) : Bool := decide (0 ≤ n ∧ n < 16)
def edgeB (a b : Int) : Bool := decide (a ≠ b) && nodeB a && nodeB b
def endB (n a b : Int) : Bool := decide (n = a) || decide (n = b)
def rngB (x : Int) : Bool := decide (-2147483647 ≤ x ∧ x ≤ 2147483647)
def aboveB (a b c d : Int) : Bool := if a = b then decide (d < c) else decide (b < a)
theorem ret_bool {a b : Bool} (h : a = b) : Ending.returned (.bool a) = .returned (.bool b) := by rw [h]
theorem ret_i64 {a b : Int} (h : a = b) : Ending.returned (.int .i64 a) = .returned (.int .i64 b) := by rw [h]

theorem node_any (n : Int) (w : World) : Calls Try.prog 80 #[.int .i64 n] w fun e w' => e = .returned (.bool (nodeB n)) ∧ w' = w := by
  by_cases c : 0 ≤ n
  · by_cases d : n < 16
    all_goals
      go_enter Try.func80, Try.ntmps80
      go_wp2
      go_ret
      exact ⟨ret_bool (by simp [nodeB]; omega), rfl⟩
  · go_enter Try.func80, Try.ntmps80
    go_wp2
    go_ret
    exact ⟨ret_bool (by simp [nodeB]; omega), rfl⟩
theorem rnode_any (n : Int) (w : World) : Calls Try.prog 59 #[.int .i64 n] w fun e w' => e = .returned (.bool (nodeB n)) ∧ w' = w := by
  by_cases c : 0 ≤ n
  · by_cases d : n < 16
    all_goals
      go_enter Try.func59, Try.ntmps59
      go_wp2
      go_ret
      exact ⟨ret_bool (by simp [nodeB]; omega), rfl⟩
  · go_enter Try.func59, Try.ntmps59
    go_wp2
    go_ret
    exact ⟨ret_bool (by simp [nodeB]; omega), rfl⟩
theorem rng_any (n : Int) (w : World) : Calls Try.prog 75 #[.int .i64 n] w fun e w' => e = .returned (.bool (rngB n)) ∧ w' = w := by
  by_cases c : -2147483647 ≤ n
  · by_cases d : n ≤ 2147483647
    all_goals
      go_enter Try.func75, Try.ntmps75
      go_wp2
      go_ret
      exact ⟨ret_bool (by simp [rngB]; omega), rfl⟩
  · go_enter Try.func75, Try.ntmps75
    go_wp2
    go_ret
    exact ⟨ret_bool (by simp [rngB]; omega), rfl⟩
theorem end_any (n a b : Int) (w : World) : Calls Try.prog 74 #[.int .i64 n, .int .i64 a, .int .i64 b] w fun e w' => e = .returned (.bool (endB n a b)) ∧ w' = w := by
  by_cases c : n = a
  · subst c
    go_enter Try.func74, Try.ntmps74
    go_wp2
    go_ret
    exact ⟨ret_bool (by simp [endB]), rfl⟩
  · by_cases d : n = b
    · subst d
      go_enter Try.func74, Try.ntmps74
      go_wp2
      go_ret
      exact ⟨ret_bool (by simp [endB]), rfl⟩
    · go_enter Try.func74, Try.ntmps74
      go_wp2
      go_ret
      exact ⟨ret_bool (by simp [endB, c, d]), rfl⟩
theorem above_any (a b c d : Int) (w : World) : Calls Try.prog 76 #[.int .i64 a, .int .i64 b, .int .i64 c, .int .i64 d] w fun e w' => e = .returned (.bool (aboveB a b c d)) ∧ w' = w := by
  by_cases h : a = b
  · subst h
    go_enter Try.func76, Try.ntmps76
    go_wp2
    go_ret
    exact ⟨ret_bool (by simp [aboveB]), rfl⟩
  · go_enter Try.func76, Try.ntmps76
    go_wp2
    go_ret
    exact ⟨ret_bool (by simp [aboveB, h]), rfl⟩
def alongZ (x a b : Int) : Int := if a < b then x else -x
theorem edge_any (a b : Int) (w : World) : Calls Try.prog 73 #[.int .i64 a, .int .i64 b] w fun e w' => e = .returned (.bool (edgeB a b)) ∧ w' = w := by
  have h1 := node_any a
  have h2 := node_any b
  by_cases h : a = b
  · subst h
    go_enter Try.func73, Try.ntmps73
    go_wp2
    go_ret
    exact ⟨ret_bool (by simp [edgeB]), rfl⟩
  · cases ha : nodeB a with
    | false =>
      go_enter Try.func73, Try.ntmps73
      go_wp2_with (go_at_call 80; refine (node_any a _).mono ?_; rintro e wx ⟨rfl, hw⟩; rw [hw, ha]; clear hw wx)
      go_ret
      exact ⟨ret_bool (by simp [edgeB, ha]), rfl⟩
    | true =>
      go_enter Try.func73, Try.ntmps73
      go_wp2_with (first | (go_at_call_of 80 a; refine (node_any a _).mono ?_; rintro e wx ⟨rfl, hw⟩; rw [hw, ha]; clear hw wx) | (go_at_call_of 80 b; refine (node_any b _).mono ?_; rintro e wx ⟨rfl, hw⟩; rw [hw]; clear hw wx))
      go_ret
      exact ⟨ret_bool (by simp [edgeB, ha, h]), rfl⟩
end Go.Proofs.Ytacefkchhcpgaaa
