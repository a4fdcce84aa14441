/-
  Package reg: what the calls on numbers return (nodes, ends, ranges, stamps).
-/
import Derived.Test.YtcjdfnfaiocdjaaProg
import Derived.WalkKit
import Derived.ProofKit
import Derived.OpenShut
import Derived.Handy
import Derived.Below
import Derived.BigQuiet
import Derived.Deep.LoopGhost
import Derived.WalkLawsBesides
import Derived.Deep.RegionWith
import Derived.Deep.DeepCutAuto
namespace Go.Proofs.Ytcjdfnfaiocdjaa
open Go.ChangeShapes Go.WideShapes Go.ChangeAt Go.RowKit
set_option linter.unusedVariables false
set_option linter.unusedSimpArgs false

def nodeB (n : Int) : Bool := decide (0 ≤ n ∧ n < 16)
def edgeB (a b : Int) : Bool := decide (a ≠ b) && nodeB a && nodeB b
def endB (n a b : Int) : Bool := decide (n = a) || decide (n = b)
def rngB (x : Int) : Bool := decide (-2147483647 ≤ x ∧ x ≤ 2147483647)
def aboveB (a b c d : Int) : Bool := if a = b then decide (d < c) else decide (b < a)
theorem ret_bool {a b : Bool} (h : a = b) : Ending.returned (.bool a) = .returned (.bool b) := by rw [h]
theorem ret_i64 {a b : Int} (h : a = b) : Ending.returned (.int .i64 a) = .returned (.int .i64 b) := by rw [h]

theorem node_any (n : Int) (w : World) : Calls Try.prog 48 #[.int .i64 n] w fun e w' => e = .returned (.bool (nodeB n)) ∧ w' = w := by
  by_cases c : 0 ≤ n
  · by_cases d : n < 16
    all_goals
      go_enter Try.func48, Try.ntmps48
      go_wp2
      go_ret
      exact ⟨ret_bool (by simp [nodeB]; omega), rfl⟩
  · go_enter Try.func48, Try.ntmps48
    go_wp2
    go_ret
    exact ⟨ret_bool (by simp [nodeB]; omega), rfl⟩
theorem rnode_any (n : Int) (w : World) : Calls Try.prog 40 #[.int .i64 n] w fun e w' => e = .returned (.bool (nodeB n)) ∧ w' = w := by
  by_cases c : 0 ≤ n
  · by_cases d : n < 16
    all_goals
      go_enter Try.func40, Try.ntmps40
      go_wp2
      go_ret
      exact ⟨ret_bool (by simp [nodeB]; omega), rfl⟩
  · go_enter Try.func40, Try.ntmps40
    go_wp2
    go_ret
    exact ⟨ret_bool (by simp [nodeB]; omega), rfl⟩
theorem rng_any (n : Int) (w : World) : Calls Try.prog 35 #[.int .i64 n] w fun e w' => e = .returned (.bool (rngB n)) ∧ w' = w := by
  by_cases c : -2147483647 ≤ n
  · by_cases d : n ≤ 2147483647
    all_goals
      go_enter Try.func35, Try.ntmps35
      go_wp2
      go_ret
      exact ⟨ret_bool (by simp [rngB]; omega), rfl⟩
  · go_enter Try.func35, Try.ntmps35
    go_wp2
    go_ret
    exact ⟨ret_bool (by simp [rngB]; omega), rfl⟩
theorem end_any (n a b : Int) (w : World) : Calls Try.prog 34 #[.int .i64 n, .int .i64 a, .int .i64 b] w fun e w' => e = .returned (.bool (endB n a b)) ∧ w' = w := by
  by_cases c : n = a
  · subst c
    go_enter Try.func34, Try.ntmps34
    go_wp2
    go_ret
    exact ⟨ret_bool (by simp [endB]), rfl⟩
  · by_cases d : n = b
    · subst d
      go_enter Try.func34, Try.ntmps34
      go_wp2
      go_ret
      exact ⟨ret_bool (by simp [endB]), rfl⟩
    · go_enter Try.func34, Try.ntmps34
      go_wp2
      go_ret
      exact ⟨ret_bool (by simp [endB, c, d]), rfl⟩
def alongZ (x a b : Int) : Int := if a < b then x else -x
theorem along_any (x a b : Int) (w : World) (h1 : -9223372036854775808 < x) (h2 : x ≤ 9223372036854775807) : Calls Try.prog 39 #[.int .i64 x, .int .i64 a, .int .i64 b] w fun e w' => e = .returned (.int .i64 (alongZ x a b)) ∧ w' = w := by
  by_cases h : a < b
  · go_enter Try.func39, Try.ntmps39
    go_wp2
    go_ret
    exact ⟨ret_i64 (by simp [alongZ, h]), rfl⟩
  · go_enter Try.func39, Try.ntmps39
    go_wp2
    go_ret
    exact ⟨ret_i64 (by first | (simp [alongZ, h]; done) | (simp [alongZ, h, IntKind.wrap_i64]; omega)), rfl⟩
theorem edge_any (a b : Int) (w : World) : Calls Try.prog 33 #[.int .i64 a, .int .i64 b] w fun e w' => e = .returned (.bool (edgeB a b)) ∧ w' = w := by
  have h1 := node_any a
  have h2 := node_any b
  by_cases h : a = b
  · subst h
    go_enter Try.func33, Try.ntmps33
    go_wp2
    go_ret
    exact ⟨ret_bool (by simp [edgeB]), rfl⟩
  · cases ha : nodeB a with
    | false =>
      go_enter Try.func33, Try.ntmps33
      go_wp2_with (go_at_call 48; refine (node_any a _).mono ?_; rintro e wx ⟨rfl, hw⟩; rw [hw, ha]; clear hw wx)
      go_ret
      exact ⟨ret_bool (by simp [edgeB, ha]), rfl⟩
    | true =>
      go_enter Try.func33, Try.ntmps33
      go_wp2_with (first | (go_at_call_of 48 a; refine (node_any a _).mono ?_; rintro e wx ⟨rfl, hw⟩; rw [hw, ha]; clear hw wx) | (go_at_call_of 48 b; refine (node_any b _).mono ?_; rintro e wx ⟨rfl, hw⟩; rw [hw]; clear hw wx))
      go_ret
      exact ⟨ret_bool (by simp [edgeB, ha, h]), rfl⟩
end Go.Proofs.Ytcjdfnfaiocdjaa
