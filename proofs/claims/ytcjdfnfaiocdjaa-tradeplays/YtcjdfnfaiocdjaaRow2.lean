/-
  A new row of two numbers.
-/
import Derived.Test.YtcjdfnfaiocdjaaRefSq
import Derived.Test.YtcjdfnfaiocdjaaInts
namespace Go.Proofs.Ytcjdfnfaiocdjaa
open Go.ChangeShapes Go.WideShapes Go.ChangeAt Go.RowKit
set_option linter.unusedVariables false

theorem row_two (W : World) (x y : Int) (hx : -9223372036854775808 ≤ x ∧ x ≤ 9223372036854775807) (hy : -9223372036854775808 ≤ y ∧ y ≤ 9223372036854775807) (n : Nat) (hn : n = W.heap.size) :
    Row (W.alloc (.cells #[.int .i64 x, .int .i64 y] 2)) (some ⟨n, 0, none⟩) 2 [x, y] where
  size := rfl
  max := by unfold maxLen; omega
  bd := fun k => by
    match k with
    | 0 => exact hx
    | 1 => exact hy
    | (k + 2) => simp
  mem := .inr ⟨n, 0, rfl, by simp [hn], fun k hk => by
    subst hn
    match k, hk with
    | 0, _ => simp
    | 1, _ => simp⟩

end Go.Proofs.Ytcjdfnfaiocdjaa
