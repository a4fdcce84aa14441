/-
  The document's own Next; both side by side.
-/
import Derived.Test.YtaacggbfoejjhaaDoorB23
namespace Go.Proofs.YtaacggbfoejjhaaDoor
open Go.ChangeShapes Go.WideShapes Go.ChangeAt Go.RowKit
open D
set_option linter.unusedVariables false
set_option linter.unusedSimpArgs false

set_option maxRecDepth 100000 in
set_option maxHeartbeats 4000000 in
theorem rnext_mlt (r m : Nat) (w : World) (y : Int) (hlt : y < 1099511627776) (KS : Calls Tryd.prog 33 #[.pointer (some ⟨r, 0, none⟩)] w fun e w' => e = .returned (.tuple #[.int .i64 1099511627776, .int .i64 y, .int .i64 0]) ∧ Below w.heap.size w w') :
    Calls Tryd.prog 30 #[.pointer (some ⟨r, 0, none⟩)] w fun e w' => e = .returned (.tuple #[.int .i64 0, .int .i64 33]) ∧ Below w.heap.size w w' := by
  go_enter Tryd.func30, Tryd.ntmps30
  go_wp2_with (go_at_call 33; refine KS.mono ?_; rintro e w1 ⟨rfl, b1⟩)
  all_goals (go_ret2; exact ⟨rfl, b1⟩)
set_option maxRecDepth 100000 in
set_option maxHeartbeats 4000000 in
theorem rnext_mge (r m : Nat) (w : World) (x : Int) (hlt : x ≤ 1099511627776) (KS : Calls Tryd.prog 33 #[.pointer (some ⟨r, 0, none⟩)] w fun e w' => e = .returned (.tuple #[.int .i64 x, .int .i64 1099511627776, .int .i64 0]) ∧ Below w.heap.size w w') :
    Calls Tryd.prog 30 #[.pointer (some ⟨r, 0, none⟩)] w fun e w' => e = .returned (.tuple #[.int .i64 0, .int .i64 33]) ∧ Below w.heap.size w w' := by
  go_enter Tryd.func30, Tryd.ntmps30
  go_wp2_with (go_at_call 33; refine KS.mono ?_; rintro e w1 ⟨rfl, b1⟩)
  all_goals (go_ret2; exact ⟨rfl, b1⟩)
theorem rnext_max (r m : Nat) (w : World) (x y : Nat) (hM : max x y = 1099511627776) (KS : Calls Tryd.prog 33 #[.pointer (some ⟨r, 0, none⟩)] w fun e w' => e = .returned (.tuple #[.int .i64 (x : Int), .int .i64 (y : Int), .int .i64 0]) ∧ Below w.heap.size w w') :
    Calls Tryd.prog 30 #[.pointer (some ⟨r, 0, none⟩)] w fun e w' => e = .returned (.tuple #[.int .i64 0, .int .i64 33]) ∧ Below w.heap.size w w' := by
  by_cases hlt : y < x
  · have hx : (x : Int) = 1099511627776 := by omega
    rw [hx] at KS
    exact rnext_mlt r m w (y : Int) (by omega) KS
  · have hy : (y : Int) = 1099511627776 := by omega
    rw [hy] at KS
    exact rnext_mge r m w (x : Int) (by omega) KS
end Go.Proofs.YtaacggbfoejjhaaDoor
