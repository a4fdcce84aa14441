/-
  Package plan: the table of shapes.
-/
import Derived.Test.YtpdmpekkmblgmaaP9b
import Derived.Test.YtpdmpekkmblgmaaP3b
namespace Go.Proofs.Ytpdmpekkmblgmaa
open Go.ChangeShapes Go.WideShapes Go.ChangeAt Go.RowKit Go.Maps Go.Shelf
set_option linter.unusedVariables false
set_option linter.unusedSimpArgs false
attribute [local go_sem] Oper.semAt_some

abbrev zK : Array Value := #[.bool false, .nilFunc]
abbrev zT : Array Value := #[.bool false, .nilFunc, .bool false, .nilFunc, .bool false, .nilFunc, .bool false, .nilFunc, .bool false, .nilFunc, .bool false, .nilFunc, .bool false, .nilFunc, .bool false, .nilFunc]
theorem rt52 : RT 52 zK := ⟨fun W => by kernel_rfl, ⟨_, Try.underlying52, rfl⟩, by show _ = some 2; kernel_rfl⟩
theorem rt53 : RT 53 zT := ⟨fun W => by kernel_rfl, ⟨_, Try.underlying53, rfl⟩, by show _ = some 16; kernel_rfl⟩
abbrev tab : Array Value := #[.bool false, .nilFunc, .bool false, .func (.func 44) #[] #[], .bool false, .func (.func 45) #[] #[], .bool false, .func (.func 46) #[] #[], .bool false, .func (.func 47) #[] #[], .bool true, .func (.func 48) #[] #[], .bool true, .func (.func 49) #[] #[], .bool false, .func (.func 50) #[] #[]]
set_option maxRecDepth 100000 in
set_option maxHeartbeats 1000000 in
theorem sketches_any (w : World) : Calls Try.prog 28 #[] w fun e w' => e = .returned (.agg tab) ∧ Below w.heap.size w w' := by
  have M := Mem.nil w
  go_enter Try.func28, Try.ntmps28
  go_wp2_with (first
    | ((with_reducible show wpList _ _ _ (Oper.mk _ (Op.alloc 53) _ _ _ _ :: _) _ _); refine wpList_alloc M rfl rfl rt53 ?_; clear M; intro kt W M)
    | ((with_reducible show wpList _ _ _ (Oper.mk _ (Op.store 53 _ _) _ _ _ _ :: _) _ _); refine wpList_put M rfl _ _ rfl rt53 0 tab rfl rfl rfl rfl rfl (by simp [Value.oneCell']) ?_; clear M; intro W2 M; simp only [List.set_cons_zero] at M))
  refine bodyPost_ret (results_row1 rfl _ _ kt (.agg tab) rfl (load_row (M.get (.head _)) rt53 rfl)) rfl ?_
  exact ⟨rfl, M.below⟩
end Go.Proofs.Ytpdmpekkmblgmaa
