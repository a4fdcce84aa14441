/-
  What the law DeriveTotals returns.
-/
import Derived.Test.YtiigmohnmkgfoaaDoorDJ
namespace Go.Proofs.YtiigmohnmkgfoaaDoor
open Go.ChangeShapes Go.WideShapes Go.ChangeAt Go.RowKit
set_option linter.unusedVariables false
set_option linter.unusedSimpArgs false

set_option maxRecDepth 100000 in
set_option maxHeartbeats 4000000 in
theorem totals_gen (fn fd gn gd c tn td te vn vd ve : Int) (w : World) (ht : Tab w)
    (KT : ∀ W, Calls Tryd.prog 17 #[fr fn fd, .int .i64 c] W fun en w' => en = .returned (.tuple #[fr tn td, .int .i64 te]) ∧ Below W.heap.size W w')
    (RT' : ∀ W, Calls Tryd.prog 18 #[fr fn fd, .int .i64 c] W fun en w' => en = .returned (.tuple #[fr tn td, .int .i64 te]) ∧ Below W.heap.size W w')
    (KV : ∀ W, Calls Tryd.prog 19 #[fr fn fd, fr gn gd] W fun en w' => en = .returned (.tuple #[fr vn vd, .int .i64 ve]) ∧ Below W.heap.size W w')
    (RV : ∀ W, Calls Tryd.prog 20 #[fr fn fd, fr gn gd] W fun en w' => en = .returned (.tuple #[fr vn vd, .int .i64 ve]) ∧ Below W.heap.size W w') :
    Calls Tryd.prog 4 #[fr fn fd, fr gn gd, .int .i64 c] w fun en w' => en = .returned (.bool true) ∧ Below w.heap.size w w' := by
  have M := Mem.nil w
  go_enter Tryd.func4, Tryd.ntmps4
  go_wp2_with (first
    | ((with_reducible show wpList _ _ _ (Oper.mk (some 3) (Op.box 23 _) _ _ _ _ :: _) _ _); refine wpList_box M rfl _ rfl _ rfl ?_; clear M; intro k3 W M)
    | ((with_reducible show wpList _ _ _ (Oper.mk (some 4) (Op.box 23 _) _ _ _ _ :: _) _ _); refine wpList_box M rfl _ rfl _ rfl ?_; clear M; intro k4 W M)
    | ((with_reducible show wpList _ _ _ (Oper.mk (some 12) (Op.load 23 _) _ _ _ _ :: _) _ _); refine wpList_load M (by rfl) _ rfl rt23 rfl (by first | exact .head _ | exact .tail _ (.head _) | exact .tail _ (.tail _ (.head _)) | exact .tail _ (.tail _ (.tail _ (.head _)))) (by rfl) ?_)
    | ((with_reducible show wpList _ _ _ (Oper.mk (some 18) (Op.load 23 _) _ _ _ _ :: _) _ _); refine wpList_load M (by rfl) _ rfl rt23 rfl (by first | exact .head _ | exact .tail _ (.head _) | exact .tail _ (.tail _ (.head _)) | exact .tail _ (.tail _ (.tail _ (.head _)))) (by rfl) ?_)
    | (go_at_call 17; refine (KT _).mono ?_; clear KT; rintro en W1 ⟨rfl, bb⟩; replace M := M.later bb; clear bb)
    | ((with_reducible show wpList _ _ _ (Oper.mk (some 7) (Op.alloc 23) _ _ _ _ :: _) _ _); refine wpList_alloc M rfl rfl rt23 ?_; clear M; intro k7 W M)
    | ((with_reducible show wpList _ _ _ (Oper.mk _ (Op.store 23 (Operand.tmp 7) (Operand.tmp 15)) _ _ _ _ :: _) _ _); (first | (refine wpList_put M rfl _ _ rfl rt23 0 #[.int .i64 tn, .int .i64 td] rfl rfl rfl rfl rfl (by simp [Value.oneCell']) ?_)); clear M; intro W M; simp only [List.set_cons_zero, List.set_cons_succ] at M)
    | (go_at_call 18; refine (RT' _).mono ?_; clear RT'; rintro en W1 ⟨rfl, bb⟩; replace M := M.later bb; clear bb)
    | ((with_reducible show wpList _ _ _ (Oper.mk (some 9) (Op.alloc 23) _ _ _ _ :: _) _ _); refine wpList_alloc M rfl rfl rt23 ?_; clear M; intro k9 W M)
    | ((with_reducible show wpList _ _ _ (Oper.mk _ (Op.store 23 (Operand.tmp 9) (Operand.tmp 21)) _ _ _ _ :: _) _ _); (first | (refine wpList_put M rfl _ _ rfl rt23 0 #[.int .i64 tn, .int .i64 td] rfl rfl rfl rfl rfl (by simp [Value.oneCell']) ?_)); clear M; intro W M; simp only [List.set_cons_zero, List.set_cons_succ] at M)
    | ((with_reducible show wpList _ _ _ (Oper.mk (some 23) (Op.load 23 _) _ _ _ _ :: _) _ _); refine wpList_load M (by rfl) _ rfl rt23 rfl (by first | exact .head _ | exact .tail _ (.head _) | exact .tail _ (.tail _ (.head _)) | exact .tail _ (.tail _ (.tail _ (.head _)))) (by rfl) ?_)
    | ((with_reducible show wpList _ _ _ (Oper.mk (some 24) (Op.load 23 _) _ _ _ _ :: _) _ _); refine wpList_load M (by rfl) _ rfl rt23 rfl (by first | exact .head _ | exact .tail _ (.head _) | exact .tail _ (.tail _ (.head _)) | exact .tail _ (.tail _ (.tail _ (.head _)))) (by rfl) ?_)
    | ((with_reducible show wpList _ _ _ (Oper.mk (some 32) (Op.load 23 _) _ _ _ _ :: _) _ _); refine wpList_load M (by rfl) _ rfl rt23 rfl (by first | exact .head _ | exact .tail _ (.head _) | exact .tail _ (.tail _ (.head _)) | exact .tail _ (.tail _ (.tail _ (.head _)))) (by rfl) ?_)
    | ((with_reducible show wpList _ _ _ (Oper.mk (some 33) (Op.load 23 _) _ _ _ _ :: _) _ _); refine wpList_load M (by rfl) _ rfl rt23 rfl (by first | exact .head _ | exact .tail _ (.head _) | exact .tail _ (.tail _ (.head _)) | exact .tail _ (.tail _ (.tail _ (.head _)))) (by rfl) ?_)
    | (go_at_call 19; refine (KV _).mono ?_; clear KV; rintro en W1 ⟨rfl, bb⟩; replace M := M.later bb; clear bb)
    | ((with_reducible show wpList _ _ _ (Oper.mk _ (Op.store 23 (Operand.tmp 7) (Operand.tmp 35)) _ _ _ _ :: _) _ _); (first | (refine wpList_put M rfl _ _ rfl rt23 1 #[.int .i64 vn, .int .i64 vd] rfl rfl rfl rfl rfl (by simp [Value.oneCell']) ?_)); clear M; intro W M; simp only [List.set_cons_zero, List.set_cons_succ] at M)
    | ((with_reducible show wpList _ _ _ (Oper.mk (some 38) (Op.load 23 _) _ _ _ _ :: _) _ _); refine wpList_load M (by rfl) _ rfl rt23 rfl (by first | exact .head _ | exact .tail _ (.head _) | exact .tail _ (.tail _ (.head _)) | exact .tail _ (.tail _ (.tail _ (.head _)))) (by rfl) ?_)
    | ((with_reducible show wpList _ _ _ (Oper.mk (some 39) (Op.load 23 _) _ _ _ _ :: _) _ _); refine wpList_load M (by rfl) _ rfl rt23 rfl (by first | exact .head _ | exact .tail _ (.head _) | exact .tail _ (.tail _ (.head _)) | exact .tail _ (.tail _ (.tail _ (.head _)))) (by rfl) ?_)
    | (go_at_call 20; refine (RV _).mono ?_; clear RV; rintro en W1 ⟨rfl, bb⟩; replace M := M.later bb; clear bb)
    | ((with_reducible show wpList _ _ _ (Oper.mk _ (Op.store 23 (Operand.tmp 9) (Operand.tmp 41)) _ _ _ _ :: _) _ _); (first | (refine wpList_put M rfl _ _ rfl rt23 0 #[.int .i64 vn, .int .i64 vd] rfl rfl rfl rfl rfl (by simp [Value.oneCell']) ?_)); clear M; intro W M; simp only [List.set_cons_zero, List.set_cons_succ] at M)
    | ((with_reducible show wpList _ _ _ (Oper.mk (some 43) (Op.load 23 _) _ _ _ _ :: _) _ _); refine wpList_load M (by rfl) _ rfl rt23 rfl (by first | exact .head _ | exact .tail _ (.head _) | exact .tail _ (.tail _ (.head _)) | exact .tail _ (.tail _ (.tail _ (.head _)))) (by rfl) ?_)
    | ((with_reducible show wpList _ _ _ (Oper.mk (some 44) (Op.load 23 _) _ _ _ _ :: _) _ _); refine wpList_load M (by rfl) _ rfl rt23 rfl (by first | exact .head _ | exact .tail _ (.head _) | exact .tail _ (.tail _ (.head _)) | exact .tail _ (.tail _ (.tail _ (.head _)))) (by rfl) ?_)
    | (go_at_call 16; refine (awake_any _ (ht.below M.below)).mono ?_; rintro en W1 ⟨rfl, bb⟩; replace M := M.later bb; clear bb))
  go_ret
  exact ⟨rfl, M.below⟩
theorem totals_walk (fn fd gn gd c : Int) (w : World) (h1 : I64 fn) (h2 : I64 fd) (h3 : I64 gn) (h4 : I64 gd) (ht : Tab w) : Calls Tryd.prog 4 #[fr fn fd, fr gn gd, .int .i64 c] w fun en w' => en = .returned (.bool true) ∧ Below w.heap.size w w' :=
  totals_gen _ _ _ _ _ _ _ _ _ _ _ w ht (fun W => total_any fn fd c W h1 h2) (fun W => rtotal_any fn fd c W h1 h2) (fun W => variance_any fn fd gn gd W h1 h2 h3 h4) (fun W => rvariance_any fn fd gn gd W h1 h2 h3 h4)
end Go.Proofs.YtiigmohnmkgfoaaDoor
