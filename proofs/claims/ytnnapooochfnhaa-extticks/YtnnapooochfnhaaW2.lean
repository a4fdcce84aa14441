/-
  What the law ExtTicks returns.
-/
import Derived.Test.YtnnapooochfnhaaX7
import Derived.Test.YtnnapooochfnhaaX8
import Derived.Test.YtnnapooochfnhaaX9
namespace Go.Proofs.Ytnnapooochfnhaa
open Go.ChangeShapes Go.WideShapes Go.ChangeAt Go.RowKit
set_option linter.unusedVariables false
set_option linter.unusedSimpArgs false

set_option maxRecDepth 100000 in
set_option maxHeartbeats 8000000 in
theorem ticks_walk (id : Int) (has : Bool) (inp : Int) (h1 : Bool) (v1 o1 g1 : Int) (h2 : Bool) (v2 o2 g2 : Int) (h3 : Bool) (v3 o3 g3 : Int) (h4 : Bool) (v4 o4 g4 : Int) (w : World) : Calls Try.prog 4 #[.int .i64 id, .bool has, .int .i64 inp, ex h1 v1 o1 g1, ex h2 v2 o2 g2, ex h3 v3 o3 g3, ex h4 v4 o4 g4] w fun e w' => e = .returned (.bool true) ∧ Below w.heap.size w w' := by
  have M := Mem.nil w
  have K81 := fun w => rfit_any h1 v1 o1 g1 w
  have K82 := fun w => rfit_any h2 v2 o2 g2 w
  have K83 := fun w => rfit_any h3 v3 o3 g3 w
  have K84 := fun w => rfit_any h4 v4 o4 g4 w
  have K9 := fun w => node_any id w
  have K10 := fun w => flow_any inp w
  obtain ⟨F1, hF1⟩ : ∃ F, fitB ⟨h1, v1, o1, g1⟩ = F := ⟨_, rfl⟩
  simp only [hF1] at K81
  obtain ⟨F2, hF2⟩ : ∃ F, fitB ⟨h2, v2, o2, g2⟩ = F := ⟨_, rfl⟩
  simp only [hF2] at K82
  obtain ⟨F3, hF3⟩ : ∃ F, fitB ⟨h3, v3, o3, g3⟩ = F := ⟨_, rfl⟩
  simp only [hF3] at K83
  obtain ⟨F4, hF4⟩ : ∃ F, fitB ⟨h4, v4, o4, g4⟩ = F := ⟨_, rfl⟩
  simp only [hF4] at K84
  obtain ⟨bn, hbn⟩ : ∃ F, nodeB id = F := ⟨_, rfl⟩
  obtain ⟨bf, hbf⟩ : ∃ F, flowB inp = F := ⟨_, rfl⟩
  simp only [hbn] at K9
  simp only [hbf] at K10
  cases bn with
  | false =>
    go_enter Try.func4, Try.ntmps4
    go_wp2_with (first
      | ((with_reducible show wpList _ _ _ (Oper.mk _ (Op.box 23 _) _ _ _ _ :: _) _ _); refine wpList_box M rfl _ rfl _ _ _ _ rfl ?_; clear M; intro k W M)
      | (go_at_call 9; refine (K9 _).mono ?_; clear K9; rintro e wx ⟨rfl, hw⟩; rw [hw]; clear hw wx)
      | (go_at_call 10; refine (K10 _).mono ?_; clear K10; rintro e wx ⟨rfl, hw⟩; rw [hw]; clear hw wx)
      | ((with_reducible show wpList _ _ _ (Oper.mk _ (Op.load 23 _) _ _ _ _ :: _) _ _); refine wpList_loadw M (by rfl) _ rfl rfl (by first | exact .head _ | exact .tail _ (.head _) | exact .tail _ (.tail _ (.head _)) | exact .tail _ (.tail _ (.tail _ (.head _)))) ?_)
      | (go_at_call 8; refine (K81 _).mono ?_; clear K81; rintro e w1 ⟨rfl, b1⟩; replace M := M.later b1; clear b1)
      | (go_at_call 8; refine (K82 _).mono ?_; clear K82; rintro e w1 ⟨rfl, b1⟩; replace M := M.later b1; clear b1)
      | (go_at_call 8; refine (K83 _).mono ?_; clear K83; rintro e w1 ⟨rfl, b1⟩; replace M := M.later b1; clear b1)
      | (go_at_call 8; refine (K84 _).mono ?_; clear K84; rintro e w1 ⟨rfl, b1⟩; replace M := M.later b1; clear b1)
      | (go_at_call 13; refine (awake_any _).mono ?_; rintro e w1 ⟨rfl, b1⟩; replace M := M.later b1; clear b1))
    go_ret
    exact ⟨rfl, M.below⟩
  | true =>
    cases bf with
    | false =>
      go_enter Try.func4, Try.ntmps4
      go_wp2_with (first
      | ((with_reducible show wpList _ _ _ (Oper.mk _ (Op.box 23 _) _ _ _ _ :: _) _ _); refine wpList_box M rfl _ rfl _ _ _ _ rfl ?_; clear M; intro k W M)
      | (go_at_call 9; refine (K9 _).mono ?_; clear K9; rintro e wx ⟨rfl, hw⟩; rw [hw]; clear hw wx)
      | (go_at_call 10; refine (K10 _).mono ?_; clear K10; rintro e wx ⟨rfl, hw⟩; rw [hw]; clear hw wx)
      | ((with_reducible show wpList _ _ _ (Oper.mk _ (Op.load 23 _) _ _ _ _ :: _) _ _); refine wpList_loadw M (by rfl) _ rfl rfl (by first | exact .head _ | exact .tail _ (.head _) | exact .tail _ (.tail _ (.head _)) | exact .tail _ (.tail _ (.tail _ (.head _)))) ?_)
      | (go_at_call 8; refine (K81 _).mono ?_; clear K81; rintro e w1 ⟨rfl, b1⟩; replace M := M.later b1; clear b1)
      | (go_at_call 8; refine (K82 _).mono ?_; clear K82; rintro e w1 ⟨rfl, b1⟩; replace M := M.later b1; clear b1)
      | (go_at_call 8; refine (K83 _).mono ?_; clear K83; rintro e w1 ⟨rfl, b1⟩; replace M := M.later b1; clear b1)
      | (go_at_call 8; refine (K84 _).mono ?_; clear K84; rintro e w1 ⟨rfl, b1⟩; replace M := M.later b1; clear b1)
      | (go_at_call 13; refine (awake_any _).mono ?_; rintro e w1 ⟨rfl, b1⟩; replace M := M.later b1; clear b1))
      go_ret
      exact ⟨rfl, M.below⟩
    | true =>
      cases F1 with
      | false =>
        go_enter Try.func4, Try.ntmps4
        go_wp2_with (first
      | ((with_reducible show wpList _ _ _ (Oper.mk _ (Op.box 23 _) _ _ _ _ :: _) _ _); refine wpList_box M rfl _ rfl _ _ _ _ rfl ?_; clear M; intro k W M)
      | (go_at_call 9; refine (K9 _).mono ?_; clear K9; rintro e wx ⟨rfl, hw⟩; rw [hw]; clear hw wx)
      | (go_at_call 10; refine (K10 _).mono ?_; clear K10; rintro e wx ⟨rfl, hw⟩; rw [hw]; clear hw wx)
      | ((with_reducible show wpList _ _ _ (Oper.mk _ (Op.load 23 _) _ _ _ _ :: _) _ _); refine wpList_loadw M (by rfl) _ rfl rfl (by first | exact .head _ | exact .tail _ (.head _) | exact .tail _ (.tail _ (.head _)) | exact .tail _ (.tail _ (.tail _ (.head _)))) ?_)
      | (go_at_call 8; refine (K81 _).mono ?_; clear K81; rintro e w1 ⟨rfl, b1⟩; replace M := M.later b1; clear b1)
      | (go_at_call 8; refine (K82 _).mono ?_; clear K82; rintro e w1 ⟨rfl, b1⟩; replace M := M.later b1; clear b1)
      | (go_at_call 8; refine (K83 _).mono ?_; clear K83; rintro e w1 ⟨rfl, b1⟩; replace M := M.later b1; clear b1)
      | (go_at_call 8; refine (K84 _).mono ?_; clear K84; rintro e w1 ⟨rfl, b1⟩; replace M := M.later b1; clear b1)
      | (go_at_call 13; refine (awake_any _).mono ?_; rintro e w1 ⟨rfl, b1⟩; replace M := M.later b1; clear b1))
        go_ret
        exact ⟨rfl, M.below⟩
      | true =>
        cases F2 with
        | false =>
          go_enter Try.func4, Try.ntmps4
          go_wp2_with (first
      | ((with_reducible show wpList _ _ _ (Oper.mk _ (Op.box 23 _) _ _ _ _ :: _) _ _); refine wpList_box M rfl _ rfl _ _ _ _ rfl ?_; clear M; intro k W M)
      | (go_at_call 9; refine (K9 _).mono ?_; clear K9; rintro e wx ⟨rfl, hw⟩; rw [hw]; clear hw wx)
      | (go_at_call 10; refine (K10 _).mono ?_; clear K10; rintro e wx ⟨rfl, hw⟩; rw [hw]; clear hw wx)
      | ((with_reducible show wpList _ _ _ (Oper.mk _ (Op.load 23 _) _ _ _ _ :: _) _ _); refine wpList_loadw M (by rfl) _ rfl rfl (by first | exact .head _ | exact .tail _ (.head _) | exact .tail _ (.tail _ (.head _)) | exact .tail _ (.tail _ (.tail _ (.head _)))) ?_)
      | (go_at_call 8; refine (K81 _).mono ?_; clear K81; rintro e w1 ⟨rfl, b1⟩; replace M := M.later b1; clear b1)
      | (go_at_call 8; refine (K82 _).mono ?_; clear K82; rintro e w1 ⟨rfl, b1⟩; replace M := M.later b1; clear b1)
      | (go_at_call 8; refine (K83 _).mono ?_; clear K83; rintro e w1 ⟨rfl, b1⟩; replace M := M.later b1; clear b1)
      | (go_at_call 8; refine (K84 _).mono ?_; clear K84; rintro e w1 ⟨rfl, b1⟩; replace M := M.later b1; clear b1)
      | (go_at_call 13; refine (awake_any _).mono ?_; rintro e w1 ⟨rfl, b1⟩; replace M := M.later b1; clear b1))
          go_ret
          exact ⟨rfl, M.below⟩
        | true =>
          cases F3 with
          | false =>
            go_enter Try.func4, Try.ntmps4
            go_wp2_with (first
      | ((with_reducible show wpList _ _ _ (Oper.mk _ (Op.box 23 _) _ _ _ _ :: _) _ _); refine wpList_box M rfl _ rfl _ _ _ _ rfl ?_; clear M; intro k W M)
      | (go_at_call 9; refine (K9 _).mono ?_; clear K9; rintro e wx ⟨rfl, hw⟩; rw [hw]; clear hw wx)
      | (go_at_call 10; refine (K10 _).mono ?_; clear K10; rintro e wx ⟨rfl, hw⟩; rw [hw]; clear hw wx)
      | ((with_reducible show wpList _ _ _ (Oper.mk _ (Op.load 23 _) _ _ _ _ :: _) _ _); refine wpList_loadw M (by rfl) _ rfl rfl (by first | exact .head _ | exact .tail _ (.head _) | exact .tail _ (.tail _ (.head _)) | exact .tail _ (.tail _ (.tail _ (.head _)))) ?_)
      | (go_at_call 8; refine (K81 _).mono ?_; clear K81; rintro e w1 ⟨rfl, b1⟩; replace M := M.later b1; clear b1)
      | (go_at_call 8; refine (K82 _).mono ?_; clear K82; rintro e w1 ⟨rfl, b1⟩; replace M := M.later b1; clear b1)
      | (go_at_call 8; refine (K83 _).mono ?_; clear K83; rintro e w1 ⟨rfl, b1⟩; replace M := M.later b1; clear b1)
      | (go_at_call 8; refine (K84 _).mono ?_; clear K84; rintro e w1 ⟨rfl, b1⟩; replace M := M.later b1; clear b1)
      | (go_at_call 13; refine (awake_any _).mono ?_; rintro e w1 ⟨rfl, b1⟩; replace M := M.later b1; clear b1))
            go_ret
            exact ⟨rfl, M.below⟩
          | true =>
            cases F4 with
            | false =>
              go_enter Try.func4, Try.ntmps4
              go_wp2_with (first
      | ((with_reducible show wpList _ _ _ (Oper.mk _ (Op.box 23 _) _ _ _ _ :: _) _ _); refine wpList_box M rfl _ rfl _ _ _ _ rfl ?_; clear M; intro k W M)
      | (go_at_call 9; refine (K9 _).mono ?_; clear K9; rintro e wx ⟨rfl, hw⟩; rw [hw]; clear hw wx)
      | (go_at_call 10; refine (K10 _).mono ?_; clear K10; rintro e wx ⟨rfl, hw⟩; rw [hw]; clear hw wx)
      | ((with_reducible show wpList _ _ _ (Oper.mk _ (Op.load 23 _) _ _ _ _ :: _) _ _); refine wpList_loadw M (by rfl) _ rfl rfl (by first | exact .head _ | exact .tail _ (.head _) | exact .tail _ (.tail _ (.head _)) | exact .tail _ (.tail _ (.tail _ (.head _)))) ?_)
      | (go_at_call 8; refine (K81 _).mono ?_; clear K81; rintro e w1 ⟨rfl, b1⟩; replace M := M.later b1; clear b1)
      | (go_at_call 8; refine (K82 _).mono ?_; clear K82; rintro e w1 ⟨rfl, b1⟩; replace M := M.later b1; clear b1)
      | (go_at_call 8; refine (K83 _).mono ?_; clear K83; rintro e w1 ⟨rfl, b1⟩; replace M := M.later b1; clear b1)
      | (go_at_call 8; refine (K84 _).mono ?_; clear K84; rintro e w1 ⟨rfl, b1⟩; replace M := M.later b1; clear b1)
      | (go_at_call 13; refine (awake_any _).mono ?_; rintro e w1 ⟨rfl, b1⟩; replace M := M.later b1; clear b1))
              go_ret
              exact ⟨rfl, M.below⟩
            | true =>
              have K20 := fun w => tick_any id has inp h1 v1 o1 g1 h2 v2 o2 g2 w hF1 hF2
              have K21 := fun w => rtick_any id has inp h1 v1 o1 g1 h2 v2 o2 g2 w hbn hbf hF1 hF2
              have K22 := fun w => hear_any id h1 v1 o1 g1 h2 v2 o2 g2 h3 v3 o3 g3 h4 v4 o4 g4 w
              have K23 := fun w => rhear_any id h1 v1 o1 g1 h2 v2 o2 g2 h3 v3 o3 g3 h4 v4 o4 g4 w hF1 hF2 hF3 hF4
              have K24 := fun w => set_any id inp h1 v1 o1 g1 h2 v2 o2 g2 w
              have K25 := fun w => rset_any id inp h1 v1 o1 g1 h2 v2 o2 g2 w hbn hbf hF1 hF2
              obtain ⟨⟨h5, v5, o5, g5⟩, ⟨h6, v6, o6, g6⟩, e5⟩ : ∃ a b, tickX id has inp ⟨h1, v1, o1, g1⟩ ⟨h2, v2, o2, g2⟩ = (a, b) := ⟨_, _, rfl⟩
              simp only [e5, two] at K20 K21
              clear e5
              obtain ⟨⟨h7, v7, o7, g7⟩, ⟨h8, v8, o8, g8⟩, e7⟩ : ∃ a b, hearX id ⟨h1, v1, o1, g1⟩ ⟨h2, v2, o2, g2⟩ ⟨h3, v3, o3, g3⟩ ⟨h4, v4, o4, g4⟩ = (a, b) := ⟨_, _, rfl⟩
              simp only [e7, two] at K22 K23
              clear e7
              obtain ⟨⟨h9, v9, o9, g9⟩, ⟨h10, v10, o10, g10⟩, e9⟩ : ∃ a b, setX id inp ⟨h1, v1, o1, g1⟩ ⟨h2, v2, o2, g2⟩ = (a, b) := ⟨_, _, rfl⟩
              simp only [e9, two] at K24 K25
              clear e9
              clear hF1 hF2 hF3 hF4 hbn hbf
              go_enter Try.func4, Try.ntmps4
              go_wp2_with (first
      | ((with_reducible show wpList _ _ _ (Oper.mk _ (Op.box 23 _) _ _ _ _ :: _) _ _); refine wpList_box M rfl _ rfl _ _ _ _ rfl ?_; clear M; intro k W M)
      | ((with_reducible show wpList _ _ _ (Oper.mk _ (Op.alloc 23) _ _ _ _ :: _) _ _); refine wpList_alloc M rfl rfl ?_; clear M; intro k W M)
      | (go_at_call 9; refine (K9 _).mono ?_; clear K9; rintro e wx ⟨rfl, hw⟩; rw [hw]; clear hw wx)
      | (go_at_call 10; refine (K10 _).mono ?_; clear K10; rintro e wx ⟨rfl, hw⟩; rw [hw]; clear hw wx)
      | ((with_reducible show wpList _ _ _ (Oper.mk _ (Op.load 23 _) _ _ _ _ :: _) _ _); refine wpList_loadw M (by rfl) _ rfl rfl (by first | exact .head _ | exact .tail _ (.head _) | exact .tail _ (.tail _ (.head _)) | exact .tail _ (.tail _ (.tail _ (.head _))) | exact .tail _ (.tail _ (.tail _ (.tail _ (.head _)))) | exact .tail _ (.tail _ (.tail _ (.tail _ (.tail _ (.head _))))) | exact .tail _ (.tail _ (.tail _ (.tail _ (.tail _ (.tail _ (.head _)))))) | exact .tail _ (.tail _ (.tail _ (.tail _ (.tail _ (.tail _ (.tail _ (.head _)))))))) ?_)
      | ((with_reducible show wpList _ _ _ (Oper.mk _ (Op.store 23 _ _) _ _ _ _ :: _) _ _); (first | (refine wpList_put M rfl _ _ rfl 0 _ _ _ _ rfl rfl rfl ?_) | (refine wpList_put M rfl _ _ rfl 1 _ _ _ _ rfl rfl rfl ?_) | (refine wpList_put M rfl _ _ rfl 2 _ _ _ _ rfl rfl rfl ?_) | (refine wpList_put M rfl _ _ rfl 3 _ _ _ _ rfl rfl rfl ?_)); clear M; intro W M; simp only [List.set_cons_zero, List.set_cons_succ] at M)
      | (go_at_call 8; refine (K81 _).mono ?_; clear K81; rintro e w1 ⟨rfl, b1⟩; replace M := M.later b1; clear b1)
      | (go_at_call 8; refine (K82 _).mono ?_; clear K82; rintro e w1 ⟨rfl, b1⟩; replace M := M.later b1; clear b1)
      | (go_at_call 8; refine (K83 _).mono ?_; clear K83; rintro e w1 ⟨rfl, b1⟩; replace M := M.later b1; clear b1)
      | (go_at_call 8; refine (K84 _).mono ?_; clear K84; rintro e w1 ⟨rfl, b1⟩; replace M := M.later b1; clear b1)
      | (go_at_call 20; refine (K20 _).mono ?_; clear K20; rintro e w1 ⟨rfl, b1⟩; replace M := M.later b1; clear b1)
      | (go_at_call 21; refine (K21 _).mono ?_; clear K21; rintro e w1 ⟨rfl, b1⟩; replace M := M.later b1; clear b1)
      | (go_at_call 22; refine (K22 _).mono ?_; clear K22; rintro e w1 ⟨rfl, b1⟩; replace M := M.later b1; clear b1)
      | (go_at_call 23; refine (K23 _).mono ?_; clear K23; rintro e w1 ⟨rfl, b1⟩; replace M := M.later b1; clear b1)
      | (go_at_call 24; refine (K24 _).mono ?_; clear K24; rintro e w1 ⟨rfl, b1⟩; replace M := M.later b1; clear b1)
      | (go_at_call 25; refine (K25 _).mono ?_; clear K25; rintro e w1 ⟨rfl, b1⟩; replace M := M.later b1; clear b1)
      | ((with_reducible show wpList _ _ _ (Oper.mk _ (Op.binOp BinOp.neq 23 _ _ 23) _ _ _ _ :: _) _ _); refine wpList_neq (by rfl) _ _ rfl rfl rfl ?_; rw [sameX_self])
      | ((with_reducible show wpList _ _ _ (Oper.mk _ (Op.binOp BinOp.eql 23 _ _ 23) _ _ _ _ :: _) _ _); refine wpList_eql (by rfl) _ _ rfl rfl rfl ?_; rw [sameX_self])
      | (go_at_call 13; refine (awake_any _).mono ?_; rintro e w1 ⟨rfl, b1⟩; replace M := M.later b1; clear b1))
              go_ret
              exact ⟨rfl, M.below⟩
end Go.Proofs.Ytnnapooochfnhaa
