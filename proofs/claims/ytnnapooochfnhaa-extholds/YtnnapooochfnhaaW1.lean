/-
  What the law ExtHolds returns.
-/
import Derived.Test.YtnnapooochfnhaaX7
import Derived.Test.YtnnapooochfnhaaX8
import Derived.Test.YtnnapooochfnhaaX9
namespace Go.Proofs.Ytnnapooochfnhaa
open Go.ChangeShapes Go.WideShapes Go.ChangeAt Go.RowKit
set_option linter.unusedVariables false
set_option linter.unusedSimpArgs false

set_option maxRecDepth 100000 in
set_option maxHeartbeats 8000000 in
theorem holds_walk (h1 : Bool) (v1 o1 g1 : Int) (h2 : Bool) (v2 o2 g2 : Int) (id x : Int) (w : World) : Calls Try.prog 3 #[ex h1 v1 o1 g1, ex h2 v2 o2 g2, .int .i64 id, .int .i64 x] w fun e w' => e = .returned (.bool true) ∧ Below w.heap.size w w' := by
  have M := Mem.nil w
  have K71 := fun w => fit_any h1 v1 o1 g1 w
  have K81 := fun w => rfit_any h1 v1 o1 g1 w
  have J81 := fun w => rfit_any h1 v1 o1 g1 w
  have K72 := fun w => fit_any h2 v2 o2 g2 w
  have K82 := fun w => rfit_any h2 v2 o2 g2 w
  have J82 := fun w => rfit_any h2 v2 o2 g2 w
  have K9 := fun w => node_any id w
  have K10 := fun w => flow_any x w
  have K11 := fun w => own11_any id x w
  have K12 := fun w => own12_any id x w
  obtain ⟨h3, v3, o3, g3, e3⟩ : ∃ a b c d, ownX id x = EX.mk a b c d := ⟨_, _, _, _, rfl⟩
  simp only [e3] at K11 K12 ⊢
  obtain ⟨F1, hF1⟩ : ∃ F, fitB ⟨h1, v1, o1, g1⟩ = F := ⟨_, rfl⟩
  obtain ⟨F2, hF2⟩ : ∃ F, fitB ⟨h2, v2, o2, g2⟩ = F := ⟨_, rfl⟩
  obtain ⟨bn, hbn⟩ : ∃ F, nodeB id = F := ⟨_, rfl⟩
  obtain ⟨bf, hbf⟩ : ∃ F, flowB x = F := ⟨_, rfl⟩
  simp only [hF1] at K71 K81 J81
  simp only [hF2] at K72 K82 J82
  simp only [hbn] at K9
  simp only [hbf] at K10
  clear e3 hbn hbf
  go_enter Try.func3, Try.ntmps3
  go_wp2_with (first
      | ((with_reducible show wpList _ _ _ (Oper.mk (some 4) (Op.box 23 _) _ _ _ _ :: _) _ _); refine wpList_box M rfl _ rfl _ _ _ _ rfl ?_; clear M; intro k4 W M; skip)
      | ((with_reducible show wpList _ _ _ (Oper.mk (some 5) (Op.box 23 _) _ _ _ _ :: _) _ _); refine wpList_box M rfl _ rfl _ _ _ _ rfl ?_; clear M; intro k5 W M; skip))
  refine wp_region_any (by kernel_rfl) ?_
  change wpAny _ _ _ _ _ _ _ (World.drew _)
  replace M := M.drew
  generalize World.drew W = WD at M ⊢
  refine wpAny_narrow (fun W' => Mem w W' [(k5, ⟨h2, v2, o2, g2⟩), (k4, ⟨h1, v1, o1, g1⟩)]) _ _ _ _ ?_
  refine anyH_take 0 9 (ex h1 v1 o1 g1) rfl rfl (by kernel_rfl) (by kernel_rfl) (by kernel_rfl) (fun _ _ _ h => h) (Or.inl ⟨by rfl, fun X hSw => exec_load23 rfl rfl (hSw.get (.tail _ (.head _)))⟩) (M) ?_
  try simp only [Act.put, List.setIfInBounds_toArray, List.set_cons_zero, List.set_cons_succ]
  refine anyH_take 2 11 (ex h1 v1 o1 g1) rfl rfl (by kernel_rfl) (by kernel_rfl) (by kernel_rfl) (fun _ _ _ h => h) (Or.inl ⟨by rfl, fun X hSw => exec_load23 rfl rfl (hSw.get (.tail _ (.head _)))⟩) (M) ?_
  try simp only [Act.put, List.setIfInBounds_toArray, List.set_cons_zero, List.set_cons_succ]
  refine wpAnyH_ready (rs := [1]) (by kernel_rfl) (by simp) ?_
  refine AllReadyH.cons rfl (fun K hK => ?_) AllReadyH.nil
  go_simp
  go_wp2_with (go_at_call 7; refine (K71 _).mono ?_; clear K71; rintro e w1 ⟨rfl, b1⟩; replace M := M.later b1; clear b1)
  refine hK.out _ _ (M) (fun hS => ?_)
  clear hK
  refine wpAnyH_ready (rs := [3]) (by kernel_rfl) (by simp) ?_
  refine AllReadyH.cons rfl (fun K hK => ?_) AllReadyH.nil
  go_simp
  go_wp2_with (go_at_call 8; refine (K81 _).mono ?_; clear K81; rintro e w1 ⟨rfl, b1⟩; replace M := M.later b1; clear b1)
  refine hK.out _ _ (M) (fun hS => ?_)
  clear hK
  refine anyH_take 4 13 (.bool false) rfl rfl (by kernel_rfl) (by kernel_rfl) (by kernel_rfl) (fun _ _ _ h => h) (Or.inl ⟨by rfl, by intro w hSw; go_simp⟩) (M) ?_
  try simp only [Act.put, List.setIfInBounds_toArray, List.set_cons_zero, List.set_cons_succ]
  refine anyH_take 5 14 (.bool false) rfl rfl (by kernel_rfl) (by kernel_rfl) (by kernel_rfl) (fun _ _ _ h => h) (Or.inl ⟨by rfl, by intro w hSw; go_simp⟩) (M) ?_
  try simp only [Act.put, List.setIfInBounds_toArray, List.set_cons_zero, List.set_cons_succ]
  refine anyH_take 6 15 (ex h2 v2 o2 g2) rfl rfl (by kernel_rfl) (by kernel_rfl) (by kernel_rfl) (fun _ _ _ h => h) (Or.inl ⟨by rfl, fun X hSw => exec_load23 rfl rfl (hSw.get (.head _))⟩) (M) ?_
  try simp only [Act.put, List.setIfInBounds_toArray, List.set_cons_zero, List.set_cons_succ]
  refine anyH_take 8 17 (ex h2 v2 o2 g2) rfl rfl (by kernel_rfl) (by kernel_rfl) (by kernel_rfl) (fun _ _ _ h => h) (Or.inl ⟨by rfl, fun X hSw => exec_load23 rfl rfl (hSw.get (.head _))⟩) (M) ?_
  try simp only [Act.put, List.setIfInBounds_toArray, List.set_cons_zero, List.set_cons_succ]
  refine wpAnyH_ready (rs := [7]) (by kernel_rfl) (by simp) ?_
  refine AllReadyH.cons rfl (fun K hK => ?_) AllReadyH.nil
  go_simp
  go_wp2_with (go_at_call 7; refine (K72 _).mono ?_; clear K72; rintro e w1 ⟨rfl, b1⟩; replace M := M.later b1; clear b1)
  refine hK.out _ _ (M) (fun hS => ?_)
  clear hK
  refine wpAnyH_ready (rs := [9]) (by kernel_rfl) (by simp) ?_
  refine AllReadyH.cons rfl (fun K hK => ?_) AllReadyH.nil
  go_simp
  go_wp2_with (go_at_call 8; refine (K82 _).mono ?_; clear K82; rintro e w1 ⟨rfl, b1⟩; replace M := M.later b1; clear b1)
  refine hK.out _ _ (M) (fun hS => ?_)
  clear hK
  refine anyH_take 10 19 (.bool false) rfl rfl (by kernel_rfl) (by kernel_rfl) (by kernel_rfl) (fun _ _ _ h => h) (Or.inl ⟨by rfl, by intro w hSw; go_simp⟩) (M) ?_
  try simp only [Act.put, List.setIfInBounds_toArray, List.set_cons_zero, List.set_cons_succ]
  refine anyH_take 11 20 (.bool false) rfl rfl (by kernel_rfl) (by kernel_rfl) (by kernel_rfl) (fun _ _ _ h => h) (Or.inl ⟨by rfl, by intro w hSw; go_simp⟩) (M) ?_
  try simp only [Act.put, List.setIfInBounds_toArray, List.set_cons_zero, List.set_cons_succ]
  refine wpAnyH_done (by kernel_rfl) ?_ _
  cases bn with
  | false =>
    cases F1 with
    | false =>
      go_wp2_with (first
      | (go_at_call 9; refine (K9 _).mono ?_; clear K9; rintro e wx ⟨rfl, hw⟩; rw [hw]; clear hw wx)
      | (go_at_call 10; refine (K10 _).mono ?_; clear K10; rintro e wx ⟨rfl, hw⟩; rw [hw]; clear hw wx)
      | (go_at_call 11; refine (K11 _).mono ?_; clear K11; rintro e w1 ⟨rfl, b1⟩; replace M := M.later b1; clear b1)
      | (go_at_call 12; refine (K12 _).mono ?_; clear K12; rintro e w1 ⟨rfl, b1⟩; replace M := M.later b1; clear b1)
      | ((with_reducible show wpList _ _ _ (Oper.mk _ (Op.binOp BinOp.neq 23 _ _ 23) _ _ _ _ :: _) _ _); refine wpList_neq (by rfl) _ _ rfl rfl rfl ?_; rw [sameX_self])
      | ((with_reducible show wpList _ _ _ (Oper.mk _ (Op.load 23 _) _ _ _ _ :: _) _ _); refine wpList_loadw M (by rfl) _ rfl rfl (by first | exact .head _ | exact .tail _ (.head _)) ?_)
      | (go_at_call 8; refine (J81 _).mono ?_; clear J81; rintro e w1 ⟨rfl, b1⟩; replace M := M.later b1; clear b1)
      | (go_at_call 8; refine (J82 _).mono ?_; clear J82; rintro e w1 ⟨rfl, b1⟩; replace M := M.later b1; clear b1)
      | (go_at_call 13; refine (awake_any _).mono ?_; rintro e w1 ⟨rfl, b1⟩; replace M := M.later b1; clear b1))
      go_ret
      exact ⟨rfl, M.below⟩
    | true =>
      cases F2 with
      | false =>
        go_wp2_with (first
      | (go_at_call 9; refine (K9 _).mono ?_; clear K9; rintro e wx ⟨rfl, hw⟩; rw [hw]; clear hw wx)
      | (go_at_call 10; refine (K10 _).mono ?_; clear K10; rintro e wx ⟨rfl, hw⟩; rw [hw]; clear hw wx)
      | (go_at_call 11; refine (K11 _).mono ?_; clear K11; rintro e w1 ⟨rfl, b1⟩; replace M := M.later b1; clear b1)
      | (go_at_call 12; refine (K12 _).mono ?_; clear K12; rintro e w1 ⟨rfl, b1⟩; replace M := M.later b1; clear b1)
      | ((with_reducible show wpList _ _ _ (Oper.mk _ (Op.binOp BinOp.neq 23 _ _ 23) _ _ _ _ :: _) _ _); refine wpList_neq (by rfl) _ _ rfl rfl rfl ?_; rw [sameX_self])
      | ((with_reducible show wpList _ _ _ (Oper.mk _ (Op.load 23 _) _ _ _ _ :: _) _ _); refine wpList_loadw M (by rfl) _ rfl rfl (by first | exact .head _ | exact .tail _ (.head _)) ?_)
      | (go_at_call 8; refine (J81 _).mono ?_; clear J81; rintro e w1 ⟨rfl, b1⟩; replace M := M.later b1; clear b1)
      | (go_at_call 8; refine (J82 _).mono ?_; clear J82; rintro e w1 ⟨rfl, b1⟩; replace M := M.later b1; clear b1)
      | (go_at_call 13; refine (awake_any _).mono ?_; rintro e w1 ⟨rfl, b1⟩; replace M := M.later b1; clear b1))
        go_ret
        exact ⟨rfl, M.below⟩
      | true =>
        go_wp2_with (first
      | (go_at_call 9; refine (K9 _).mono ?_; clear K9; rintro e wx ⟨rfl, hw⟩; rw [hw]; clear hw wx)
      | (go_at_call 10; refine (K10 _).mono ?_; clear K10; rintro e wx ⟨rfl, hw⟩; rw [hw]; clear hw wx)
      | (go_at_call 11; refine (K11 _).mono ?_; clear K11; rintro e w1 ⟨rfl, b1⟩; replace M := M.later b1; clear b1)
      | (go_at_call 12; refine (K12 _).mono ?_; clear K12; rintro e w1 ⟨rfl, b1⟩; replace M := M.later b1; clear b1)
      | ((with_reducible show wpList _ _ _ (Oper.mk _ (Op.binOp BinOp.neq 23 _ _ 23) _ _ _ _ :: _) _ _); refine wpList_neq (by rfl) _ _ rfl rfl rfl ?_; rw [sameX_self])
      | ((with_reducible show wpList _ _ _ (Oper.mk _ (Op.load 23 _) _ _ _ _ :: _) _ _); refine wpList_loadw M (by rfl) _ rfl rfl (by first | exact .head _ | exact .tail _ (.head _)) ?_)
      | (go_at_call 8; refine (J81 _).mono ?_; clear J81; rintro e w1 ⟨rfl, b1⟩; replace M := M.later b1; clear b1)
      | (go_at_call 8; refine (J82 _).mono ?_; clear J82; rintro e w1 ⟨rfl, b1⟩; replace M := M.later b1; clear b1)
      | (go_at_call 13; refine (awake_any _).mono ?_; rintro e w1 ⟨rfl, b1⟩; replace M := M.later b1; clear b1))
        have K14 := fun w => least_any h1 v1 o1 g1 h2 v2 o2 g2 w
        have K15 := fun w => rleast_any h1 v1 o1 g1 h2 v2 o2 g2 w hF1 hF2
        have K16 := fun w => great_any h1 v1 o1 g1 h2 v2 o2 g2 w
        have K17 := fun w => rgreat_any h1 v1 o1 g1 h2 v2 o2 g2 w hF1 hF2
        have K18 := fun w => old_any h1 v1 o1 g1 w hF1
        have K19 := fun w => rold_any h1 v1 o1 g1 w hF1
        obtain ⟨h4, v4, o4, g4, e4⟩ : ∃ a b c d, holdX true ⟨h1, v1, o1, g1⟩ ⟨h2, v2, o2, g2⟩ = EX.mk a b c d := ⟨_, _, _, _, rfl⟩
        simp only [e4] at K14 K15
        obtain ⟨h5, v5, o5, g5, e5⟩ : ∃ a b c d, holdX false ⟨h1, v1, o1, g1⟩ ⟨h2, v2, o2, g2⟩ = EX.mk a b c d := ⟨_, _, _, _, rfl⟩
        simp only [e5] at K16 K17
        obtain ⟨h6, v6, o6, g6, e6⟩ : ∃ a b c d, oldX ⟨h1, v1, o1, g1⟩ = EX.mk a b c d := ⟨_, _, _, _, rfl⟩
        simp only [e6] at K18 K19
        clear e4 e5 e6 hF1 hF2
        have K13 := fun w => awake_any w
        refine wp_region_any (by kernel_rfl) ?_
        change wpAny _ _ _ _ _ _ _ (World.drew _)
        replace M := M.drew
        generalize World.drew W = WD at M ⊢
        refine wpAny_narrow (fun W' => Mem w W' [(k5, ⟨h2, v2, o2, g2⟩), (k4, ⟨h1, v1, o1, g1⟩)]) _ _ _ _ ?_
        refine anyH_take 0 45 (ex h1 v1 o1 g1) rfl rfl (by kernel_rfl) (by kernel_rfl) (by kernel_rfl) (fun _ _ _ h => h) (Or.inl ⟨by rfl, fun X hSw => exec_load23 rfl rfl (hSw.get (.tail _ (.head _)))⟩) (M) ?_
        try simp only [Act.put, List.setIfInBounds_toArray, List.set_cons_zero, List.set_cons_succ]
        refine anyH_take 1 46 (ex h2 v2 o2 g2) rfl rfl (by kernel_rfl) (by kernel_rfl) (by kernel_rfl) (fun _ _ _ h => h) (Or.inl ⟨by rfl, fun X hSw => exec_load23 rfl rfl (hSw.get (.head _))⟩) (M) ?_
        try simp only [Act.put, List.setIfInBounds_toArray, List.set_cons_zero, List.set_cons_succ]
        refine anyH_take 3 48 (ex h1 v1 o1 g1) rfl rfl (by kernel_rfl) (by kernel_rfl) (by kernel_rfl) (fun _ _ _ h => h) (Or.inl ⟨by rfl, fun X hSw => exec_load23 rfl rfl (hSw.get (.tail _ (.head _)))⟩) (M) ?_
        try simp only [Act.put, List.setIfInBounds_toArray, List.set_cons_zero, List.set_cons_succ]
        refine anyH_take 4 49 (ex h2 v2 o2 g2) rfl rfl (by kernel_rfl) (by kernel_rfl) (by kernel_rfl) (fun _ _ _ h => h) (Or.inl ⟨by rfl, fun X hSw => exec_load23 rfl rfl (hSw.get (.head _))⟩) (M) ?_
        try simp only [Act.put, List.setIfInBounds_toArray, List.set_cons_zero, List.set_cons_succ]
        refine wpAnyH_ready (rs := [2]) (by kernel_rfl) (by simp) ?_
        refine AllReadyH.cons rfl (fun K hK => ?_) AllReadyH.nil
        go_simp
        go_wp2_with (go_at_call 14; refine (K14 _).mono ?_; clear K14; rintro e w1 ⟨rfl, b1⟩; replace M := M.later b1; clear b1)
        refine hK.out _ _ (M) (fun hS => ?_)
        clear hK
        refine wpAnyH_ready (rs := [5]) (by kernel_rfl) (by simp) ?_
        refine AllReadyH.cons rfl (fun K hK => ?_) AllReadyH.nil
        go_simp
        go_wp2_with (go_at_call 15; refine (K15 _).mono ?_; clear K15; rintro e w1 ⟨rfl, b1⟩; replace M := M.later b1; clear b1)
        refine hK.out _ _ (M) (fun hS => ?_)
        clear hK
        refine anyH_take 6 51 (.bool (sameX ⟨h4, v4, o4, g4⟩ ⟨h4, v4, o4, g4⟩)) rfl rfl (by kernel_rfl) (by kernel_rfl) (by kernel_rfl) (fun _ _ _ h => h) (Or.inl ⟨by rfl, fun X hSw => exec_eql23 rfl ⟨h4, v4, o4, g4⟩ ⟨h4, v4, o4, g4⟩ rfl rfl X⟩) (M) ?_
        try simp only [Act.put, List.setIfInBounds_toArray, List.set_cons_zero, List.set_cons_succ]
        rw [sameX_self]
        refine anyH_take 7 52 (.bool true) rfl rfl (by kernel_rfl) (by kernel_rfl) (by kernel_rfl) (fun _ _ _ h => h) (Or.inl ⟨by rfl, by intro w hSw; go_simp⟩) (M) ?_
        try simp only [Act.put, List.setIfInBounds_toArray, List.set_cons_zero, List.set_cons_succ]
        refine anyH_take 8 53 (ex h1 v1 o1 g1) rfl rfl (by kernel_rfl) (by kernel_rfl) (by kernel_rfl) (fun _ _ _ h => h) (Or.inl ⟨by rfl, fun X hSw => exec_load23 rfl rfl (hSw.get (.tail _ (.head _)))⟩) (M) ?_
        try simp only [Act.put, List.setIfInBounds_toArray, List.set_cons_zero, List.set_cons_succ]
        refine anyH_take 9 54 (ex h2 v2 o2 g2) rfl rfl (by kernel_rfl) (by kernel_rfl) (by kernel_rfl) (fun _ _ _ h => h) (Or.inl ⟨by rfl, fun X hSw => exec_load23 rfl rfl (hSw.get (.head _))⟩) (M) ?_
        try simp only [Act.put, List.setIfInBounds_toArray, List.set_cons_zero, List.set_cons_succ]
        refine anyH_take 11 56 (ex h1 v1 o1 g1) rfl rfl (by kernel_rfl) (by kernel_rfl) (by kernel_rfl) (fun _ _ _ h => h) (Or.inl ⟨by rfl, fun X hSw => exec_load23 rfl rfl (hSw.get (.tail _ (.head _)))⟩) (M) ?_
        try simp only [Act.put, List.setIfInBounds_toArray, List.set_cons_zero, List.set_cons_succ]
        refine anyH_take 12 57 (ex h2 v2 o2 g2) rfl rfl (by kernel_rfl) (by kernel_rfl) (by kernel_rfl) (fun _ _ _ h => h) (Or.inl ⟨by rfl, fun X hSw => exec_load23 rfl rfl (hSw.get (.head _))⟩) (M) ?_
        try simp only [Act.put, List.setIfInBounds_toArray, List.set_cons_zero, List.set_cons_succ]
        refine wpAnyH_ready (rs := [10]) (by kernel_rfl) (by simp) ?_
        refine AllReadyH.cons rfl (fun K hK => ?_) AllReadyH.nil
        go_simp
        go_wp2_with (go_at_call 16; refine (K16 _).mono ?_; clear K16; rintro e w1 ⟨rfl, b1⟩; replace M := M.later b1; clear b1)
        refine hK.out _ _ (M) (fun hS => ?_)
        clear hK
        refine wpAnyH_ready (rs := [13]) (by kernel_rfl) (by simp) ?_
        refine AllReadyH.cons rfl (fun K hK => ?_) AllReadyH.nil
        go_simp
        go_wp2_with (go_at_call 17; refine (K17 _).mono ?_; clear K17; rintro e w1 ⟨rfl, b1⟩; replace M := M.later b1; clear b1)
        refine hK.out _ _ (M) (fun hS => ?_)
        clear hK
        refine anyH_take 14 59 (.bool (sameX ⟨h5, v5, o5, g5⟩ ⟨h5, v5, o5, g5⟩)) rfl rfl (by kernel_rfl) (by kernel_rfl) (by kernel_rfl) (fun _ _ _ h => h) (Or.inl ⟨by rfl, fun X hSw => exec_eql23 rfl ⟨h5, v5, o5, g5⟩ ⟨h5, v5, o5, g5⟩ rfl rfl X⟩) (M) ?_
        try simp only [Act.put, List.setIfInBounds_toArray, List.set_cons_zero, List.set_cons_succ]
        rw [sameX_self]
        refine anyH_take 15 60 (.bool true) rfl rfl (by kernel_rfl) (by kernel_rfl) (by kernel_rfl) (fun _ _ _ h => h) (Or.inl ⟨by rfl, by intro w hSw; go_simp⟩) (M) ?_
        try simp only [Act.put, List.setIfInBounds_toArray, List.set_cons_zero, List.set_cons_succ]
        refine anyH_take 16 61 (.bool true) rfl rfl (by kernel_rfl) (by kernel_rfl) (by kernel_rfl) (fun _ _ _ h => h) (Or.inl ⟨by rfl, by intro w hSw; go_simp⟩) (M) ?_
        try simp only [Act.put, List.setIfInBounds_toArray, List.set_cons_zero, List.set_cons_succ]
        refine anyH_take 17 62 (ex h1 v1 o1 g1) rfl rfl (by kernel_rfl) (by kernel_rfl) (by kernel_rfl) (fun _ _ _ h => h) (Or.inl ⟨by rfl, fun X hSw => exec_load23 rfl rfl (hSw.get (.tail _ (.head _)))⟩) (M) ?_
        try simp only [Act.put, List.setIfInBounds_toArray, List.set_cons_zero, List.set_cons_succ]
        refine anyH_take 19 64 (ex h1 v1 o1 g1) rfl rfl (by kernel_rfl) (by kernel_rfl) (by kernel_rfl) (fun _ _ _ h => h) (Or.inl ⟨by rfl, fun X hSw => exec_load23 rfl rfl (hSw.get (.tail _ (.head _)))⟩) (M) ?_
        try simp only [Act.put, List.setIfInBounds_toArray, List.set_cons_zero, List.set_cons_succ]
        refine wpAnyH_ready (rs := [18]) (by kernel_rfl) (by simp) ?_
        refine AllReadyH.cons rfl (fun K hK => ?_) AllReadyH.nil
        go_simp
        go_wp2_with (go_at_call 18; refine (K18 _).mono ?_; clear K18; rintro e w1 ⟨rfl, b1⟩; replace M := M.later b1; clear b1)
        refine hK.out _ _ (M) (fun hS => ?_)
        clear hK
        refine wpAnyH_ready (rs := [20]) (by kernel_rfl) (by simp) ?_
        refine AllReadyH.cons rfl (fun K hK => ?_) AllReadyH.nil
        go_simp
        go_wp2_with (go_at_call 19; refine (K19 _).mono ?_; clear K19; rintro e w1 ⟨rfl, b1⟩; replace M := M.later b1; clear b1)
        refine hK.out _ _ (M) (fun hS => ?_)
        clear hK
        refine anyH_take 21 66 (.bool (sameX ⟨h6, v6, o6, g6⟩ ⟨h6, v6, o6, g6⟩)) rfl rfl (by kernel_rfl) (by kernel_rfl) (by kernel_rfl) (fun _ _ _ h => h) (Or.inl ⟨by rfl, fun X hSw => exec_eql23 rfl ⟨h6, v6, o6, g6⟩ ⟨h6, v6, o6, g6⟩ rfl rfl X⟩) (M) ?_
        try simp only [Act.put, List.setIfInBounds_toArray, List.set_cons_zero, List.set_cons_succ]
        rw [sameX_self]
        refine anyH_take 22 67 (.bool true) rfl rfl (by kernel_rfl) (by kernel_rfl) (by kernel_rfl) (fun _ _ _ h => h) (Or.inl ⟨by rfl, by intro w hSw; go_simp⟩) (M) ?_
        try simp only [Act.put, List.setIfInBounds_toArray, List.set_cons_zero, List.set_cons_succ]
        refine anyH_take 23 68 (.bool true) rfl rfl (by kernel_rfl) (by kernel_rfl) (by kernel_rfl) (fun _ _ _ h => h) (Or.inl ⟨by rfl, by intro w hSw; go_simp⟩) (M) ?_
        try simp only [Act.put, List.setIfInBounds_toArray, List.set_cons_zero, List.set_cons_succ]
        refine wpAnyH_ready (rs := [24]) (by kernel_rfl) (by simp) ?_
        refine AllReadyH.cons rfl (fun K hK => ?_) AllReadyH.nil
        go_simp
        go_wp2_with (go_at_call 13; refine (K13 _).mono ?_; clear K13; rintro e w1 ⟨rfl, b1⟩; replace M := M.later b1; clear b1)
        refine hK.out _ _ (M) (fun hS => ?_)
        clear hK
        refine anyH_take 25 70 (.bool true) rfl rfl (by kernel_rfl) (by kernel_rfl) (by kernel_rfl) (fun _ _ _ h => h) (Or.inl ⟨by rfl, by intro w hSw; go_simp⟩) (M) ?_
        try simp only [Act.put, List.setIfInBounds_toArray, List.set_cons_zero, List.set_cons_succ]
        refine anyH_take 26 8 (.bool true) rfl rfl (by kernel_rfl) (by kernel_rfl) (by kernel_rfl) (fun _ _ _ h => h) (Or.inl ⟨by rfl, by intro w hSw; go_simp⟩) (M) ?_
        try simp only [Act.put, List.setIfInBounds_toArray, List.set_cons_zero, List.set_cons_succ]
        refine wpAnyH_done (by kernel_rfl) ?_ _
        go_wp2
        go_ret
        exact ⟨rfl, M.below⟩
  | true =>
    cases bf with
    | false =>
      cases F1 with
      | false =>
        go_wp2_with (first
      | (go_at_call 9; refine (K9 _).mono ?_; clear K9; rintro e wx ⟨rfl, hw⟩; rw [hw]; clear hw wx)
      | (go_at_call 10; refine (K10 _).mono ?_; clear K10; rintro e wx ⟨rfl, hw⟩; rw [hw]; clear hw wx)
      | (go_at_call 11; refine (K11 _).mono ?_; clear K11; rintro e w1 ⟨rfl, b1⟩; replace M := M.later b1; clear b1)
      | (go_at_call 12; refine (K12 _).mono ?_; clear K12; rintro e w1 ⟨rfl, b1⟩; replace M := M.later b1; clear b1)
      | ((with_reducible show wpList _ _ _ (Oper.mk _ (Op.binOp BinOp.neq 23 _ _ 23) _ _ _ _ :: _) _ _); refine wpList_neq (by rfl) _ _ rfl rfl rfl ?_; rw [sameX_self])
      | ((with_reducible show wpList _ _ _ (Oper.mk _ (Op.load 23 _) _ _ _ _ :: _) _ _); refine wpList_loadw M (by rfl) _ rfl rfl (by first | exact .head _ | exact .tail _ (.head _)) ?_)
      | (go_at_call 8; refine (J81 _).mono ?_; clear J81; rintro e w1 ⟨rfl, b1⟩; replace M := M.later b1; clear b1)
      | (go_at_call 8; refine (J82 _).mono ?_; clear J82; rintro e w1 ⟨rfl, b1⟩; replace M := M.later b1; clear b1)
      | (go_at_call 13; refine (awake_any _).mono ?_; rintro e w1 ⟨rfl, b1⟩; replace M := M.later b1; clear b1))
        go_ret
        exact ⟨rfl, M.below⟩
      | true =>
        cases F2 with
        | false =>
          go_wp2_with (first
      | (go_at_call 9; refine (K9 _).mono ?_; clear K9; rintro e wx ⟨rfl, hw⟩; rw [hw]; clear hw wx)
      | (go_at_call 10; refine (K10 _).mono ?_; clear K10; rintro e wx ⟨rfl, hw⟩; rw [hw]; clear hw wx)
      | (go_at_call 11; refine (K11 _).mono ?_; clear K11; rintro e w1 ⟨rfl, b1⟩; replace M := M.later b1; clear b1)
      | (go_at_call 12; refine (K12 _).mono ?_; clear K12; rintro e w1 ⟨rfl, b1⟩; replace M := M.later b1; clear b1)
      | ((with_reducible show wpList _ _ _ (Oper.mk _ (Op.binOp BinOp.neq 23 _ _ 23) _ _ _ _ :: _) _ _); refine wpList_neq (by rfl) _ _ rfl rfl rfl ?_; rw [sameX_self])
      | ((with_reducible show wpList _ _ _ (Oper.mk _ (Op.load 23 _) _ _ _ _ :: _) _ _); refine wpList_loadw M (by rfl) _ rfl rfl (by first | exact .head _ | exact .tail _ (.head _)) ?_)
      | (go_at_call 8; refine (J81 _).mono ?_; clear J81; rintro e w1 ⟨rfl, b1⟩; replace M := M.later b1; clear b1)
      | (go_at_call 8; refine (J82 _).mono ?_; clear J82; rintro e w1 ⟨rfl, b1⟩; replace M := M.later b1; clear b1)
      | (go_at_call 13; refine (awake_any _).mono ?_; rintro e w1 ⟨rfl, b1⟩; replace M := M.later b1; clear b1))
          go_ret
          exact ⟨rfl, M.below⟩
        | true =>
          go_wp2_with (first
      | (go_at_call 9; refine (K9 _).mono ?_; clear K9; rintro e wx ⟨rfl, hw⟩; rw [hw]; clear hw wx)
      | (go_at_call 10; refine (K10 _).mono ?_; clear K10; rintro e wx ⟨rfl, hw⟩; rw [hw]; clear hw wx)
      | (go_at_call 11; refine (K11 _).mono ?_; clear K11; rintro e w1 ⟨rfl, b1⟩; replace M := M.later b1; clear b1)
      | (go_at_call 12; refine (K12 _).mono ?_; clear K12; rintro e w1 ⟨rfl, b1⟩; replace M := M.later b1; clear b1)
      | ((with_reducible show wpList _ _ _ (Oper.mk _ (Op.binOp BinOp.neq 23 _ _ 23) _ _ _ _ :: _) _ _); refine wpList_neq (by rfl) _ _ rfl rfl rfl ?_; rw [sameX_self])
      | ((with_reducible show wpList _ _ _ (Oper.mk _ (Op.load 23 _) _ _ _ _ :: _) _ _); refine wpList_loadw M (by rfl) _ rfl rfl (by first | exact .head _ | exact .tail _ (.head _)) ?_)
      | (go_at_call 8; refine (J81 _).mono ?_; clear J81; rintro e w1 ⟨rfl, b1⟩; replace M := M.later b1; clear b1)
      | (go_at_call 8; refine (J82 _).mono ?_; clear J82; rintro e w1 ⟨rfl, b1⟩; replace M := M.later b1; clear b1)
      | (go_at_call 13; refine (awake_any _).mono ?_; rintro e w1 ⟨rfl, b1⟩; replace M := M.later b1; clear b1))
          have K14 := fun w => least_any h1 v1 o1 g1 h2 v2 o2 g2 w
          have K15 := fun w => rleast_any h1 v1 o1 g1 h2 v2 o2 g2 w hF1 hF2
          have K16 := fun w => great_any h1 v1 o1 g1 h2 v2 o2 g2 w
          have K17 := fun w => rgreat_any h1 v1 o1 g1 h2 v2 o2 g2 w hF1 hF2
          have K18 := fun w => old_any h1 v1 o1 g1 w hF1
          have K19 := fun w => rold_any h1 v1 o1 g1 w hF1
          obtain ⟨h4, v4, o4, g4, e4⟩ : ∃ a b c d, holdX true ⟨h1, v1, o1, g1⟩ ⟨h2, v2, o2, g2⟩ = EX.mk a b c d := ⟨_, _, _, _, rfl⟩
          simp only [e4] at K14 K15
          obtain ⟨h5, v5, o5, g5, e5⟩ : ∃ a b c d, holdX false ⟨h1, v1, o1, g1⟩ ⟨h2, v2, o2, g2⟩ = EX.mk a b c d := ⟨_, _, _, _, rfl⟩
          simp only [e5] at K16 K17
          obtain ⟨h6, v6, o6, g6, e6⟩ : ∃ a b c d, oldX ⟨h1, v1, o1, g1⟩ = EX.mk a b c d := ⟨_, _, _, _, rfl⟩
          simp only [e6] at K18 K19
          clear e4 e5 e6 hF1 hF2
          have K13 := fun w => awake_any w
          refine wp_region_any (by kernel_rfl) ?_
          change wpAny _ _ _ _ _ _ _ (World.drew _)
          replace M := M.drew
          generalize World.drew W = WD at M ⊢
          refine wpAny_narrow (fun W' => Mem w W' [(k5, ⟨h2, v2, o2, g2⟩), (k4, ⟨h1, v1, o1, g1⟩)]) _ _ _ _ ?_
          refine anyH_take 0 45 (ex h1 v1 o1 g1) rfl rfl (by kernel_rfl) (by kernel_rfl) (by kernel_rfl) (fun _ _ _ h => h) (Or.inl ⟨by rfl, fun X hSw => exec_load23 rfl rfl (hSw.get (.tail _ (.head _)))⟩) (M) ?_
          try simp only [Act.put, List.setIfInBounds_toArray, List.set_cons_zero, List.set_cons_succ]
          refine anyH_take 1 46 (ex h2 v2 o2 g2) rfl rfl (by kernel_rfl) (by kernel_rfl) (by kernel_rfl) (fun _ _ _ h => h) (Or.inl ⟨by rfl, fun X hSw => exec_load23 rfl rfl (hSw.get (.head _))⟩) (M) ?_
          try simp only [Act.put, List.setIfInBounds_toArray, List.set_cons_zero, List.set_cons_succ]
          refine anyH_take 3 48 (ex h1 v1 o1 g1) rfl rfl (by kernel_rfl) (by kernel_rfl) (by kernel_rfl) (fun _ _ _ h => h) (Or.inl ⟨by rfl, fun X hSw => exec_load23 rfl rfl (hSw.get (.tail _ (.head _)))⟩) (M) ?_
          try simp only [Act.put, List.setIfInBounds_toArray, List.set_cons_zero, List.set_cons_succ]
          refine anyH_take 4 49 (ex h2 v2 o2 g2) rfl rfl (by kernel_rfl) (by kernel_rfl) (by kernel_rfl) (fun _ _ _ h => h) (Or.inl ⟨by rfl, fun X hSw => exec_load23 rfl rfl (hSw.get (.head _))⟩) (M) ?_
          try simp only [Act.put, List.setIfInBounds_toArray, List.set_cons_zero, List.set_cons_succ]
          refine wpAnyH_ready (rs := [2]) (by kernel_rfl) (by simp) ?_
          refine AllReadyH.cons rfl (fun K hK => ?_) AllReadyH.nil
          go_simp
          go_wp2_with (go_at_call 14; refine (K14 _).mono ?_; clear K14; rintro e w1 ⟨rfl, b1⟩; replace M := M.later b1; clear b1)
          refine hK.out _ _ (M) (fun hS => ?_)
          clear hK
          refine wpAnyH_ready (rs := [5]) (by kernel_rfl) (by simp) ?_
          refine AllReadyH.cons rfl (fun K hK => ?_) AllReadyH.nil
          go_simp
          go_wp2_with (go_at_call 15; refine (K15 _).mono ?_; clear K15; rintro e w1 ⟨rfl, b1⟩; replace M := M.later b1; clear b1)
          refine hK.out _ _ (M) (fun hS => ?_)
          clear hK
          refine anyH_take 6 51 (.bool (sameX ⟨h4, v4, o4, g4⟩ ⟨h4, v4, o4, g4⟩)) rfl rfl (by kernel_rfl) (by kernel_rfl) (by kernel_rfl) (fun _ _ _ h => h) (Or.inl ⟨by rfl, fun X hSw => exec_eql23 rfl ⟨h4, v4, o4, g4⟩ ⟨h4, v4, o4, g4⟩ rfl rfl X⟩) (M) ?_
          try simp only [Act.put, List.setIfInBounds_toArray, List.set_cons_zero, List.set_cons_succ]
          rw [sameX_self]
          refine anyH_take 7 52 (.bool true) rfl rfl (by kernel_rfl) (by kernel_rfl) (by kernel_rfl) (fun _ _ _ h => h) (Or.inl ⟨by rfl, by intro w hSw; go_simp⟩) (M) ?_
          try simp only [Act.put, List.setIfInBounds_toArray, List.set_cons_zero, List.set_cons_succ]
          refine anyH_take 8 53 (ex h1 v1 o1 g1) rfl rfl (by kernel_rfl) (by kernel_rfl) (by kernel_rfl) (fun _ _ _ h => h) (Or.inl ⟨by rfl, fun X hSw => exec_load23 rfl rfl (hSw.get (.tail _ (.head _)))⟩) (M) ?_
          try simp only [Act.put, List.setIfInBounds_toArray, List.set_cons_zero, List.set_cons_succ]
          refine anyH_take 9 54 (ex h2 v2 o2 g2) rfl rfl (by kernel_rfl) (by kernel_rfl) (by kernel_rfl) (fun _ _ _ h => h) (Or.inl ⟨by rfl, fun X hSw => exec_load23 rfl rfl (hSw.get (.head _))⟩) (M) ?_
          try simp only [Act.put, List.setIfInBounds_toArray, List.set_cons_zero, List.set_cons_succ]
          refine anyH_take 11 56 (ex h1 v1 o1 g1) rfl rfl (by kernel_rfl) (by kernel_rfl) (by kernel_rfl) (fun _ _ _ h => h) (Or.inl ⟨by rfl, fun X hSw => exec_load23 rfl rfl (hSw.get (.tail _ (.head _)))⟩) (M) ?_
          try simp only [Act.put, List.setIfInBounds_toArray, List.set_cons_zero, List.set_cons_succ]
          refine anyH_take 12 57 (ex h2 v2 o2 g2) rfl rfl (by kernel_rfl) (by kernel_rfl) (by kernel_rfl) (fun _ _ _ h => h) (Or.inl ⟨by rfl, fun X hSw => exec_load23 rfl rfl (hSw.get (.head _))⟩) (M) ?_
          try simp only [Act.put, List.setIfInBounds_toArray, List.set_cons_zero, List.set_cons_succ]
          refine wpAnyH_ready (rs := [10]) (by kernel_rfl) (by simp) ?_
          refine AllReadyH.cons rfl (fun K hK => ?_) AllReadyH.nil
          go_simp
          go_wp2_with (go_at_call 16; refine (K16 _).mono ?_; clear K16; rintro e w1 ⟨rfl, b1⟩; replace M := M.later b1; clear b1)
          refine hK.out _ _ (M) (fun hS => ?_)
          clear hK
          refine wpAnyH_ready (rs := [13]) (by kernel_rfl) (by simp) ?_
          refine AllReadyH.cons rfl (fun K hK => ?_) AllReadyH.nil
          go_simp
          go_wp2_with (go_at_call 17; refine (K17 _).mono ?_; clear K17; rintro e w1 ⟨rfl, b1⟩; replace M := M.later b1; clear b1)
          refine hK.out _ _ (M) (fun hS => ?_)
          clear hK
          refine anyH_take 14 59 (.bool (sameX ⟨h5, v5, o5, g5⟩ ⟨h5, v5, o5, g5⟩)) rfl rfl (by kernel_rfl) (by kernel_rfl) (by kernel_rfl) (fun _ _ _ h => h) (Or.inl ⟨by rfl, fun X hSw => exec_eql23 rfl ⟨h5, v5, o5, g5⟩ ⟨h5, v5, o5, g5⟩ rfl rfl X⟩) (M) ?_
          try simp only [Act.put, List.setIfInBounds_toArray, List.set_cons_zero, List.set_cons_succ]
          rw [sameX_self]
          refine anyH_take 15 60 (.bool true) rfl rfl (by kernel_rfl) (by kernel_rfl) (by kernel_rfl) (fun _ _ _ h => h) (Or.inl ⟨by rfl, by intro w hSw; go_simp⟩) (M) ?_
          try simp only [Act.put, List.setIfInBounds_toArray, List.set_cons_zero, List.set_cons_succ]
          refine anyH_take 16 61 (.bool true) rfl rfl (by kernel_rfl) (by kernel_rfl) (by kernel_rfl) (fun _ _ _ h => h) (Or.inl ⟨by rfl, by intro w hSw; go_simp⟩) (M) ?_
          try simp only [Act.put, List.setIfInBounds_toArray, List.set_cons_zero, List.set_cons_succ]
          refine anyH_take 17 62 (ex h1 v1 o1 g1) rfl rfl (by kernel_rfl) (by kernel_rfl) (by kernel_rfl) (fun _ _ _ h => h) (Or.inl ⟨by rfl, fun X hSw => exec_load23 rfl rfl (hSw.get (.tail _ (.head _)))⟩) (M) ?_
          try simp only [Act.put, List.setIfInBounds_toArray, List.set_cons_zero, List.set_cons_succ]
          refine anyH_take 19 64 (ex h1 v1 o1 g1) rfl rfl (by kernel_rfl) (by kernel_rfl) (by kernel_rfl) (fun _ _ _ h => h) (Or.inl ⟨by rfl, fun X hSw => exec_load23 rfl rfl (hSw.get (.tail _ (.head _)))⟩) (M) ?_
          try simp only [Act.put, List.setIfInBounds_toArray, List.set_cons_zero, List.set_cons_succ]
          refine wpAnyH_ready (rs := [18]) (by kernel_rfl) (by simp) ?_
          refine AllReadyH.cons rfl (fun K hK => ?_) AllReadyH.nil
          go_simp
          go_wp2_with (go_at_call 18; refine (K18 _).mono ?_; clear K18; rintro e w1 ⟨rfl, b1⟩; replace M := M.later b1; clear b1)
          refine hK.out _ _ (M) (fun hS => ?_)
          clear hK
          refine wpAnyH_ready (rs := [20]) (by kernel_rfl) (by simp) ?_
          refine AllReadyH.cons rfl (fun K hK => ?_) AllReadyH.nil
          go_simp
          go_wp2_with (go_at_call 19; refine (K19 _).mono ?_; clear K19; rintro e w1 ⟨rfl, b1⟩; replace M := M.later b1; clear b1)
          refine hK.out _ _ (M) (fun hS => ?_)
          clear hK
          refine anyH_take 21 66 (.bool (sameX ⟨h6, v6, o6, g6⟩ ⟨h6, v6, o6, g6⟩)) rfl rfl (by kernel_rfl) (by kernel_rfl) (by kernel_rfl) (fun _ _ _ h => h) (Or.inl ⟨by rfl, fun X hSw => exec_eql23 rfl ⟨h6, v6, o6, g6⟩ ⟨h6, v6, o6, g6⟩ rfl rfl X⟩) (M) ?_
          try simp only [Act.put, List.setIfInBounds_toArray, List.set_cons_zero, List.set_cons_succ]
          rw [sameX_self]
          refine anyH_take 22 67 (.bool true) rfl rfl (by kernel_rfl) (by kernel_rfl) (by kernel_rfl) (fun _ _ _ h => h) (Or.inl ⟨by rfl, by intro w hSw; go_simp⟩) (M) ?_
          try simp only [Act.put, List.setIfInBounds_toArray, List.set_cons_zero, List.set_cons_succ]
          refine anyH_take 23 68 (.bool true) rfl rfl (by kernel_rfl) (by kernel_rfl) (by kernel_rfl) (fun _ _ _ h => h) (Or.inl ⟨by rfl, by intro w hSw; go_simp⟩) (M) ?_
          try simp only [Act.put, List.setIfInBounds_toArray, List.set_cons_zero, List.set_cons_succ]
          refine wpAnyH_ready (rs := [24]) (by kernel_rfl) (by simp) ?_
          refine AllReadyH.cons rfl (fun K hK => ?_) AllReadyH.nil
          go_simp
          go_wp2_with (go_at_call 13; refine (K13 _).mono ?_; clear K13; rintro e w1 ⟨rfl, b1⟩; replace M := M.later b1; clear b1)
          refine hK.out _ _ (M) (fun hS => ?_)
          clear hK
          refine anyH_take 25 70 (.bool true) rfl rfl (by kernel_rfl) (by kernel_rfl) (by kernel_rfl) (fun _ _ _ h => h) (Or.inl ⟨by rfl, by intro w hSw; go_simp⟩) (M) ?_
          try simp only [Act.put, List.setIfInBounds_toArray, List.set_cons_zero, List.set_cons_succ]
          refine anyH_take 26 8 (.bool true) rfl rfl (by kernel_rfl) (by kernel_rfl) (by kernel_rfl) (fun _ _ _ h => h) (Or.inl ⟨by rfl, by intro w hSw; go_simp⟩) (M) ?_
          try simp only [Act.put, List.setIfInBounds_toArray, List.set_cons_zero, List.set_cons_succ]
          refine wpAnyH_done (by kernel_rfl) ?_ _
          go_wp2
          go_ret
          exact ⟨rfl, M.below⟩
    | true =>
      cases F1 with
      | false =>
        go_wp2_with (first
      | (go_at_call 9; refine (K9 _).mono ?_; clear K9; rintro e wx ⟨rfl, hw⟩; rw [hw]; clear hw wx)
      | (go_at_call 10; refine (K10 _).mono ?_; clear K10; rintro e wx ⟨rfl, hw⟩; rw [hw]; clear hw wx)
      | (go_at_call 11; refine (K11 _).mono ?_; clear K11; rintro e w1 ⟨rfl, b1⟩; replace M := M.later b1; clear b1)
      | (go_at_call 12; refine (K12 _).mono ?_; clear K12; rintro e w1 ⟨rfl, b1⟩; replace M := M.later b1; clear b1)
      | ((with_reducible show wpList _ _ _ (Oper.mk _ (Op.binOp BinOp.neq 23 _ _ 23) _ _ _ _ :: _) _ _); refine wpList_neq (by rfl) _ _ rfl rfl rfl ?_; rw [sameX_self])
      | ((with_reducible show wpList _ _ _ (Oper.mk _ (Op.load 23 _) _ _ _ _ :: _) _ _); refine wpList_loadw M (by rfl) _ rfl rfl (by first | exact .head _ | exact .tail _ (.head _)) ?_)
      | (go_at_call 8; refine (J81 _).mono ?_; clear J81; rintro e w1 ⟨rfl, b1⟩; replace M := M.later b1; clear b1)
      | (go_at_call 8; refine (J82 _).mono ?_; clear J82; rintro e w1 ⟨rfl, b1⟩; replace M := M.later b1; clear b1)
      | (go_at_call 13; refine (awake_any _).mono ?_; rintro e w1 ⟨rfl, b1⟩; replace M := M.later b1; clear b1))
        go_ret
        exact ⟨rfl, M.below⟩
      | true =>
        cases F2 with
        | false =>
          go_wp2_with (first
      | (go_at_call 9; refine (K9 _).mono ?_; clear K9; rintro e wx ⟨rfl, hw⟩; rw [hw]; clear hw wx)
      | (go_at_call 10; refine (K10 _).mono ?_; clear K10; rintro e wx ⟨rfl, hw⟩; rw [hw]; clear hw wx)
      | (go_at_call 11; refine (K11 _).mono ?_; clear K11; rintro e w1 ⟨rfl, b1⟩; replace M := M.later b1; clear b1)
      | (go_at_call 12; refine (K12 _).mono ?_; clear K12; rintro e w1 ⟨rfl, b1⟩; replace M := M.later b1; clear b1)
      | ((with_reducible show wpList _ _ _ (Oper.mk _ (Op.binOp BinOp.neq 23 _ _ 23) _ _ _ _ :: _) _ _); refine wpList_neq (by rfl) _ _ rfl rfl rfl ?_; rw [sameX_self])
      | ((with_reducible show wpList _ _ _ (Oper.mk _ (Op.load 23 _) _ _ _ _ :: _) _ _); refine wpList_loadw M (by rfl) _ rfl rfl (by first | exact .head _ | exact .tail _ (.head _)) ?_)
      | (go_at_call 8; refine (J81 _).mono ?_; clear J81; rintro e w1 ⟨rfl, b1⟩; replace M := M.later b1; clear b1)
      | (go_at_call 8; refine (J82 _).mono ?_; clear J82; rintro e w1 ⟨rfl, b1⟩; replace M := M.later b1; clear b1)
      | (go_at_call 13; refine (awake_any _).mono ?_; rintro e w1 ⟨rfl, b1⟩; replace M := M.later b1; clear b1))
          go_ret
          exact ⟨rfl, M.below⟩
        | true =>
          go_wp2_with (first
      | (go_at_call 9; refine (K9 _).mono ?_; clear K9; rintro e wx ⟨rfl, hw⟩; rw [hw]; clear hw wx)
      | (go_at_call 10; refine (K10 _).mono ?_; clear K10; rintro e wx ⟨rfl, hw⟩; rw [hw]; clear hw wx)
      | (go_at_call 11; refine (K11 _).mono ?_; clear K11; rintro e w1 ⟨rfl, b1⟩; replace M := M.later b1; clear b1)
      | (go_at_call 12; refine (K12 _).mono ?_; clear K12; rintro e w1 ⟨rfl, b1⟩; replace M := M.later b1; clear b1)
      | ((with_reducible show wpList _ _ _ (Oper.mk _ (Op.binOp BinOp.neq 23 _ _ 23) _ _ _ _ :: _) _ _); refine wpList_neq (by rfl) _ _ rfl rfl rfl ?_; rw [sameX_self])
      | ((with_reducible show wpList _ _ _ (Oper.mk _ (Op.load 23 _) _ _ _ _ :: _) _ _); refine wpList_loadw M (by rfl) _ rfl rfl (by first | exact .head _ | exact .tail _ (.head _)) ?_)
      | (go_at_call 8; refine (J81 _).mono ?_; clear J81; rintro e w1 ⟨rfl, b1⟩; replace M := M.later b1; clear b1)
      | (go_at_call 8; refine (J82 _).mono ?_; clear J82; rintro e w1 ⟨rfl, b1⟩; replace M := M.later b1; clear b1)
      | (go_at_call 13; refine (awake_any _).mono ?_; rintro e w1 ⟨rfl, b1⟩; replace M := M.later b1; clear b1))
          have K14 := fun w => least_any h1 v1 o1 g1 h2 v2 o2 g2 w
          have K15 := fun w => rleast_any h1 v1 o1 g1 h2 v2 o2 g2 w hF1 hF2
          have K16 := fun w => great_any h1 v1 o1 g1 h2 v2 o2 g2 w
          have K17 := fun w => rgreat_any h1 v1 o1 g1 h2 v2 o2 g2 w hF1 hF2
          have K18 := fun w => old_any h1 v1 o1 g1 w hF1
          have K19 := fun w => rold_any h1 v1 o1 g1 w hF1
          obtain ⟨h4, v4, o4, g4, e4⟩ : ∃ a b c d, holdX true ⟨h1, v1, o1, g1⟩ ⟨h2, v2, o2, g2⟩ = EX.mk a b c d := ⟨_, _, _, _, rfl⟩
          simp only [e4] at K14 K15
          obtain ⟨h5, v5, o5, g5, e5⟩ : ∃ a b c d, holdX false ⟨h1, v1, o1, g1⟩ ⟨h2, v2, o2, g2⟩ = EX.mk a b c d := ⟨_, _, _, _, rfl⟩
          simp only [e5] at K16 K17
          obtain ⟨h6, v6, o6, g6, e6⟩ : ∃ a b c d, oldX ⟨h1, v1, o1, g1⟩ = EX.mk a b c d := ⟨_, _, _, _, rfl⟩
          simp only [e6] at K18 K19
          clear e4 e5 e6 hF1 hF2
          have K13 := fun w => awake_any w
          refine wp_region_any (by kernel_rfl) ?_
          change wpAny _ _ _ _ _ _ _ (World.drew _)
          replace M := M.drew
          generalize World.drew W = WD at M ⊢
          refine wpAny_narrow (fun W' => Mem w W' [(k5, ⟨h2, v2, o2, g2⟩), (k4, ⟨h1, v1, o1, g1⟩)]) _ _ _ _ ?_
          refine anyH_take 0 45 (ex h1 v1 o1 g1) rfl rfl (by kernel_rfl) (by kernel_rfl) (by kernel_rfl) (fun _ _ _ h => h) (Or.inl ⟨by rfl, fun X hSw => exec_load23 rfl rfl (hSw.get (.tail _ (.head _)))⟩) (M) ?_
          try simp only [Act.put, List.setIfInBounds_toArray, List.set_cons_zero, List.set_cons_succ]
          refine anyH_take 1 46 (ex h2 v2 o2 g2) rfl rfl (by kernel_rfl) (by kernel_rfl) (by kernel_rfl) (fun _ _ _ h => h) (Or.inl ⟨by rfl, fun X hSw => exec_load23 rfl rfl (hSw.get (.head _))⟩) (M) ?_
          try simp only [Act.put, List.setIfInBounds_toArray, List.set_cons_zero, List.set_cons_succ]
          refine anyH_take 3 48 (ex h1 v1 o1 g1) rfl rfl (by kernel_rfl) (by kernel_rfl) (by kernel_rfl) (fun _ _ _ h => h) (Or.inl ⟨by rfl, fun X hSw => exec_load23 rfl rfl (hSw.get (.tail _ (.head _)))⟩) (M) ?_
          try simp only [Act.put, List.setIfInBounds_toArray, List.set_cons_zero, List.set_cons_succ]
          refine anyH_take 4 49 (ex h2 v2 o2 g2) rfl rfl (by kernel_rfl) (by kernel_rfl) (by kernel_rfl) (fun _ _ _ h => h) (Or.inl ⟨by rfl, fun X hSw => exec_load23 rfl rfl (hSw.get (.head _))⟩) (M) ?_
          try simp only [Act.put, List.setIfInBounds_toArray, List.set_cons_zero, List.set_cons_succ]
          refine wpAnyH_ready (rs := [2]) (by kernel_rfl) (by simp) ?_
          refine AllReadyH.cons rfl (fun K hK => ?_) AllReadyH.nil
          go_simp
          go_wp2_with (go_at_call 14; refine (K14 _).mono ?_; clear K14; rintro e w1 ⟨rfl, b1⟩; replace M := M.later b1; clear b1)
          refine hK.out _ _ (M) (fun hS => ?_)
          clear hK
          refine wpAnyH_ready (rs := [5]) (by kernel_rfl) (by simp) ?_
          refine AllReadyH.cons rfl (fun K hK => ?_) AllReadyH.nil
          go_simp
          go_wp2_with (go_at_call 15; refine (K15 _).mono ?_; clear K15; rintro e w1 ⟨rfl, b1⟩; replace M := M.later b1; clear b1)
          refine hK.out _ _ (M) (fun hS => ?_)
          clear hK
          refine anyH_take 6 51 (.bool (sameX ⟨h4, v4, o4, g4⟩ ⟨h4, v4, o4, g4⟩)) rfl rfl (by kernel_rfl) (by kernel_rfl) (by kernel_rfl) (fun _ _ _ h => h) (Or.inl ⟨by rfl, fun X hSw => exec_eql23 rfl ⟨h4, v4, o4, g4⟩ ⟨h4, v4, o4, g4⟩ rfl rfl X⟩) (M) ?_
          try simp only [Act.put, List.setIfInBounds_toArray, List.set_cons_zero, List.set_cons_succ]
          rw [sameX_self]
          refine anyH_take 7 52 (.bool true) rfl rfl (by kernel_rfl) (by kernel_rfl) (by kernel_rfl) (fun _ _ _ h => h) (Or.inl ⟨by rfl, by intro w hSw; go_simp⟩) (M) ?_
          try simp only [Act.put, List.setIfInBounds_toArray, List.set_cons_zero, List.set_cons_succ]
          refine anyH_take 8 53 (ex h1 v1 o1 g1) rfl rfl (by kernel_rfl) (by kernel_rfl) (by kernel_rfl) (fun _ _ _ h => h) (Or.inl ⟨by rfl, fun X hSw => exec_load23 rfl rfl (hSw.get (.tail _ (.head _)))⟩) (M) ?_
          try simp only [Act.put, List.setIfInBounds_toArray, List.set_cons_zero, List.set_cons_succ]
          refine anyH_take 9 54 (ex h2 v2 o2 g2) rfl rfl (by kernel_rfl) (by kernel_rfl) (by kernel_rfl) (fun _ _ _ h => h) (Or.inl ⟨by rfl, fun X hSw => exec_load23 rfl rfl (hSw.get (.head _))⟩) (M) ?_
          try simp only [Act.put, List.setIfInBounds_toArray, List.set_cons_zero, List.set_cons_succ]
          refine anyH_take 11 56 (ex h1 v1 o1 g1) rfl rfl (by kernel_rfl) (by kernel_rfl) (by kernel_rfl) (fun _ _ _ h => h) (Or.inl ⟨by rfl, fun X hSw => exec_load23 rfl rfl (hSw.get (.tail _ (.head _)))⟩) (M) ?_
          try simp only [Act.put, List.setIfInBounds_toArray, List.set_cons_zero, List.set_cons_succ]
          refine anyH_take 12 57 (ex h2 v2 o2 g2) rfl rfl (by kernel_rfl) (by kernel_rfl) (by kernel_rfl) (fun _ _ _ h => h) (Or.inl ⟨by rfl, fun X hSw => exec_load23 rfl rfl (hSw.get (.head _))⟩) (M) ?_
          try simp only [Act.put, List.setIfInBounds_toArray, List.set_cons_zero, List.set_cons_succ]
          refine wpAnyH_ready (rs := [10]) (by kernel_rfl) (by simp) ?_
          refine AllReadyH.cons rfl (fun K hK => ?_) AllReadyH.nil
          go_simp
          go_wp2_with (go_at_call 16; refine (K16 _).mono ?_; clear K16; rintro e w1 ⟨rfl, b1⟩; replace M := M.later b1; clear b1)
          refine hK.out _ _ (M) (fun hS => ?_)
          clear hK
          refine wpAnyH_ready (rs := [13]) (by kernel_rfl) (by simp) ?_
          refine AllReadyH.cons rfl (fun K hK => ?_) AllReadyH.nil
          go_simp
          go_wp2_with (go_at_call 17; refine (K17 _).mono ?_; clear K17; rintro e w1 ⟨rfl, b1⟩; replace M := M.later b1; clear b1)
          refine hK.out _ _ (M) (fun hS => ?_)
          clear hK
          refine anyH_take 14 59 (.bool (sameX ⟨h5, v5, o5, g5⟩ ⟨h5, v5, o5, g5⟩)) rfl rfl (by kernel_rfl) (by kernel_rfl) (by kernel_rfl) (fun _ _ _ h => h) (Or.inl ⟨by rfl, fun X hSw => exec_eql23 rfl ⟨h5, v5, o5, g5⟩ ⟨h5, v5, o5, g5⟩ rfl rfl X⟩) (M) ?_
          try simp only [Act.put, List.setIfInBounds_toArray, List.set_cons_zero, List.set_cons_succ]
          rw [sameX_self]
          refine anyH_take 15 60 (.bool true) rfl rfl (by kernel_rfl) (by kernel_rfl) (by kernel_rfl) (fun _ _ _ h => h) (Or.inl ⟨by rfl, by intro w hSw; go_simp⟩) (M) ?_
          try simp only [Act.put, List.setIfInBounds_toArray, List.set_cons_zero, List.set_cons_succ]
          refine anyH_take 16 61 (.bool true) rfl rfl (by kernel_rfl) (by kernel_rfl) (by kernel_rfl) (fun _ _ _ h => h) (Or.inl ⟨by rfl, by intro w hSw; go_simp⟩) (M) ?_
          try simp only [Act.put, List.setIfInBounds_toArray, List.set_cons_zero, List.set_cons_succ]
          refine anyH_take 17 62 (ex h1 v1 o1 g1) rfl rfl (by kernel_rfl) (by kernel_rfl) (by kernel_rfl) (fun _ _ _ h => h) (Or.inl ⟨by rfl, fun X hSw => exec_load23 rfl rfl (hSw.get (.tail _ (.head _)))⟩) (M) ?_
          try simp only [Act.put, List.setIfInBounds_toArray, List.set_cons_zero, List.set_cons_succ]
          refine anyH_take 19 64 (ex h1 v1 o1 g1) rfl rfl (by kernel_rfl) (by kernel_rfl) (by kernel_rfl) (fun _ _ _ h => h) (Or.inl ⟨by rfl, fun X hSw => exec_load23 rfl rfl (hSw.get (.tail _ (.head _)))⟩) (M) ?_
          try simp only [Act.put, List.setIfInBounds_toArray, List.set_cons_zero, List.set_cons_succ]
          refine wpAnyH_ready (rs := [18]) (by kernel_rfl) (by simp) ?_
          refine AllReadyH.cons rfl (fun K hK => ?_) AllReadyH.nil
          go_simp
          go_wp2_with (go_at_call 18; refine (K18 _).mono ?_; clear K18; rintro e w1 ⟨rfl, b1⟩; replace M := M.later b1; clear b1)
          refine hK.out _ _ (M) (fun hS => ?_)
          clear hK
          refine wpAnyH_ready (rs := [20]) (by kernel_rfl) (by simp) ?_
          refine AllReadyH.cons rfl (fun K hK => ?_) AllReadyH.nil
          go_simp
          go_wp2_with (go_at_call 19; refine (K19 _).mono ?_; clear K19; rintro e w1 ⟨rfl, b1⟩; replace M := M.later b1; clear b1)
          refine hK.out _ _ (M) (fun hS => ?_)
          clear hK
          refine anyH_take 21 66 (.bool (sameX ⟨h6, v6, o6, g6⟩ ⟨h6, v6, o6, g6⟩)) rfl rfl (by kernel_rfl) (by kernel_rfl) (by kernel_rfl) (fun _ _ _ h => h) (Or.inl ⟨by rfl, fun X hSw => exec_eql23 rfl ⟨h6, v6, o6, g6⟩ ⟨h6, v6, o6, g6⟩ rfl rfl X⟩) (M) ?_
          try simp only [Act.put, List.setIfInBounds_toArray, List.set_cons_zero, List.set_cons_succ]
          rw [sameX_self]
          refine anyH_take 22 67 (.bool true) rfl rfl (by kernel_rfl) (by kernel_rfl) (by kernel_rfl) (fun _ _ _ h => h) (Or.inl ⟨by rfl, by intro w hSw; go_simp⟩) (M) ?_
          try simp only [Act.put, List.setIfInBounds_toArray, List.set_cons_zero, List.set_cons_succ]
          refine anyH_take 23 68 (.bool true) rfl rfl (by kernel_rfl) (by kernel_rfl) (by kernel_rfl) (fun _ _ _ h => h) (Or.inl ⟨by rfl, by intro w hSw; go_simp⟩) (M) ?_
          try simp only [Act.put, List.setIfInBounds_toArray, List.set_cons_zero, List.set_cons_succ]
          refine wpAnyH_ready (rs := [24]) (by kernel_rfl) (by simp) ?_
          refine AllReadyH.cons rfl (fun K hK => ?_) AllReadyH.nil
          go_simp
          go_wp2_with (go_at_call 13; refine (K13 _).mono ?_; clear K13; rintro e w1 ⟨rfl, b1⟩; replace M := M.later b1; clear b1)
          refine hK.out _ _ (M) (fun hS => ?_)
          clear hK
          refine anyH_take 25 70 (.bool true) rfl rfl (by kernel_rfl) (by kernel_rfl) (by kernel_rfl) (fun _ _ _ h => h) (Or.inl ⟨by rfl, by intro w hSw; go_simp⟩) (M) ?_
          try simp only [Act.put, List.setIfInBounds_toArray, List.set_cons_zero, List.set_cons_succ]
          refine anyH_take 26 8 (.bool true) rfl rfl (by kernel_rfl) (by kernel_rfl) (by kernel_rfl) (fun _ _ _ h => h) (Or.inl ⟨by rfl, by intro w hSw; go_simp⟩) (M) ?_
          try simp only [Act.put, List.setIfInBounds_toArray, List.set_cons_zero, List.set_cons_succ]
          refine wpAnyH_done (by kernel_rfl) ?_ _
          go_wp2
          go_ret
          exact ⟨rfl, M.below⟩
end Go.Proofs.Ytnnapooochfnhaa
