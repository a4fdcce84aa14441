/-
  What the law ExtOrder returns.
-/
import Derived.Test.YtnnapooochfnhaaX7
import Derived.Test.YtnnapooochfnhaaX8
import Derived.Test.YtnnapooochfnhaaX9
namespace Go.Proofs.Ytnnapooochfnhaa
open Go.ChangeShapes Go.WideShapes Go.ChangeAt Go.RowKit
set_option linter.unusedVariables false
set_option linter.unusedSimpArgs false

set_option maxRecDepth 100000 in
set_option maxHeartbeats 8000000 in
theorem order_walk (h1 : Bool) (v1 o1 g1 : Int) (h2 : Bool) (v2 o2 g2 : Int) (h3 : Bool) (v3 o3 g3 : Int) (w : World) : Calls Try.prog 5 #[ex h1 v1 o1 g1, ex h2 v2 o2 g2, ex h3 v3 o3 g3] w fun e w' => e = .returned (.bool true) ∧ Below w.heap.size w w' := by
  have M := Mem.nil w
  have K81 := fun w => rfit_any h1 v1 o1 g1 w
  obtain ⟨F1, hF1⟩ : ∃ F, fitB ⟨h1, v1, o1, g1⟩ = F := ⟨_, rfl⟩
  simp only [hF1] at K81
  have K82 := fun w => rfit_any h2 v2 o2 g2 w
  obtain ⟨F2, hF2⟩ : ∃ F, fitB ⟨h2, v2, o2, g2⟩ = F := ⟨_, rfl⟩
  simp only [hF2] at K82
  have K83 := fun w => rfit_any h3 v3 o3 g3 w
  obtain ⟨F3, hF3⟩ : ∃ F, fitB ⟨h3, v3, o3, g3⟩ = F := ⟨_, rfl⟩
  simp only [hF3] at K83
  cases F1 with
  | false =>
    go_enter Try.func5, Try.ntmps5
    go_wp2_with (first
      | ((with_reducible show wpList _ _ _ (Oper.mk (some 3) (Op.box 23 _) _ _ _ _ :: _) _ _); refine wpList_box M rfl _ rfl _ _ _ _ rfl ?_; clear M; intro k3 W M; skip)
      | ((with_reducible show wpList _ _ _ (Oper.mk (some 4) (Op.box 23 _) _ _ _ _ :: _) _ _); refine wpList_box M rfl _ rfl _ _ _ _ rfl ?_; clear M; intro k4 W M; skip)
      | ((with_reducible show wpList _ _ _ (Oper.mk (some 5) (Op.box 23 _) _ _ _ _ :: _) _ _); refine wpList_box M rfl _ rfl _ _ _ _ rfl ?_; clear M; intro k5 W M; skip)
      | ((with_reducible show wpList _ _ _ (Oper.mk _ (Op.load 23 _) _ _ _ _ :: _) _ _); refine wpList_loadw M (by rfl) _ rfl rfl (by first | exact .head _ | exact .tail _ (.head _) | exact .tail _ (.tail _ (.head _))) ?_)
      | (go_at_call 8; refine (K81 _).mono ?_; clear K81; rintro e w1 ⟨rfl, b1⟩; replace M := M.later b1; clear b1)
      | (go_at_call 8; refine (K82 _).mono ?_; clear K82; rintro e w1 ⟨rfl, b1⟩; replace M := M.later b1; clear b1)
      | (go_at_call 8; refine (K83 _).mono ?_; clear K83; rintro e w1 ⟨rfl, b1⟩; replace M := M.later b1; clear b1)
      | (go_at_call 13; refine (awake_any _).mono ?_; rintro e w1 ⟨rfl, b1⟩; replace M := M.later b1; clear b1))
    go_ret
    exact ⟨rfl, M.below⟩
  | true =>
    cases F2 with
    | false =>
      go_enter Try.func5, Try.ntmps5
      go_wp2_with (first
      | ((with_reducible show wpList _ _ _ (Oper.mk (some 3) (Op.box 23 _) _ _ _ _ :: _) _ _); refine wpList_box M rfl _ rfl _ _ _ _ rfl ?_; clear M; intro k3 W M; skip)
      | ((with_reducible show wpList _ _ _ (Oper.mk (some 4) (Op.box 23 _) _ _ _ _ :: _) _ _); refine wpList_box M rfl _ rfl _ _ _ _ rfl ?_; clear M; intro k4 W M; skip)
      | ((with_reducible show wpList _ _ _ (Oper.mk (some 5) (Op.box 23 _) _ _ _ _ :: _) _ _); refine wpList_box M rfl _ rfl _ _ _ _ rfl ?_; clear M; intro k5 W M; skip)
      | ((with_reducible show wpList _ _ _ (Oper.mk _ (Op.load 23 _) _ _ _ _ :: _) _ _); refine wpList_loadw M (by rfl) _ rfl rfl (by first | exact .head _ | exact .tail _ (.head _) | exact .tail _ (.tail _ (.head _))) ?_)
      | (go_at_call 8; refine (K81 _).mono ?_; clear K81; rintro e w1 ⟨rfl, b1⟩; replace M := M.later b1; clear b1)
      | (go_at_call 8; refine (K82 _).mono ?_; clear K82; rintro e w1 ⟨rfl, b1⟩; replace M := M.later b1; clear b1)
      | (go_at_call 8; refine (K83 _).mono ?_; clear K83; rintro e w1 ⟨rfl, b1⟩; replace M := M.later b1; clear b1)
      | (go_at_call 13; refine (awake_any _).mono ?_; rintro e w1 ⟨rfl, b1⟩; replace M := M.later b1; clear b1))
      go_ret
      exact ⟨rfl, M.below⟩
    | true =>
      cases F3 with
      | false =>
        go_enter Try.func5, Try.ntmps5
        go_wp2_with (first
      | ((with_reducible show wpList _ _ _ (Oper.mk (some 3) (Op.box 23 _) _ _ _ _ :: _) _ _); refine wpList_box M rfl _ rfl _ _ _ _ rfl ?_; clear M; intro k3 W M; skip)
      | ((with_reducible show wpList _ _ _ (Oper.mk (some 4) (Op.box 23 _) _ _ _ _ :: _) _ _); refine wpList_box M rfl _ rfl _ _ _ _ rfl ?_; clear M; intro k4 W M; skip)
      | ((with_reducible show wpList _ _ _ (Oper.mk (some 5) (Op.box 23 _) _ _ _ _ :: _) _ _); refine wpList_box M rfl _ rfl _ _ _ _ rfl ?_; clear M; intro k5 W M; skip)
      | ((with_reducible show wpList _ _ _ (Oper.mk _ (Op.load 23 _) _ _ _ _ :: _) _ _); refine wpList_loadw M (by rfl) _ rfl rfl (by first | exact .head _ | exact .tail _ (.head _) | exact .tail _ (.tail _ (.head _))) ?_)
      | (go_at_call 8; refine (K81 _).mono ?_; clear K81; rintro e w1 ⟨rfl, b1⟩; replace M := M.later b1; clear b1)
      | (go_at_call 8; refine (K82 _).mono ?_; clear K82; rintro e w1 ⟨rfl, b1⟩; replace M := M.later b1; clear b1)
      | (go_at_call 8; refine (K83 _).mono ?_; clear K83; rintro e w1 ⟨rfl, b1⟩; replace M := M.later b1; clear b1)
      | (go_at_call 13; refine (awake_any _).mono ?_; rintro e w1 ⟨rfl, b1⟩; replace M := M.later b1; clear b1))
        go_ret
        exact ⟨rfl, M.below⟩
      | true =>
        have L1 := fun w => least_any h1 v1 o1 g1 h2 v2 o2 g2 w
        have L2 := fun w => least_any h2 v2 o2 g2 h1 v1 o1 g1 w
        have L5 := fun w => least_any h1 v1 o1 g1 h2 v2 o2 g2 w
        have Lc := hold_comm true hF1 hF2
        have La := hold_assoc true hF1 hF2 hF3
        rw [← Lc] at L2
        obtain ⟨h4, v4, o4, g4, e4⟩ : ∃ a b c d, holdX true ⟨h1, v1, o1, g1⟩ ⟨h2, v2, o2, g2⟩ = EX.mk a b c d := ⟨_, _, _, _, rfl⟩
        simp only [e4] at L1 L2 L5 La
        have L6 := fun w => least_any h2 v2 o2 g2 h3 v3 o3 g3 w
        have L7 := fun w => least_any h4 v4 o4 g4 h3 v3 o3 g3 w
        obtain ⟨h5, v5, o5, g5, e5⟩ : ∃ a b c d, holdX true ⟨h2, v2, o2, g2⟩ ⟨h3, v3, o3, g3⟩ = EX.mk a b c d := ⟨_, _, _, _, rfl⟩
        simp only [e5] at L6 La
        have L8 := fun w => least_any h1 v1 o1 g1 h5 v5 o5 g5 w
        rw [← La] at L8
        obtain ⟨h6, v6, o6, g6, e6⟩ : ∃ a b c d, holdX true ⟨h4, v4, o4, g4⟩ ⟨h3, v3, o3, g3⟩ = EX.mk a b c d := ⟨_, _, _, _, rfl⟩
        simp only [e6] at L7 L8
        clear La Lc e4 e5 e6
        have G1 := fun w => great_any h1 v1 o1 g1 h2 v2 o2 g2 w
        have G2 := fun w => great_any h2 v2 o2 g2 h1 v1 o1 g1 w
        have G5 := fun w => great_any h1 v1 o1 g1 h2 v2 o2 g2 w
        have Gc := hold_comm false hF1 hF2
        have Ga := hold_assoc false hF1 hF2 hF3
        rw [← Gc] at G2
        obtain ⟨h7, v7, o7, g7, e7⟩ : ∃ a b c d, holdX false ⟨h1, v1, o1, g1⟩ ⟨h2, v2, o2, g2⟩ = EX.mk a b c d := ⟨_, _, _, _, rfl⟩
        simp only [e7] at G1 G2 G5 Ga
        have G6 := fun w => great_any h2 v2 o2 g2 h3 v3 o3 g3 w
        have G7 := fun w => great_any h7 v7 o7 g7 h3 v3 o3 g3 w
        obtain ⟨h8, v8, o8, g8, e8⟩ : ∃ a b c d, holdX false ⟨h2, v2, o2, g2⟩ ⟨h3, v3, o3, g3⟩ = EX.mk a b c d := ⟨_, _, _, _, rfl⟩
        simp only [e8] at G6 Ga
        have G8 := fun w => great_any h1 v1 o1 g1 h8 v8 o8 g8 w
        rw [← Ga] at G8
        obtain ⟨h9, v9, o9, g9, e9⟩ : ∃ a b c d, holdX false ⟨h7, v7, o7, g7⟩ ⟨h3, v3, o3, g3⟩ = EX.mk a b c d := ⟨_, _, _, _, rfl⟩
        simp only [e9] at G7 G8
        clear Ga Gc e7 e8 e9
        have L3 := fun w => least_any h1 v1 o1 g1 h1 v1 o1 g1 w
        rw [hold_self] at L3
        have K13 := fun w => awake_any w
        clear hF1 hF2 hF3
        go_enter Try.func5, Try.ntmps5
        go_wp2_with (first
      | ((with_reducible show wpList _ _ _ (Oper.mk (some 3) (Op.box 23 _) _ _ _ _ :: _) _ _); refine wpList_box M rfl _ rfl _ _ _ _ rfl ?_; clear M; intro k3 W M; skip)
      | ((with_reducible show wpList _ _ _ (Oper.mk (some 4) (Op.box 23 _) _ _ _ _ :: _) _ _); refine wpList_box M rfl _ rfl _ _ _ _ rfl ?_; clear M; intro k4 W M; skip)
      | ((with_reducible show wpList _ _ _ (Oper.mk (some 5) (Op.box 23 _) _ _ _ _ :: _) _ _); refine wpList_box M rfl _ rfl _ _ _ _ rfl ?_; clear M; intro k5 W M; skip)
      | ((with_reducible show wpList _ _ _ (Oper.mk _ (Op.load 23 _) _ _ _ _ :: _) _ _); refine wpList_loadw M (by rfl) _ rfl rfl (by first | exact .head _ | exact .tail _ (.head _) | exact .tail _ (.tail _ (.head _))) ?_)
      | (go_at_call 8; refine (K81 _).mono ?_; clear K81; rintro e w1 ⟨rfl, b1⟩; replace M := M.later b1; clear b1)
      | (go_at_call 8; refine (K82 _).mono ?_; clear K82; rintro e w1 ⟨rfl, b1⟩; replace M := M.later b1; clear b1)
      | (go_at_call 8; refine (K83 _).mono ?_; clear K83; rintro e w1 ⟨rfl, b1⟩; replace M := M.later b1; clear b1)
      | (go_at_call 13; refine (awake_any _).mono ?_; rintro e w1 ⟨rfl, b1⟩; replace M := M.later b1; clear b1))
        refine wp_region_any (by kernel_rfl) ?_
        change wpAny _ _ _ _ _ _ _ (World.drew _)
        replace M := M.drew
        generalize World.drew W = WD at M ⊢
        refine wpAny_narrow (fun W' => Mem w W' [(k5, ⟨h3, v3, o3, g3⟩), (k4, ⟨h2, v2, o2, g2⟩), (k3, ⟨h1, v1, o1, g1⟩)]) _ _ _ _ ?_
        refine anyH_take 0 21 (ex h1 v1 o1 g1) rfl rfl (by kernel_rfl) (by kernel_rfl) (by kernel_rfl) (fun _ _ _ h => h) (Or.inl ⟨by rfl, fun X hSw => exec_load23 rfl rfl (hSw.get (.tail _ (.tail _ (.head _))))⟩) (M) ?_
        try simp only [Act.put, List.setIfInBounds_toArray, List.set_cons_zero, List.set_cons_succ]
        refine anyH_take 1 22 (ex h2 v2 o2 g2) rfl rfl (by kernel_rfl) (by kernel_rfl) (by kernel_rfl) (fun _ _ _ h => h) (Or.inl ⟨by rfl, fun X hSw => exec_load23 rfl rfl (hSw.get (.tail _ (.head _)))⟩) (M) ?_
        try simp only [Act.put, List.setIfInBounds_toArray, List.set_cons_zero, List.set_cons_succ]
        refine anyH_take 3 24 (ex h2 v2 o2 g2) rfl rfl (by kernel_rfl) (by kernel_rfl) (by kernel_rfl) (fun _ _ _ h => h) (Or.inl ⟨by rfl, fun X hSw => exec_load23 rfl rfl (hSw.get (.tail _ (.head _)))⟩) (M) ?_
        try simp only [Act.put, List.setIfInBounds_toArray, List.set_cons_zero, List.set_cons_succ]
        refine anyH_take 4 25 (ex h1 v1 o1 g1) rfl rfl (by kernel_rfl) (by kernel_rfl) (by kernel_rfl) (fun _ _ _ h => h) (Or.inl ⟨by rfl, fun X hSw => exec_load23 rfl rfl (hSw.get (.tail _ (.tail _ (.head _))))⟩) (M) ?_
        try simp only [Act.put, List.setIfInBounds_toArray, List.set_cons_zero, List.set_cons_succ]
        refine wpAnyH_ready (rs := [2]) (by kernel_rfl) (by simp) ?_
        refine AllReadyH.cons rfl (fun K hK => ?_) AllReadyH.nil
        go_simp
        go_wp2_with (go_at_call 14; refine (L1 _).mono ?_; clear L1; rintro e w1 ⟨rfl, b1⟩; replace M := M.later b1; clear b1)
        refine hK.out _ _ (M) (fun hS => ?_)
        clear hK
        refine wpAnyH_ready (rs := [5]) (by kernel_rfl) (by simp) ?_
        refine AllReadyH.cons rfl (fun K hK => ?_) AllReadyH.nil
        go_simp
        go_wp2_with (go_at_call 14; refine (L2 _).mono ?_; clear L2; rintro e w1 ⟨rfl, b1⟩; replace M := M.later b1; clear b1)
        refine hK.out _ _ (M) (fun hS => ?_)
        clear hK
        refine anyH_take 6 27 (.bool (!sameX ⟨h4, v4, o4, g4⟩ ⟨h4, v4, o4, g4⟩)) rfl rfl (by kernel_rfl) (by kernel_rfl) (by kernel_rfl) (fun _ _ _ h => h) (Or.inl ⟨by rfl, fun X hSw => exec_neq23 rfl ⟨h4, v4, o4, g4⟩ ⟨h4, v4, o4, g4⟩ rfl rfl X⟩) (M) ?_
        try simp only [Act.put, List.setIfInBounds_toArray, List.set_cons_zero, List.set_cons_succ]
        rw [sameX_self]
        rw [Bool.not_true]
        refine anyH_take 7 28 (.bool false) rfl rfl (by kernel_rfl) (by kernel_rfl) (by kernel_rfl) (fun _ _ _ h => h) (Or.inl ⟨by rfl, by intro w hSw; go_simp⟩) (M) ?_
        try simp only [Act.put, List.setIfInBounds_toArray, List.set_cons_zero, List.set_cons_succ]
        refine anyH_take 8 29 (ex h1 v1 o1 g1) rfl rfl (by kernel_rfl) (by kernel_rfl) (by kernel_rfl) (fun _ _ _ h => h) (Or.inl ⟨by rfl, fun X hSw => exec_load23 rfl rfl (hSw.get (.tail _ (.tail _ (.head _))))⟩) (M) ?_
        try simp only [Act.put, List.setIfInBounds_toArray, List.set_cons_zero, List.set_cons_succ]
        refine anyH_take 9 30 (ex h2 v2 o2 g2) rfl rfl (by kernel_rfl) (by kernel_rfl) (by kernel_rfl) (fun _ _ _ h => h) (Or.inl ⟨by rfl, fun X hSw => exec_load23 rfl rfl (hSw.get (.tail _ (.head _)))⟩) (M) ?_
        try simp only [Act.put, List.setIfInBounds_toArray, List.set_cons_zero, List.set_cons_succ]
        refine anyH_take 11 32 (ex h2 v2 o2 g2) rfl rfl (by kernel_rfl) (by kernel_rfl) (by kernel_rfl) (fun _ _ _ h => h) (Or.inl ⟨by rfl, fun X hSw => exec_load23 rfl rfl (hSw.get (.tail _ (.head _)))⟩) (M) ?_
        try simp only [Act.put, List.setIfInBounds_toArray, List.set_cons_zero, List.set_cons_succ]
        refine anyH_take 12 33 (ex h1 v1 o1 g1) rfl rfl (by kernel_rfl) (by kernel_rfl) (by kernel_rfl) (fun _ _ _ h => h) (Or.inl ⟨by rfl, fun X hSw => exec_load23 rfl rfl (hSw.get (.tail _ (.tail _ (.head _))))⟩) (M) ?_
        try simp only [Act.put, List.setIfInBounds_toArray, List.set_cons_zero, List.set_cons_succ]
        refine wpAnyH_ready (rs := [10]) (by kernel_rfl) (by simp) ?_
        refine AllReadyH.cons rfl (fun K hK => ?_) AllReadyH.nil
        go_simp
        go_wp2_with (go_at_call 16; refine (G1 _).mono ?_; clear G1; rintro e w1 ⟨rfl, b1⟩; replace M := M.later b1; clear b1)
        refine hK.out _ _ (M) (fun hS => ?_)
        clear hK
        refine wpAnyH_ready (rs := [13]) (by kernel_rfl) (by simp) ?_
        refine AllReadyH.cons rfl (fun K hK => ?_) AllReadyH.nil
        go_simp
        go_wp2_with (go_at_call 16; refine (G2 _).mono ?_; clear G2; rintro e w1 ⟨rfl, b1⟩; replace M := M.later b1; clear b1)
        refine hK.out _ _ (M) (fun hS => ?_)
        clear hK
        refine anyH_take 14 35 (.bool (!sameX ⟨h7, v7, o7, g7⟩ ⟨h7, v7, o7, g7⟩)) rfl rfl (by kernel_rfl) (by kernel_rfl) (by kernel_rfl) (fun _ _ _ h => h) (Or.inl ⟨by rfl, fun X hSw => exec_neq23 rfl ⟨h7, v7, o7, g7⟩ ⟨h7, v7, o7, g7⟩ rfl rfl X⟩) (M) ?_
        try simp only [Act.put, List.setIfInBounds_toArray, List.set_cons_zero, List.set_cons_succ]
        rw [sameX_self]
        rw [Bool.not_true]
        refine anyH_take 15 36 (.bool false) rfl rfl (by kernel_rfl) (by kernel_rfl) (by kernel_rfl) (fun _ _ _ h => h) (Or.inl ⟨by rfl, by intro w hSw; go_simp⟩) (M) ?_
        try simp only [Act.put, List.setIfInBounds_toArray, List.set_cons_zero, List.set_cons_succ]
        refine anyH_take 16 37 (.bool false) rfl rfl (by kernel_rfl) (by kernel_rfl) (by kernel_rfl) (fun _ _ _ h => h) (Or.inl ⟨by rfl, by intro w hSw; go_simp⟩) (M) ?_
        try simp only [Act.put, List.setIfInBounds_toArray, List.set_cons_zero, List.set_cons_succ]
        refine anyH_take 17 38 (ex h1 v1 o1 g1) rfl rfl (by kernel_rfl) (by kernel_rfl) (by kernel_rfl) (fun _ _ _ h => h) (Or.inl ⟨by rfl, fun X hSw => exec_load23 rfl rfl (hSw.get (.tail _ (.tail _ (.head _))))⟩) (M) ?_
        try simp only [Act.put, List.setIfInBounds_toArray, List.set_cons_zero, List.set_cons_succ]
        refine anyH_take 18 39 (ex h1 v1 o1 g1) rfl rfl (by kernel_rfl) (by kernel_rfl) (by kernel_rfl) (fun _ _ _ h => h) (Or.inl ⟨by rfl, fun X hSw => exec_load23 rfl rfl (hSw.get (.tail _ (.tail _ (.head _))))⟩) (M) ?_
        try simp only [Act.put, List.setIfInBounds_toArray, List.set_cons_zero, List.set_cons_succ]
        refine anyH_take 20 41 (ex h1 v1 o1 g1) rfl rfl (by kernel_rfl) (by kernel_rfl) (by kernel_rfl) (fun _ _ _ h => h) (Or.inl ⟨by rfl, fun X hSw => exec_load23 rfl rfl (hSw.get (.tail _ (.tail _ (.head _))))⟩) (M) ?_
        try simp only [Act.put, List.setIfInBounds_toArray, List.set_cons_zero, List.set_cons_succ]
        refine wpAnyH_ready (rs := [19]) (by kernel_rfl) (by simp) ?_
        refine AllReadyH.cons rfl (fun K hK => ?_) AllReadyH.nil
        go_simp
        go_wp2_with (go_at_call 14; refine (L3 _).mono ?_; clear L3; rintro e w1 ⟨rfl, b1⟩; replace M := M.later b1; clear b1)
        refine hK.out _ _ (M) (fun hS => ?_)
        clear hK
        refine anyH_take 21 42 (.bool (!sameX ⟨h1, v1, o1, g1⟩ ⟨h1, v1, o1, g1⟩)) rfl rfl (by kernel_rfl) (by kernel_rfl) (by kernel_rfl) (fun _ _ _ h => h) (Or.inl ⟨by rfl, fun X hSw => exec_neq23 rfl ⟨h1, v1, o1, g1⟩ ⟨h1, v1, o1, g1⟩ rfl rfl X⟩) (M) ?_
        try simp only [Act.put, List.setIfInBounds_toArray, List.set_cons_zero, List.set_cons_succ]
        rw [sameX_self]
        rw [Bool.not_true]
        refine anyH_take 22 43 (.bool false) rfl rfl (by kernel_rfl) (by kernel_rfl) (by kernel_rfl) (fun _ _ _ h => h) (Or.inl ⟨by rfl, by intro w hSw; go_simp⟩) (M) ?_
        try simp only [Act.put, List.setIfInBounds_toArray, List.set_cons_zero, List.set_cons_succ]
        refine wpAnyH_done (by kernel_rfl) ?_ _
        go_wp2_with (fail)
        refine wp_region_any (by kernel_rfl) ?_
        change wpAny _ _ _ _ _ _ _ (World.drew _)
        replace M := M.drew
        generalize World.drew W = WD at M ⊢
        refine wpAny_narrow (fun W' => Mem w W' [(k5, ⟨h3, v3, o3, g3⟩), (k4, ⟨h2, v2, o2, g2⟩), (k3, ⟨h1, v1, o1, g1⟩)]) _ _ _ _ ?_
        refine anyH_take 0 44 (ex h1 v1 o1 g1) rfl rfl (by kernel_rfl) (by kernel_rfl) (by kernel_rfl) (fun _ _ _ h => h) (Or.inl ⟨by rfl, fun X hSw => exec_load23 rfl rfl (hSw.get (.tail _ (.tail _ (.head _))))⟩) (M) ?_
        try simp only [Act.put, List.setIfInBounds_toArray, List.set_cons_zero, List.set_cons_succ]
        refine anyH_take 1 45 (ex h2 v2 o2 g2) rfl rfl (by kernel_rfl) (by kernel_rfl) (by kernel_rfl) (fun _ _ _ h => h) (Or.inl ⟨by rfl, fun X hSw => exec_load23 rfl rfl (hSw.get (.tail _ (.head _)))⟩) (M) ?_
        try simp only [Act.put, List.setIfInBounds_toArray, List.set_cons_zero, List.set_cons_succ]
        refine anyH_take 3 47 (ex h3 v3 o3 g3) rfl rfl (by kernel_rfl) (by kernel_rfl) (by kernel_rfl) (fun _ _ _ h => h) (Or.inl ⟨by rfl, fun X hSw => exec_load23 rfl rfl (hSw.get (.head _))⟩) (M) ?_
        try simp only [Act.put, List.setIfInBounds_toArray, List.set_cons_zero, List.set_cons_succ]
        refine anyH_take 5 49 (ex h1 v1 o1 g1) rfl rfl (by kernel_rfl) (by kernel_rfl) (by kernel_rfl) (fun _ _ _ h => h) (Or.inl ⟨by rfl, fun X hSw => exec_load23 rfl rfl (hSw.get (.tail _ (.tail _ (.head _))))⟩) (M) ?_
        try simp only [Act.put, List.setIfInBounds_toArray, List.set_cons_zero, List.set_cons_succ]
        refine anyH_take 6 50 (ex h2 v2 o2 g2) rfl rfl (by kernel_rfl) (by kernel_rfl) (by kernel_rfl) (fun _ _ _ h => h) (Or.inl ⟨by rfl, fun X hSw => exec_load23 rfl rfl (hSw.get (.tail _ (.head _)))⟩) (M) ?_
        try simp only [Act.put, List.setIfInBounds_toArray, List.set_cons_zero, List.set_cons_succ]
        refine anyH_take 7 51 (ex h3 v3 o3 g3) rfl rfl (by kernel_rfl) (by kernel_rfl) (by kernel_rfl) (fun _ _ _ h => h) (Or.inl ⟨by rfl, fun X hSw => exec_load23 rfl rfl (hSw.get (.head _))⟩) (M) ?_
        try simp only [Act.put, List.setIfInBounds_toArray, List.set_cons_zero, List.set_cons_succ]
        refine wpAnyH_ready (rs := [2]) (by kernel_rfl) (by simp) ?_
        refine AllReadyH.cons rfl (fun K hK => ?_) AllReadyH.nil
        go_simp
        go_wp2_with (go_at_call 14; refine (L5 _).mono ?_; clear L5; rintro e w1 ⟨rfl, b1⟩; replace M := M.later b1; clear b1)
        refine hK.out _ _ (M) (fun hS => ?_)
        clear hK
        refine wpAnyH_ready (rs := [4]) (by kernel_rfl) (by simp) ?_
        refine AllReadyH.cons rfl (fun K hK => ?_) AllReadyH.nil
        go_simp
        go_wp2_with (go_at_call 14; refine (L7 _).mono ?_; clear L7; rintro e w1 ⟨rfl, b1⟩; replace M := M.later b1; clear b1)
        refine hK.out _ _ (M) (fun hS => ?_)
        clear hK
        refine wpAnyH_ready (rs := [8]) (by kernel_rfl) (by simp) ?_
        refine AllReadyH.cons rfl (fun K hK => ?_) AllReadyH.nil
        go_simp
        go_wp2_with (go_at_call 14; refine (L6 _).mono ?_; clear L6; rintro e w1 ⟨rfl, b1⟩; replace M := M.later b1; clear b1)
        refine hK.out _ _ (M) (fun hS => ?_)
        clear hK
        refine wpAnyH_ready (rs := [9]) (by kernel_rfl) (by simp) ?_
        refine AllReadyH.cons rfl (fun K hK => ?_) AllReadyH.nil
        go_simp
        go_wp2_with (go_at_call 14; refine (L8 _).mono ?_; clear L8; rintro e w1 ⟨rfl, b1⟩; replace M := M.later b1; clear b1)
        refine hK.out _ _ (M) (fun hS => ?_)
        clear hK
        refine anyH_take 10 54 (.bool (sameX ⟨h6, v6, o6, g6⟩ ⟨h6, v6, o6, g6⟩)) rfl rfl (by kernel_rfl) (by kernel_rfl) (by kernel_rfl) (fun _ _ _ h => h) (Or.inl ⟨by rfl, fun X hSw => exec_eql23 rfl ⟨h6, v6, o6, g6⟩ ⟨h6, v6, o6, g6⟩ rfl rfl X⟩) (M) ?_
        try simp only [Act.put, List.setIfInBounds_toArray, List.set_cons_zero, List.set_cons_succ]
        rw [sameX_self]
        refine anyH_take 11 55 (.bool true) rfl rfl (by kernel_rfl) (by kernel_rfl) (by kernel_rfl) (fun _ _ _ h => h) (Or.inl ⟨by rfl, by intro w hSw; go_simp⟩) (M) ?_
        try simp only [Act.put, List.setIfInBounds_toArray, List.set_cons_zero, List.set_cons_succ]
        refine anyH_take 12 56 (ex h1 v1 o1 g1) rfl rfl (by kernel_rfl) (by kernel_rfl) (by kernel_rfl) (fun _ _ _ h => h) (Or.inl ⟨by rfl, fun X hSw => exec_load23 rfl rfl (hSw.get (.tail _ (.tail _ (.head _))))⟩) (M) ?_
        try simp only [Act.put, List.setIfInBounds_toArray, List.set_cons_zero, List.set_cons_succ]
        refine anyH_take 13 57 (ex h2 v2 o2 g2) rfl rfl (by kernel_rfl) (by kernel_rfl) (by kernel_rfl) (fun _ _ _ h => h) (Or.inl ⟨by rfl, fun X hSw => exec_load23 rfl rfl (hSw.get (.tail _ (.head _)))⟩) (M) ?_
        try simp only [Act.put, List.setIfInBounds_toArray, List.set_cons_zero, List.set_cons_succ]
        refine anyH_take 15 59 (ex h3 v3 o3 g3) rfl rfl (by kernel_rfl) (by kernel_rfl) (by kernel_rfl) (fun _ _ _ h => h) (Or.inl ⟨by rfl, fun X hSw => exec_load23 rfl rfl (hSw.get (.head _))⟩) (M) ?_
        try simp only [Act.put, List.setIfInBounds_toArray, List.set_cons_zero, List.set_cons_succ]
        refine anyH_take 17 61 (ex h1 v1 o1 g1) rfl rfl (by kernel_rfl) (by kernel_rfl) (by kernel_rfl) (fun _ _ _ h => h) (Or.inl ⟨by rfl, fun X hSw => exec_load23 rfl rfl (hSw.get (.tail _ (.tail _ (.head _))))⟩) (M) ?_
        try simp only [Act.put, List.setIfInBounds_toArray, List.set_cons_zero, List.set_cons_succ]
        refine anyH_take 18 62 (ex h2 v2 o2 g2) rfl rfl (by kernel_rfl) (by kernel_rfl) (by kernel_rfl) (fun _ _ _ h => h) (Or.inl ⟨by rfl, fun X hSw => exec_load23 rfl rfl (hSw.get (.tail _ (.head _)))⟩) (M) ?_
        try simp only [Act.put, List.setIfInBounds_toArray, List.set_cons_zero, List.set_cons_succ]
        refine anyH_take 19 63 (ex h3 v3 o3 g3) rfl rfl (by kernel_rfl) (by kernel_rfl) (by kernel_rfl) (fun _ _ _ h => h) (Or.inl ⟨by rfl, fun X hSw => exec_load23 rfl rfl (hSw.get (.head _))⟩) (M) ?_
        try simp only [Act.put, List.setIfInBounds_toArray, List.set_cons_zero, List.set_cons_succ]
        refine wpAnyH_ready (rs := [14]) (by kernel_rfl) (by simp) ?_
        refine AllReadyH.cons rfl (fun K hK => ?_) AllReadyH.nil
        go_simp
        go_wp2_with (go_at_call 16; refine (G5 _).mono ?_; clear G5; rintro e w1 ⟨rfl, b1⟩; replace M := M.later b1; clear b1)
        refine hK.out _ _ (M) (fun hS => ?_)
        clear hK
        refine wpAnyH_ready (rs := [16]) (by kernel_rfl) (by simp) ?_
        refine AllReadyH.cons rfl (fun K hK => ?_) AllReadyH.nil
        go_simp
        go_wp2_with (go_at_call 16; refine (G7 _).mono ?_; clear G7; rintro e w1 ⟨rfl, b1⟩; replace M := M.later b1; clear b1)
        refine hK.out _ _ (M) (fun hS => ?_)
        clear hK
        refine wpAnyH_ready (rs := [20]) (by kernel_rfl) (by simp) ?_
        refine AllReadyH.cons rfl (fun K hK => ?_) AllReadyH.nil
        go_simp
        go_wp2_with (go_at_call 16; refine (G6 _).mono ?_; clear G6; rintro e w1 ⟨rfl, b1⟩; replace M := M.later b1; clear b1)
        refine hK.out _ _ (M) (fun hS => ?_)
        clear hK
        refine wpAnyH_ready (rs := [21]) (by kernel_rfl) (by simp) ?_
        refine AllReadyH.cons rfl (fun K hK => ?_) AllReadyH.nil
        go_simp
        go_wp2_with (go_at_call 16; refine (G8 _).mono ?_; clear G8; rintro e w1 ⟨rfl, b1⟩; replace M := M.later b1; clear b1)
        refine hK.out _ _ (M) (fun hS => ?_)
        clear hK
        refine anyH_take 22 66 (.bool (sameX ⟨h9, v9, o9, g9⟩ ⟨h9, v9, o9, g9⟩)) rfl rfl (by kernel_rfl) (by kernel_rfl) (by kernel_rfl) (fun _ _ _ h => h) (Or.inl ⟨by rfl, fun X hSw => exec_eql23 rfl ⟨h9, v9, o9, g9⟩ ⟨h9, v9, o9, g9⟩ rfl rfl X⟩) (M) ?_
        try simp only [Act.put, List.setIfInBounds_toArray, List.set_cons_zero, List.set_cons_succ]
        rw [sameX_self]
        refine anyH_take 23 67 (.bool true) rfl rfl (by kernel_rfl) (by kernel_rfl) (by kernel_rfl) (fun _ _ _ h => h) (Or.inl ⟨by rfl, by intro w hSw; go_simp⟩) (M) ?_
        try simp only [Act.put, List.setIfInBounds_toArray, List.set_cons_zero, List.set_cons_succ]
        refine anyH_take 24 68 (.bool true) rfl rfl (by kernel_rfl) (by kernel_rfl) (by kernel_rfl) (fun _ _ _ h => h) (Or.inl ⟨by rfl, by intro w hSw; go_simp⟩) (M) ?_
        try simp only [Act.put, List.setIfInBounds_toArray, List.set_cons_zero, List.set_cons_succ]
        refine wpAnyH_ready (rs := [25]) (by kernel_rfl) (by simp) ?_
        refine AllReadyH.cons rfl (fun K hK => ?_) AllReadyH.nil
        go_simp
        go_wp2_with (go_at_call 13; refine (K13 _).mono ?_; clear K13; rintro e w1 ⟨rfl, b1⟩; replace M := M.later b1; clear b1)
        refine hK.out _ _ (M) (fun hS => ?_)
        clear hK
        refine anyH_take 26 70 (.bool true) rfl rfl (by kernel_rfl) (by kernel_rfl) (by kernel_rfl) (fun _ _ _ h => h) (Or.inl ⟨by rfl, by intro w hSw; go_simp⟩) (M) ?_
        try simp only [Act.put, List.setIfInBounds_toArray, List.set_cons_zero, List.set_cons_succ]
        refine anyH_take 27 6 (.bool true) rfl rfl (by kernel_rfl) (by kernel_rfl) (by kernel_rfl) (fun _ _ _ h => h) (Or.inl ⟨by rfl, by intro w hSw; go_simp⟩) (M) ?_
        try simp only [Act.put, List.setIfInBounds_toArray, List.set_cons_zero, List.set_cons_succ]
        refine wpAnyH_done (by kernel_rfl) ?_ _
        go_wp2
        go_ret
        exact ⟨rfl, M.below⟩
end Go.Proofs.Ytnnapooochfnhaa
