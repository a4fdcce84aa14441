/-
  Package ext: the document's Hear, Set and Tick.
-/
import Derived.Test.YtoeebofappbneaaGreatEX6
namespace Go.Proofs.YtoeebofappbneaaGreat.E
open Go.ChangeShapes Go.WideShapes Go.ChangeAt Go.RowKit
set_option linter.unusedVariables false
set_option linter.unusedSimpArgs false

set_option maxRecDepth 100000 in
set_option maxHeartbeats 2000000 in
theorem rhear_any (id : Int) (h1 : Bool) (v1 o1 g1 : Int) (h2 : Bool) (v2 o2 g2 : Int) (h3 : Bool) (v3 o3 g3 : Int) (h4 : Bool) (v4 o4 g4 : Int) (w : World) (f1 : fitB ⟨h1, v1, o1, g1⟩ = true) (f2 : fitB ⟨h2, v2, o2, g2⟩ = true) (f3 : fitB ⟨h3, v3, o3, g3⟩ = true) (f4 : fitB ⟨h4, v4, o4, g4⟩ = true) : Calls Tryz.prog 44 #[.int .i64 id, ex h1 v1 o1 g1, ex h2 v2 o2 g2, ex h3 v3 o3 g3, ex h4 v4 o4 g4] w fun e w' => e = .returned (two (hearX id ⟨h1, v1, o1, g1⟩ ⟨h2, v2, o2, g2⟩ ⟨h3, v3, o3, g3⟩ ⟨h4, v4, o4, g4⟩)) ∧ Below w.heap.size w w' := by
  have M := Mem.nil w
  have K1 := fun w => rfor_any id h3 v3 o3 g3 w f3
  have K2 := fun w => rfor_any id h4 v4 o4 g4 w f4
  have q5 := for_fit id f3
  have q6 := for_fit id f4
  unfold hearX two
  dsimp only
  obtain ⟨h5, v5, o5, g5, e5⟩ : ∃ a b c d, forX id ⟨h3, v3, o3, g3⟩ = EX.mk a b c d := ⟨_, _, _, _, rfl⟩
  simp only [e5] at K1 q5 ⊢
  obtain ⟨h6, v6, o6, g6, e6⟩ : ∃ a b c d, forX id ⟨h4, v4, o4, g4⟩ = EX.mk a b c d := ⟨_, _, _, _, rfl⟩
  simp only [e6] at K2 q6 ⊢
  have K3 := fun w => rleast_any h1 v1 o1 g1 h5 v5 o5 g5 w f1 q5
  have K4 := fun w => rgreat_any h2 v2 o2 g2 h6 v6 o6 g6 w f2 q6
  obtain ⟨h7, v7, o7, g7, e7⟩ : ∃ a b c d, holdX true ⟨h1, v1, o1, g1⟩ ⟨h5, v5, o5, g5⟩ = EX.mk a b c d := ⟨_, _, _, _, rfl⟩
  simp only [e7] at K3 ⊢
  obtain ⟨h8, v8, o8, g8, e8⟩ : ∃ a b c d, holdX false ⟨h2, v2, o2, g2⟩ ⟨h6, v6, o6, g6⟩ = EX.mk a b c d := ⟨_, _, _, _, rfl⟩
  simp only [e8] at K4 ⊢
  clear e5 e6 e7 e8 f1 f2 f3 f4 q5 q6
  go_enter Tryz.func44, Tryz.ntmps44
  go_wp2_with (first
      | ((with_reducible show wpList _ _ _ (Oper.mk (some 6) (Op.box 38 _) _ _ _ _ :: _) _ _); refine wpList_box M rfl _ rfl _ _ _ _ rfl ?_; clear M; intro k6 W M; skip)
      | ((with_reducible show wpList _ _ _ (Oper.mk (some 7) (Op.box 38 _) _ _ _ _ :: _) _ _); refine wpList_box M rfl _ rfl _ _ _ _ rfl ?_; clear M; intro k7 W M; skip)
      | ((with_reducible show wpList _ _ _ (Oper.mk (some 8) (Op.box 38 _) _ _ _ _ :: _) _ _); refine wpList_box M rfl _ rfl _ _ _ _ rfl ?_; clear M; intro k8 W M; skip)
      | ((with_reducible show wpList _ _ _ (Oper.mk (some 9) (Op.box 38 _) _ _ _ _ :: _) _ _); refine wpList_box M rfl _ rfl _ _ _ _ rfl ?_; clear M; intro k9 W M; skip)
      | ((with_reducible show wpList _ _ _ (Oper.mk (some 10) (Op.alloc 38) _ _ _ _ :: _) _ _); refine wpList_alloc M rfl rfl ?_; clear M; intro k10 W M; skip)
      | ((with_reducible show wpList _ _ _ (Oper.mk (some 11) (Op.alloc 38) _ _ _ _ :: _) _ _); refine wpList_alloc M rfl rfl ?_; clear M; intro k11 W M; skip))
  refine wp_region_any (by kernel_rfl) ?_
  change wpAny _ _ _ _ _ _ _ (World.drew _)
  replace M := M.drew
  generalize World.drew W = WD at M ⊢
  refine wpAny_narrow (fun W' => ∃ x y, Mem w W' [(k11, x), (k10, y), (k9, ⟨h4, v4, o4, g4⟩), (k8, ⟨h3, v3, o3, g3⟩), (k7, ⟨h2, v2, o2, g2⟩), (k6, ⟨h1, v1, o1, g1⟩)]) _ _ _ _ ?_
  refine anyH_take 0 12 (ex h1 v1 o1 g1) rfl rfl (by kernel_rfl) (by kernel_rfl) (by kernel_rfl) (fun _ _ _ h => h) (Or.inl ⟨by rfl, fun X hSw => by obtain ⟨x, y, hm⟩ := hSw; exact exec_load23 rfl rfl (hm.get (.tail _ (.tail _ (.tail _ (.tail _ (.tail _ (.head _)))))))⟩) (⟨_, _, M⟩) ?_
  try simp only [Act.put, List.setIfInBounds_toArray, List.set_cons_zero, List.set_cons_succ]
  refine anyH_take 1 13 (.int .i64 id) rfl rfl (by kernel_rfl) (by kernel_rfl) (by kernel_rfl) (fun _ _ _ h => h) (Or.inl ⟨by rfl, by intro w hSw; go_simp⟩) (⟨_, _, M⟩) ?_
  try simp only [Act.put, List.setIfInBounds_toArray, List.set_cons_zero, List.set_cons_succ]
  refine anyH_take 2 14 (ex h3 v3 o3 g3) rfl rfl (by kernel_rfl) (by kernel_rfl) (by kernel_rfl) (fun _ _ _ h => h) (Or.inl ⟨by rfl, fun X hSw => by obtain ⟨x, y, hm⟩ := hSw; exact exec_load23 rfl rfl (hm.get (.tail _ (.tail _ (.tail _ (.head _)))))⟩) (⟨_, _, M⟩) ?_
  try simp only [Act.put, List.setIfInBounds_toArray, List.set_cons_zero, List.set_cons_succ]
  refine anyH_take 5 17 (ex h2 v2 o2 g2) rfl rfl (by kernel_rfl) (by kernel_rfl) (by kernel_rfl) (fun _ _ _ h => h) (Or.inl ⟨by rfl, fun X hSw => by obtain ⟨x, y, hm⟩ := hSw; exact exec_load23 rfl rfl (hm.get (.tail _ (.tail _ (.tail _ (.tail _ (.head _))))))⟩) (⟨_, _, M⟩) ?_
  try simp only [Act.put, List.setIfInBounds_toArray, List.set_cons_zero, List.set_cons_succ]
  refine anyH_take 6 18 (.int .i64 id) rfl rfl (by kernel_rfl) (by kernel_rfl) (by kernel_rfl) (fun _ _ _ h => h) (Or.inl ⟨by rfl, by intro w hSw; go_simp⟩) (⟨_, _, M⟩) ?_
  try simp only [Act.put, List.setIfInBounds_toArray, List.set_cons_zero, List.set_cons_succ]
  refine anyH_take 7 19 (ex h4 v4 o4 g4) rfl rfl (by kernel_rfl) (by kernel_rfl) (by kernel_rfl) (fun _ _ _ h => h) (Or.inl ⟨by rfl, fun X hSw => by obtain ⟨x, y, hm⟩ := hSw; exact exec_load23 rfl rfl (hm.get (.tail _ (.tail _ (.head _))))⟩) (⟨_, _, M⟩) ?_
  try simp only [Act.put, List.setIfInBounds_toArray, List.set_cons_zero, List.set_cons_succ]
  refine wpAnyH_ready (rs := [3]) (by kernel_rfl) (by simp) ?_
  refine AllReadyH.cons rfl (fun K hK => ?_) AllReadyH.nil
  go_simp
  go_wp2_with (go_at_call 76; refine (K1 _).mono ?_; clear K1; rintro e w1 ⟨rfl, b1⟩; replace M := M.later b1; clear b1)
  refine hK.out _ _ (⟨_, _, M⟩) (fun hS => ?_)
  clear hK
  refine wpAnyH_ready (rs := [4]) (by kernel_rfl) (by simp) ?_
  refine AllReadyH.cons rfl (fun K hK => ?_) AllReadyH.nil
  go_simp
  go_wp2_with (go_at_call 75; refine (K3 _).mono ?_; clear K3; rintro e w1 ⟨rfl, b1⟩; replace M := M.later b1; clear b1)
  refine hK.out _ _ (⟨_, _, M⟩) (fun hS => ?_)
  clear hK
  refine wpAnyH_ready (rs := [8]) (by kernel_rfl) (by simp) ?_
  refine AllReadyH.cons rfl (fun K hK => ?_) AllReadyH.nil
  go_simp
  go_wp2_with (go_at_call 76; refine (K2 _).mono ?_; clear K2; rintro e w1 ⟨rfl, b1⟩; replace M := M.later b1; clear b1)
  refine hK.out _ _ (⟨_, _, M⟩) (fun hS => ?_)
  clear hK
  refine wpAnyH_ready (rs := [9]) (by kernel_rfl) (by simp) ?_
  refine AllReadyH.cons rfl (fun K hK => ?_) AllReadyH.nil
  go_simp
  go_wp2_with (go_at_call 78; refine (K4 _).mono ?_; clear K4; rintro e w1 ⟨rfl, b1⟩; replace M := M.later b1; clear b1)
  refine hK.out _ _ (⟨_, _, M⟩) (fun hS => ?_)
  clear hK
  refine wpAnyH_ready (rs := [10]) (by kernel_rfl) (by simp) ?_
  refine AllReadyH.cons rfl (fun K hK => ?_) AllReadyH.nil
  rw [if_pos (by rfl)]
  refine wp_put M _ _ rfl 1 _ _ _ _ rfl rfl rfl ?_
  clear M
  intro W M
  simp only [List.set_cons_zero, List.set_cons_succ] at M
  refine hK.out _ _ (⟨_, _, M⟩) (fun hS => ?_)
  clear hK
  refine wpAnyH_ready (rs := [11]) (by kernel_rfl) (by simp) ?_
  refine AllReadyH.cons rfl (fun K hK => ?_) AllReadyH.nil
  rw [if_pos (by rfl)]
  refine wp_put M _ _ rfl 0 _ _ _ _ rfl rfl rfl ?_
  clear M
  intro W M
  simp only [List.set_cons_zero, List.set_cons_succ] at M
  refine hK.out _ _ (⟨_, _, M⟩) (fun hS => ?_)
  clear hK
  refine wpAnyH_done (by kernel_rfl) ?_ _
  go_wp2
  exact bodyPost_ret (results_cc rfl _ _ _ _ ⟨h7, v7, o7, g7⟩ ⟨h8, v8, o8, g8⟩ rfl rfl (M.get (.tail _ (.head _))) (M.get (.head _))) rfl ⟨rfl, M.below⟩
set_option maxRecDepth 100000 in
set_option maxHeartbeats 2000000 in
theorem rset_any (id inp : Int) (h1 : Bool) (v1 o1 g1 : Int) (h2 : Bool) (v2 o2 g2 : Int) (w : World) (n1 : nodeB id = true) (n2 : flowB inp = true) (f1 : fitB ⟨h1, v1, o1, g1⟩ = true) (f2 : fitB ⟨h2, v2, o2, g2⟩ = true) : Calls Tryz.prog 40 #[.int .i64 id, .int .i64 inp, ex h1 v1 o1 g1, ex h2 v2 o2 g2] w fun e w' => e = .returned (two (setX id inp ⟨h1, v1, o1, g1⟩ ⟨h2, v2, o2, g2⟩)) ∧ Below w.heap.size w w' := by
  have M := Mem.nil w
  have K0 := fun w => own12_any id inp w
  have K9 := fun w => own12_any id inp w
  have K1 := fun w => rfor_any id h1 v1 o1 g1 w f1
  have K2 := fun w => rfor_any id h2 v2 o2 g2 w f2
  have q4 := own_fit n1 n2
  have q5 := for_fit id f1
  have q6 := for_fit id f2
  unfold setX two
  dsimp only
  obtain ⟨h4, v4, o4, g4, e4⟩ : ∃ a b c d, ownX id inp = EX.mk a b c d := ⟨_, _, _, _, rfl⟩
  simp only [e4] at K0 K9 q4 ⊢
  obtain ⟨h5, v5, o5, g5, e5⟩ : ∃ a b c d, forX id ⟨h1, v1, o1, g1⟩ = EX.mk a b c d := ⟨_, _, _, _, rfl⟩
  simp only [e5] at K1 q5 ⊢
  obtain ⟨h6, v6, o6, g6, e6⟩ : ∃ a b c d, forX id ⟨h2, v2, o2, g2⟩ = EX.mk a b c d := ⟨_, _, _, _, rfl⟩
  simp only [e6] at K2 q6 ⊢
  have K3 := fun w => rleast_any h5 v5 o5 g5 h4 v4 o4 g4 w q5 q4
  have K4 := fun w => rgreat_any h6 v6 o6 g6 h4 v4 o4 g4 w q6 q4
  obtain ⟨h7, v7, o7, g7, e7⟩ : ∃ a b c d, holdX true ⟨h5, v5, o5, g5⟩ ⟨h4, v4, o4, g4⟩ = EX.mk a b c d := ⟨_, _, _, _, rfl⟩
  simp only [e7] at K3 ⊢
  obtain ⟨h8, v8, o8, g8, e8⟩ : ∃ a b c d, holdX false ⟨h6, v6, o6, g6⟩ ⟨h4, v4, o4, g4⟩ = EX.mk a b c d := ⟨_, _, _, _, rfl⟩
  simp only [e8] at K4 ⊢
  clear e4 e5 e6 e7 e8 f1 f2 q4 q5 q6 n1 n2
  go_enter Tryz.func40, Tryz.ntmps40
  go_wp2_with (first
      | ((with_reducible show wpList _ _ _ (Oper.mk (some 6) (Op.box 38 _) _ _ _ _ :: _) _ _); refine wpList_box M rfl _ rfl _ _ _ _ rfl ?_; clear M; intro k6 W M; skip)
      | ((with_reducible show wpList _ _ _ (Oper.mk (some 7) (Op.box 38 _) _ _ _ _ :: _) _ _); refine wpList_box M rfl _ rfl _ _ _ _ rfl ?_; clear M; intro k7 W M; skip)
      | ((with_reducible show wpList _ _ _ (Oper.mk (some 8) (Op.alloc 38) _ _ _ _ :: _) _ _); refine wpList_alloc M rfl rfl ?_; clear M; intro k8 W M; skip)
      | ((with_reducible show wpList _ _ _ (Oper.mk (some 9) (Op.alloc 38) _ _ _ _ :: _) _ _); refine wpList_alloc M rfl rfl ?_; clear M; intro k9 W M; skip))
  refine wp_region_any (by kernel_rfl) ?_
  change wpAny _ _ _ _ _ _ _ (World.drew _)
  replace M := M.drew
  generalize World.drew W = WD at M ⊢
  refine wpAny_narrow (fun W' => ∃ x y, Mem w W' [(k9, x), (k8, y), (k7, ⟨h2, v2, o2, g2⟩), (k6, ⟨h1, v1, o1, g1⟩)]) _ _ _ _ ?_
  refine anyH_take 0 10 (.int .i64 id) rfl rfl (by kernel_rfl) (by kernel_rfl) (by kernel_rfl) (fun _ _ _ h => h) (Or.inl ⟨by rfl, by intro w hSw; go_simp⟩) (⟨_, _, M⟩) ?_
  try simp only [Act.put, List.setIfInBounds_toArray, List.set_cons_zero, List.set_cons_succ]
  refine anyH_take 1 11 (ex h1 v1 o1 g1) rfl rfl (by kernel_rfl) (by kernel_rfl) (by kernel_rfl) (fun _ _ _ h => h) (Or.inl ⟨by rfl, fun X hSw => by obtain ⟨x, y, hm⟩ := hSw; exact exec_load23 rfl rfl (hm.get (.tail _ (.tail _ (.tail _ (.head _)))))⟩) (⟨_, _, M⟩) ?_
  try simp only [Act.put, List.setIfInBounds_toArray, List.set_cons_zero, List.set_cons_succ]
  refine anyH_take 3 13 (.int .i64 id) rfl rfl (by kernel_rfl) (by kernel_rfl) (by kernel_rfl) (fun _ _ _ h => h) (Or.inl ⟨by rfl, by intro w hSw; go_simp⟩) (⟨_, _, M⟩) ?_
  try simp only [Act.put, List.setIfInBounds_toArray, List.set_cons_zero, List.set_cons_succ]
  refine anyH_take 4 14 (.int .i64 inp) rfl rfl (by kernel_rfl) (by kernel_rfl) (by kernel_rfl) (fun _ _ _ h => h) (Or.inl ⟨by rfl, by intro w hSw; go_simp⟩) (⟨_, _, M⟩) ?_
  try simp only [Act.put, List.setIfInBounds_toArray, List.set_cons_zero, List.set_cons_succ]
  refine anyH_take 7 17 (.int .i64 id) rfl rfl (by kernel_rfl) (by kernel_rfl) (by kernel_rfl) (fun _ _ _ h => h) (Or.inl ⟨by rfl, by intro w hSw; go_simp⟩) (⟨_, _, M⟩) ?_
  try simp only [Act.put, List.setIfInBounds_toArray, List.set_cons_zero, List.set_cons_succ]
  refine anyH_take 8 18 (ex h2 v2 o2 g2) rfl rfl (by kernel_rfl) (by kernel_rfl) (by kernel_rfl) (fun _ _ _ h => h) (Or.inl ⟨by rfl, fun X hSw => by obtain ⟨x, y, hm⟩ := hSw; exact exec_load23 rfl rfl (hm.get (.tail _ (.tail _ (.head _))))⟩) (⟨_, _, M⟩) ?_
  try simp only [Act.put, List.setIfInBounds_toArray, List.set_cons_zero, List.set_cons_succ]
  refine anyH_take 10 20 (.int .i64 id) rfl rfl (by kernel_rfl) (by kernel_rfl) (by kernel_rfl) (fun _ _ _ h => h) (Or.inl ⟨by rfl, by intro w hSw; go_simp⟩) (⟨_, _, M⟩) ?_
  try simp only [Act.put, List.setIfInBounds_toArray, List.set_cons_zero, List.set_cons_succ]
  refine anyH_take 11 21 (.int .i64 inp) rfl rfl (by kernel_rfl) (by kernel_rfl) (by kernel_rfl) (fun _ _ _ h => h) (Or.inl ⟨by rfl, by intro w hSw; go_simp⟩) (⟨_, _, M⟩) ?_
  try simp only [Act.put, List.setIfInBounds_toArray, List.set_cons_zero, List.set_cons_succ]
  refine wpAnyH_ready (rs := [2]) (by kernel_rfl) (by simp) ?_
  refine AllReadyH.cons rfl (fun K hK => ?_) AllReadyH.nil
  go_simp
  go_wp2_with (go_at_call 76; refine (K1 _).mono ?_; clear K1; rintro e w1 ⟨rfl, b1⟩; replace M := M.later b1; clear b1)
  refine hK.out _ _ (⟨_, _, M⟩) (fun hS => ?_)
  clear hK
  refine wpAnyH_ready (rs := [5]) (by kernel_rfl) (by simp) ?_
  refine AllReadyH.cons rfl (fun K hK => ?_) AllReadyH.nil
  go_simp
  go_wp2_with (go_at_call 77; refine (K0 _).mono ?_; clear K0; rintro e w1 ⟨rfl, b1⟩; replace M := M.later b1; clear b1)
  refine hK.out _ _ (⟨_, _, M⟩) (fun hS => ?_)
  clear hK
  refine wpAnyH_ready (rs := [6]) (by kernel_rfl) (by simp) ?_
  refine AllReadyH.cons rfl (fun K hK => ?_) AllReadyH.nil
  go_simp
  go_wp2_with (go_at_call 75; refine (K3 _).mono ?_; clear K3; rintro e w1 ⟨rfl, b1⟩; replace M := M.later b1; clear b1)
  refine hK.out _ _ (⟨_, _, M⟩) (fun hS => ?_)
  clear hK
  refine wpAnyH_ready (rs := [9]) (by kernel_rfl) (by simp) ?_
  refine AllReadyH.cons rfl (fun K hK => ?_) AllReadyH.nil
  go_simp
  go_wp2_with (go_at_call 76; refine (K2 _).mono ?_; clear K2; rintro e w1 ⟨rfl, b1⟩; replace M := M.later b1; clear b1)
  refine hK.out _ _ (⟨_, _, M⟩) (fun hS => ?_)
  clear hK
  refine wpAnyH_ready (rs := [12]) (by kernel_rfl) (by simp) ?_
  refine AllReadyH.cons rfl (fun K hK => ?_) AllReadyH.nil
  go_simp
  go_wp2_with (go_at_call 77; refine (K9 _).mono ?_; clear K9; rintro e w1 ⟨rfl, b1⟩; replace M := M.later b1; clear b1)
  refine hK.out _ _ (⟨_, _, M⟩) (fun hS => ?_)
  clear hK
  refine wpAnyH_ready (rs := [13]) (by kernel_rfl) (by simp) ?_
  refine AllReadyH.cons rfl (fun K hK => ?_) AllReadyH.nil
  go_simp
  go_wp2_with (go_at_call 78; refine (K4 _).mono ?_; clear K4; rintro e w1 ⟨rfl, b1⟩; replace M := M.later b1; clear b1)
  refine hK.out _ _ (⟨_, _, M⟩) (fun hS => ?_)
  clear hK
  refine wpAnyH_ready (rs := [14]) (by kernel_rfl) (by simp) ?_
  refine AllReadyH.cons rfl (fun K hK => ?_) AllReadyH.nil
  rw [if_pos (by rfl)]
  refine wp_put M _ _ rfl 1 _ _ _ _ rfl rfl rfl ?_
  clear M
  intro W M
  simp only [List.set_cons_zero, List.set_cons_succ] at M
  refine hK.out _ _ (⟨_, _, M⟩) (fun hS => ?_)
  clear hK
  refine wpAnyH_ready (rs := [15]) (by kernel_rfl) (by simp) ?_
  refine AllReadyH.cons rfl (fun K hK => ?_) AllReadyH.nil
  rw [if_pos (by rfl)]
  refine wp_put M _ _ rfl 0 _ _ _ _ rfl rfl rfl ?_
  clear M
  intro W M
  simp only [List.set_cons_zero, List.set_cons_succ] at M
  refine hK.out _ _ (⟨_, _, M⟩) (fun hS => ?_)
  clear hK
  refine wpAnyH_done (by kernel_rfl) ?_ _
  go_wp2
  exact bodyPost_ret (results_cc rfl _ _ _ _ ⟨h7, v7, o7, g7⟩ ⟨h8, v8, o8, g8⟩ rfl rfl (M.get (.tail _ (.head _))) (M.get (.head _))) rfl ⟨rfl, M.below⟩
set_option maxRecDepth 100000 in
set_option maxHeartbeats 2000000 in
theorem rtick_any (id : Int) (has : Bool) (inp : Int) (h1 : Bool) (v1 o1 g1 : Int) (h2 : Bool) (v2 o2 g2 : Int) (w : World) (n1 : nodeB id = true) (n2 : flowB inp = true) (f1 : fitB ⟨h1, v1, o1, g1⟩ = true) (f2 : fitB ⟨h2, v2, o2, g2⟩ = true) : Calls Tryz.prog 43 #[.int .i64 id, .bool has, .int .i64 inp, ex h1 v1 o1 g1, ex h2 v2 o2 g2] w fun e w' => e = .returned (two (tickX id has inp ⟨h1, v1, o1, g1⟩ ⟨h2, v2, o2, g2⟩)) ∧ Below w.heap.size w w' := by
  have M := Mem.nil w
  have K1 := fun w => rold_any h1 v1 o1 g1 w f1
  have K2 := fun w => rold_any h2 v2 o2 g2 w f2
  have q3 := old_fit f1
  have q4 := old_fit f2
  unfold tickX
  obtain ⟨h3, v3, o3, g3, e3⟩ : ∃ a b c d, oldX ⟨h1, v1, o1, g1⟩ = EX.mk a b c d := ⟨_, _, _, _, rfl⟩
  simp only [e3] at K1 q3 ⊢
  obtain ⟨h4, v4, o4, g4, e4⟩ : ∃ a b c d, oldX ⟨h2, v2, o2, g2⟩ = EX.mk a b c d := ⟨_, _, _, _, rfl⟩
  simp only [e4] at K2 q4 ⊢
  have K3 := fun w => rfor_any id h3 v3 o3 g3 w q3
  have K4 := fun w => rfor_any id h4 v4 o4 g4 w q4
  have q5 := for_fit id q3
  have q6 := for_fit id q4
  unfold setX
  obtain ⟨h5, v5, o5, g5, e5⟩ : ∃ a b c d, forX id ⟨h3, v3, o3, g3⟩ = EX.mk a b c d := ⟨_, _, _, _, rfl⟩
  simp only [e5] at K3 q5 ⊢
  obtain ⟨h6, v6, o6, g6, e6⟩ : ∃ a b c d, forX id ⟨h4, v4, o4, g4⟩ = EX.mk a b c d := ⟨_, _, _, _, rfl⟩
  simp only [e6] at K4 q6 ⊢
  clear e3 e4 e5 e6 f1 f2 q3 q4
  cases has with
  | false =>
    rw [if_neg (by decide)]
    clear q5 q6
    unfold two
    dsimp only
    go_enter Tryz.func43, Tryz.ntmps43
    go_wp2_with (first
      | ((with_reducible show wpList _ _ _ (Oper.mk (some 8) (Op.box 38 _) _ _ _ _ :: _) _ _); refine wpList_box M rfl _ rfl _ _ _ _ rfl ?_; clear M; intro k8 W M; skip)
      | ((with_reducible show wpList _ _ _ (Oper.mk (some 9) (Op.box 38 _) _ _ _ _ :: _) _ _); refine wpList_box M rfl _ rfl _ _ _ _ rfl ?_; clear M; intro k9 W M; skip)
      | ((with_reducible show wpList _ _ _ (Oper.mk (some 10) (Op.alloc 38) _ _ _ _ :: _) _ _); refine wpList_alloc M rfl rfl ?_; clear M; intro k10 W M; skip)
      | ((with_reducible show wpList _ _ _ (Oper.mk (some 11) (Op.alloc 38) _ _ _ _ :: _) _ _); refine wpList_alloc M rfl rfl ?_; clear M; intro k11 W M; skip)
      | ((with_reducible show wpList _ _ _ (Oper.mk (some 12) (Op.alloc 38) _ _ _ _ :: _) _ _); refine wpList_alloc M rfl rfl ?_; clear M; intro k12 W M; skip)
      | ((with_reducible show wpList _ _ _ (Oper.mk (some 13) (Op.alloc 38) _ _ _ _ :: _) _ _); refine wpList_alloc M rfl rfl ?_; clear M; intro k13 W M; skip)
      | ((with_reducible show wpList _ _ _ (Oper.mk _ (Op.load 38 _) _ _ _ _ :: _) _ _); refine wpList_load M rfl _ rfl rfl (by first | exact .head _ | exact .tail _ (.head _) | exact .tail _ (.tail _ (.head _)) | exact .tail _ (.tail _ (.tail _ (.head _))) | exact .tail _ (.tail _ (.tail _ (.tail _ (.head _))))) ?_)
      | ((with_reducible show wpList _ _ _ (Oper.mk _ (Op.store 38 _ _) _ _ _ _ :: _) _ _); (first | (refine wpList_put M rfl _ _ rfl 0 _ _ _ _ rfl rfl rfl ?_)); clear M; intro W M; simp only [List.set_cons_zero, List.set_cons_succ] at M)
      | (go_at_call 80; refine (K1 _).mono ?_; clear K1; rintro e w1 ⟨rfl, b1⟩; replace M := M.later b1; clear b1)
      | (go_at_call 76; refine (K3 _).mono ?_; clear K3; rintro e w1 ⟨rfl, b1⟩; replace M := M.later b1; clear b1)
      | (go_at_call 80; refine (K2 _).mono ?_; clear K2; rintro e w1 ⟨rfl, b1⟩; replace M := M.later b1; clear b1)
      | (go_at_call 76; refine (K4 _).mono ?_; clear K4; rintro e w1 ⟨rfl, b1⟩; replace M := M.later b1; clear b1))
    refine wp_region_any (by kernel_rfl) ?_
    change wpAny _ _ _ _ _ _ _ (World.drew _)
    replace M := M.drew
    generalize World.drew W = WD at M ⊢
    refine wpAny_narrow (fun W' => ∃ x y, Mem w W' [(k13, ⟨h6, v6, o6, g6⟩), (k12, ⟨h5, v5, o5, g5⟩), (k11, x), (k10, y), (k9, ⟨h2, v2, o2, g2⟩), (k8, ⟨h1, v1, o1, g1⟩)]) _ _ _ _ ?_
    refine anyH_take 0 24 (ex h5 v5 o5 g5) rfl rfl (by kernel_rfl) (by kernel_rfl) (by kernel_rfl) (fun _ _ _ h => h) (Or.inl ⟨by rfl, fun X hSw => by obtain ⟨x, y, hm⟩ := hSw; exact exec_load23 rfl rfl (hm.get (.tail _ (.head _)))⟩) (⟨_, _, M⟩) ?_
    try simp only [Act.put, List.setIfInBounds_toArray, List.set_cons_zero, List.set_cons_succ]
    refine anyH_take 1 25 (ex h6 v6 o6 g6) rfl rfl (by kernel_rfl) (by kernel_rfl) (by kernel_rfl) (fun _ _ _ h => h) (Or.inl ⟨by rfl, fun X hSw => by obtain ⟨x, y, hm⟩ := hSw; exact exec_load23 rfl rfl (hm.get (.head _))⟩) (⟨_, _, M⟩) ?_
    try simp only [Act.put, List.setIfInBounds_toArray, List.set_cons_zero, List.set_cons_succ]
    refine wpAnyH_ready (rs := [2]) (by kernel_rfl) (by simp) ?_
    refine AllReadyH.cons rfl (fun K hK => ?_) AllReadyH.nil
    rw [if_pos (by rfl)]
    refine wp_put M _ _ rfl 3 _ _ _ _ rfl rfl rfl ?_
    clear M
    intro W M
    simp only [List.set_cons_zero, List.set_cons_succ] at M
    refine hK.out _ _ (⟨_, _, M⟩) (fun hS => ?_)
    clear hK
    refine wpAnyH_ready (rs := [3]) (by kernel_rfl) (by simp) ?_
    refine AllReadyH.cons rfl (fun K hK => ?_) AllReadyH.nil
    rw [if_pos (by rfl)]
    refine wp_put M _ _ rfl 2 _ _ _ _ rfl rfl rfl ?_
    clear M
    intro W M
    simp only [List.set_cons_zero, List.set_cons_succ] at M
    refine hK.out _ _ (⟨_, _, M⟩) (fun hS => ?_)
    clear hK
    refine wpAnyH_done (by kernel_rfl) ?_ _
    go_wp2
    exact bodyPost_ret (results_cc rfl _ _ _ _ ⟨h5, v5, o5, g5⟩ ⟨h6, v6, o6, g6⟩ rfl rfl (M.get (.tail _ (.tail _ (.tail _ (.head _))))) (M.get (.tail _ (.tail _ (.head _))))) rfl ⟨rfl, M.below⟩
  | true =>
    rw [if_pos rfl]
    have K5 := fun w => own12_any id inp w
    have K8 := fun w => own12_any id inp w
    have q7 := own_fit n1 n2
    obtain ⟨h7, v7, o7, g7, e7⟩ : ∃ a b c d, ownX id inp = EX.mk a b c d := ⟨_, _, _, _, rfl⟩
    simp only [e7] at K5 K8 q7 ⊢
    have K6 := fun w => rleast_any h5 v5 o5 g5 h7 v7 o7 g7 w q5 q7
    have K7 := fun w => rgreat_any h6 v6 o6 g6 h7 v7 o7 g7 w q6 q7
    obtain ⟨h8, v8, o8, g8, e8⟩ : ∃ a b c d, holdX true ⟨h5, v5, o5, g5⟩ ⟨h7, v7, o7, g7⟩ = EX.mk a b c d := ⟨_, _, _, _, rfl⟩
    simp only [e8] at K6 ⊢
    obtain ⟨h9, v9, o9, g9, e9⟩ : ∃ a b c d, holdX false ⟨h6, v6, o6, g6⟩ ⟨h7, v7, o7, g7⟩ = EX.mk a b c d := ⟨_, _, _, _, rfl⟩
    simp only [e9] at K7 ⊢
    clear e7 e8 e9 q5 q6 q7 n1 n2
    unfold two
    dsimp only
    go_enter Tryz.func43, Tryz.ntmps43
    go_wp2_with (first
      | ((with_reducible show wpList _ _ _ (Oper.mk (some 8) (Op.box 38 _) _ _ _ _ :: _) _ _); refine wpList_box M rfl _ rfl _ _ _ _ rfl ?_; clear M; intro k8 W M; skip)
      | ((with_reducible show wpList _ _ _ (Oper.mk (some 9) (Op.box 38 _) _ _ _ _ :: _) _ _); refine wpList_box M rfl _ rfl _ _ _ _ rfl ?_; clear M; intro k9 W M; skip)
      | ((with_reducible show wpList _ _ _ (Oper.mk (some 10) (Op.alloc 38) _ _ _ _ :: _) _ _); refine wpList_alloc M rfl rfl ?_; clear M; intro k10 W M; skip)
      | ((with_reducible show wpList _ _ _ (Oper.mk (some 11) (Op.alloc 38) _ _ _ _ :: _) _ _); refine wpList_alloc M rfl rfl ?_; clear M; intro k11 W M; skip)
      | ((with_reducible show wpList _ _ _ (Oper.mk (some 12) (Op.alloc 38) _ _ _ _ :: _) _ _); refine wpList_alloc M rfl rfl ?_; clear M; intro k12 W M; skip)
      | ((with_reducible show wpList _ _ _ (Oper.mk (some 13) (Op.alloc 38) _ _ _ _ :: _) _ _); refine wpList_alloc M rfl rfl ?_; clear M; intro k13 W M; skip)
      | ((with_reducible show wpList _ _ _ (Oper.mk _ (Op.load 38 _) _ _ _ _ :: _) _ _); refine wpList_load M rfl _ rfl rfl (by first | exact .head _ | exact .tail _ (.head _) | exact .tail _ (.tail _ (.head _)) | exact .tail _ (.tail _ (.tail _ (.head _))) | exact .tail _ (.tail _ (.tail _ (.tail _ (.head _))))) ?_)
      | ((with_reducible show wpList _ _ _ (Oper.mk _ (Op.store 38 _ _) _ _ _ _ :: _) _ _); (first | (refine wpList_put M rfl _ _ rfl 0 _ _ _ _ rfl rfl rfl ?_)); clear M; intro W M; simp only [List.set_cons_zero, List.set_cons_succ] at M)
      | (go_at_call 80; refine (K1 _).mono ?_; clear K1; rintro e w1 ⟨rfl, b1⟩; replace M := M.later b1; clear b1)
      | (go_at_call 76; refine (K3 _).mono ?_; clear K3; rintro e w1 ⟨rfl, b1⟩; replace M := M.later b1; clear b1)
      | (go_at_call 80; refine (K2 _).mono ?_; clear K2; rintro e w1 ⟨rfl, b1⟩; replace M := M.later b1; clear b1)
      | (go_at_call 76; refine (K4 _).mono ?_; clear K4; rintro e w1 ⟨rfl, b1⟩; replace M := M.later b1; clear b1))
    refine wp_region_any (by kernel_rfl) ?_
    change wpAny _ _ _ _ _ _ _ (World.drew _)
    replace M := M.drew
    generalize World.drew W = WD at M ⊢
    refine wpAny_narrow (fun W' => ∃ x y, Mem w W' [(k13, ⟨h6, v6, o6, g6⟩), (k12, ⟨h5, v5, o5, g5⟩), (k11, x), (k10, y), (k9, ⟨h2, v2, o2, g2⟩), (k8, ⟨h1, v1, o1, g1⟩)]) _ _ _ _ ?_
    refine anyH_take 0 26 (ex h5 v5 o5 g5) rfl rfl (by kernel_rfl) (by kernel_rfl) (by kernel_rfl) (fun _ _ _ h => h) (Or.inl ⟨by rfl, fun X hSw => by obtain ⟨x, y, hm⟩ := hSw; exact exec_load23 rfl rfl (hm.get (.tail _ (.head _)))⟩) (⟨_, _, M⟩) ?_
    try simp only [Act.put, List.setIfInBounds_toArray, List.set_cons_zero, List.set_cons_succ]
    refine anyH_take 1 27 (.int .i64 id) rfl rfl (by kernel_rfl) (by kernel_rfl) (by kernel_rfl) (fun _ _ _ h => h) (Or.inl ⟨by rfl, by intro w hSw; go_simp⟩) (⟨_, _, M⟩) ?_
    try simp only [Act.put, List.setIfInBounds_toArray, List.set_cons_zero, List.set_cons_succ]
    refine anyH_take 2 28 (.int .i64 inp) rfl rfl (by kernel_rfl) (by kernel_rfl) (by kernel_rfl) (fun _ _ _ h => h) (Or.inl ⟨by rfl, by intro w hSw; go_simp⟩) (⟨_, _, M⟩) ?_
    try simp only [Act.put, List.setIfInBounds_toArray, List.set_cons_zero, List.set_cons_succ]
    refine anyH_take 5 31 (ex h6 v6 o6 g6) rfl rfl (by kernel_rfl) (by kernel_rfl) (by kernel_rfl) (fun _ _ _ h => h) (Or.inl ⟨by rfl, fun X hSw => by obtain ⟨x, y, hm⟩ := hSw; exact exec_load23 rfl rfl (hm.get (.head _))⟩) (⟨_, _, M⟩) ?_
    try simp only [Act.put, List.setIfInBounds_toArray, List.set_cons_zero, List.set_cons_succ]
    refine anyH_take 6 32 (.int .i64 id) rfl rfl (by kernel_rfl) (by kernel_rfl) (by kernel_rfl) (fun _ _ _ h => h) (Or.inl ⟨by rfl, by intro w hSw; go_simp⟩) (⟨_, _, M⟩) ?_
    try simp only [Act.put, List.setIfInBounds_toArray, List.set_cons_zero, List.set_cons_succ]
    refine anyH_take 7 33 (.int .i64 inp) rfl rfl (by kernel_rfl) (by kernel_rfl) (by kernel_rfl) (fun _ _ _ h => h) (Or.inl ⟨by rfl, by intro w hSw; go_simp⟩) (⟨_, _, M⟩) ?_
    try simp only [Act.put, List.setIfInBounds_toArray, List.set_cons_zero, List.set_cons_succ]
    refine wpAnyH_ready (rs := [3]) (by kernel_rfl) (by simp) ?_
    refine AllReadyH.cons rfl (fun K hK => ?_) AllReadyH.nil
    go_simp
    go_wp2_with (go_at_call 77; refine (K5 _).mono ?_; clear K5; rintro e w1 ⟨rfl, b1⟩; replace M := M.later b1; clear b1)
    refine hK.out _ _ (⟨_, _, M⟩) (fun hS => ?_)
    clear hK
    refine wpAnyH_ready (rs := [4]) (by kernel_rfl) (by simp) ?_
    refine AllReadyH.cons rfl (fun K hK => ?_) AllReadyH.nil
    go_simp
    go_wp2_with (go_at_call 75; refine (K6 _).mono ?_; clear K6; rintro e w1 ⟨rfl, b1⟩; replace M := M.later b1; clear b1)
    refine hK.out _ _ (⟨_, _, M⟩) (fun hS => ?_)
    clear hK
    refine wpAnyH_ready (rs := [8]) (by kernel_rfl) (by simp) ?_
    refine AllReadyH.cons rfl (fun K hK => ?_) AllReadyH.nil
    go_simp
    go_wp2_with (go_at_call 77; refine (K8 _).mono ?_; clear K8; rintro e w1 ⟨rfl, b1⟩; replace M := M.later b1; clear b1)
    refine hK.out _ _ (⟨_, _, M⟩) (fun hS => ?_)
    clear hK
    refine wpAnyH_ready (rs := [9]) (by kernel_rfl) (by simp) ?_
    refine AllReadyH.cons rfl (fun K hK => ?_) AllReadyH.nil
    go_simp
    go_wp2_with (go_at_call 78; refine (K7 _).mono ?_; clear K7; rintro e w1 ⟨rfl, b1⟩; replace M := M.later b1; clear b1)
    refine hK.out _ _ (⟨_, _, M⟩) (fun hS => ?_)
    clear hK
    refine wpAnyH_ready (rs := [10]) (by kernel_rfl) (by simp) ?_
    refine AllReadyH.cons rfl (fun K hK => ?_) AllReadyH.nil
    rw [if_pos (by rfl)]
    refine wp_put M _ _ rfl 3 _ _ _ _ rfl rfl rfl ?_
    clear M
    intro W M
    simp only [List.set_cons_zero, List.set_cons_succ] at M
    refine hK.out _ _ (⟨_, _, M⟩) (fun hS => ?_)
    clear hK
    refine wpAnyH_ready (rs := [11]) (by kernel_rfl) (by simp) ?_
    refine AllReadyH.cons rfl (fun K hK => ?_) AllReadyH.nil
    rw [if_pos (by rfl)]
    refine wp_put M _ _ rfl 2 _ _ _ _ rfl rfl rfl ?_
    clear M
    intro W M
    simp only [List.set_cons_zero, List.set_cons_succ] at M
    refine hK.out _ _ (⟨_, _, M⟩) (fun hS => ?_)
    clear hK
    refine wpAnyH_done (by kernel_rfl) ?_ _
    go_wp2
    exact bodyPost_ret (results_cc rfl _ _ _ _ ⟨h8, v8, o8, g8⟩ ⟨h9, v9, o9, g9⟩ rfl rfl (M.get (.tail _ (.tail _ (.tail _ (.head _))))) (M.get (.tail _ (.tail _ (.head _))))) rfl ⟨rfl, M.below⟩
end Go.Proofs.YtoeebofappbneaaGreat.E
