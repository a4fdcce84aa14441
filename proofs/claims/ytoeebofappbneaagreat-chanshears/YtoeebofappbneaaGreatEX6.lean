/-
  Package ext: what Hear, Set and Tick return.
-/
import Derived.Test.YtoeebofappbneaaGreatEX4
import Derived.Test.YtoeebofappbneaaGreatEX5
import Derived.Test.YtoeebofappbneaaGreatEHeldM
namespace Go.Proofs.YtoeebofappbneaaGreat.E
open Go.ChangeShapes Go.WideShapes Go.ChangeAt Go.RowKit
set_option linter.unusedVariables false
set_option linter.unusedSimpArgs false

/-- Two values behind what a peer told; behind a new input; a tick later. -/
def hearX (id : Int) (a b c d : EX) : EX × EX := (holdX true a (forX id c), holdX false b (forX id d))
def setX (id inp : Int) (a b : EX) : EX × EX := (holdX true (forX id a) (ownX id inp), holdX false (forX id b) (ownX id inp))
def tickX (id : Int) (has : Bool) (inp : Int) (a b : EX) : EX × EX := if has = true then setX id inp (oldX a) (oldX b) else (forX id (oldX a), forX id (oldX b))
def two (p : EX × EX) : Value := .tuple #[p.1.val, p.2.val]
set_option maxRecDepth 100000 in
set_option maxHeartbeats 2000000 in
theorem hear_any (id : Int) (h1 : Bool) (v1 o1 g1 : Int) (h2 : Bool) (v2 o2 g2 : Int) (h3 : Bool) (v3 o3 g3 : Int) (h4 : Bool) (v4 o4 g4 : Int) (w : World) : Calls Tryz.prog 42 #[.int .i64 id, ex h1 v1 o1 g1, ex h2 v2 o2 g2, ex h3 v3 o3 g3, ex h4 v4 o4 g4] w fun e w' => e = .returned (two (hearX id ⟨h1, v1, o1, g1⟩ ⟨h2, v2, o2, g2⟩ ⟨h3, v3, o3, g3⟩ ⟨h4, v4, o4, g4⟩)) ∧ Below w.heap.size w w' := by
  have M := Mem.nil w
  have K1 := fun w => for_any id h3 v3 o3 g3 w
  have K2 := fun w => for_any id h4 v4 o4 g4 w
  unfold hearX two
  dsimp only
  obtain ⟨h5, v5, o5, g5, e5⟩ : ∃ a b c d, forX id ⟨h3, v3, o3, g3⟩ = EX.mk a b c d := ⟨_, _, _, _, rfl⟩
  simp only [e5] at K1 ⊢
  obtain ⟨h6, v6, o6, g6, e6⟩ : ∃ a b c d, forX id ⟨h4, v4, o4, g4⟩ = EX.mk a b c d := ⟨_, _, _, _, rfl⟩
  simp only [e6] at K2 ⊢
  have K3 := fun w => least_any h1 v1 o1 g1 h5 v5 o5 g5 w
  have K4 := fun w => great_any h2 v2 o2 g2 h6 v6 o6 g6 w
  obtain ⟨h7, v7, o7, g7, e7⟩ : ∃ a b c d, holdX true ⟨h1, v1, o1, g1⟩ ⟨h5, v5, o5, g5⟩ = EX.mk a b c d := ⟨_, _, _, _, rfl⟩
  simp only [e7] at K3 ⊢
  obtain ⟨h8, v8, o8, g8, e8⟩ : ∃ a b c d, holdX false ⟨h2, v2, o2, g2⟩ ⟨h6, v6, o6, g6⟩ = EX.mk a b c d := ⟨_, _, _, _, rfl⟩
  simp only [e8] at K4 ⊢
  clear e5 e6 e7 e8
  go_enter Tryz.func42, Tryz.ntmps42
  go_wp2_with (first
      | ((with_reducible show wpList _ _ _ (Oper.mk (some 6) (Op.box 38 _) _ _ _ _ :: _) _ _); refine wpList_box M rfl _ rfl _ _ _ _ rfl ?_; clear M; intro k6 W M; skip)
      | ((with_reducible show wpList _ _ _ (Oper.mk (some 7) (Op.box 38 _) _ _ _ _ :: _) _ _); refine wpList_box M rfl _ rfl _ _ _ _ rfl ?_; clear M; intro k7 W M; skip)
      | ((with_reducible show wpList _ _ _ (Oper.mk (some 8) (Op.box 38 _) _ _ _ _ :: _) _ _); refine wpList_box M rfl _ rfl _ _ _ _ rfl ?_; clear M; intro k8 W M; skip)
      | ((with_reducible show wpList _ _ _ (Oper.mk (some 9) (Op.box 38 _) _ _ _ _ :: _) _ _); refine wpList_box M rfl _ rfl _ _ _ _ rfl ?_; clear M; intro k9 W M; skip)
      | ((with_reducible show wpList _ _ _ (Oper.mk (some 10) (Op.alloc 38) _ _ _ _ :: _) _ _); refine wpList_alloc M rfl rfl ?_; clear M; intro k10 W M; skip)
      | ((with_reducible show wpList _ _ _ (Oper.mk (some 11) (Op.alloc 38) _ _ _ _ :: _) _ _); refine wpList_alloc M rfl rfl ?_; clear M; intro k11 W M; skip))
  refine wp_region_any (by kernel_rfl) ?_
  change wpAny _ _ _ _ _ _ _ (World.drew _)
  replace M := M.drew
  generalize World.drew W = WD at M ⊢
  refine wpAny_narrow (fun W' => ∃ x y, Mem w W' [(k11, x), (k10, y), (k9, ⟨h4, v4, o4, g4⟩), (k8, ⟨h3, v3, o3, g3⟩), (k7, ⟨h2, v2, o2, g2⟩), (k6, ⟨h1, v1, o1, g1⟩)]) _ _ _ _ ?_
  refine anyH_take 0 12 (ex h1 v1 o1 g1) rfl rfl (by kernel_rfl) (by kernel_rfl) (by kernel_rfl) (fun _ _ _ h => h) (Or.inl ⟨by rfl, fun X hSw => by obtain ⟨x, y, hm⟩ := hSw; exact exec_load23 rfl rfl (hm.get (.tail _ (.tail _ (.tail _ (.tail _ (.tail _ (.head _)))))))⟩) (⟨_, _, M⟩) ?_
  try simp only [Act.put, List.setIfInBounds_toArray, List.set_cons_zero, List.set_cons_succ]
  refine anyH_take 1 13 (.int .i64 id) rfl rfl (by kernel_rfl) (by kernel_rfl) (by kernel_rfl) (fun _ _ _ h => h) (Or.inl ⟨by rfl, by intro w hSw; go_simp⟩) (⟨_, _, M⟩) ?_
  try simp only [Act.put, List.setIfInBounds_toArray, List.set_cons_zero, List.set_cons_succ]
  refine anyH_take 2 14 (ex h3 v3 o3 g3) rfl rfl (by kernel_rfl) (by kernel_rfl) (by kernel_rfl) (fun _ _ _ h => h) (Or.inl ⟨by rfl, fun X hSw => by obtain ⟨x, y, hm⟩ := hSw; exact exec_load23 rfl rfl (hm.get (.tail _ (.tail _ (.tail _ (.head _)))))⟩) (⟨_, _, M⟩) ?_
  try simp only [Act.put, List.setIfInBounds_toArray, List.set_cons_zero, List.set_cons_succ]
  refine anyH_take 5 17 (ex h2 v2 o2 g2) rfl rfl (by kernel_rfl) (by kernel_rfl) (by kernel_rfl) (fun _ _ _ h => h) (Or.inl ⟨by rfl, fun X hSw => by obtain ⟨x, y, hm⟩ := hSw; exact exec_load23 rfl rfl (hm.get (.tail _ (.tail _ (.tail _ (.tail _ (.head _))))))⟩) (⟨_, _, M⟩) ?_
  try simp only [Act.put, List.setIfInBounds_toArray, List.set_cons_zero, List.set_cons_succ]
  refine anyH_take 6 18 (.int .i64 id) rfl rfl (by kernel_rfl) (by kernel_rfl) (by kernel_rfl) (fun _ _ _ h => h) (Or.inl ⟨by rfl, by intro w hSw; go_simp⟩) (⟨_, _, M⟩) ?_
  try simp only [Act.put, List.setIfInBounds_toArray, List.set_cons_zero, List.set_cons_succ]
  refine anyH_take 7 19 (ex h4 v4 o4 g4) rfl rfl (by kernel_rfl) (by kernel_rfl) (by kernel_rfl) (fun _ _ _ h => h) (Or.inl ⟨by rfl, fun X hSw => by obtain ⟨x, y, hm⟩ := hSw; exact exec_load23 rfl rfl (hm.get (.tail _ (.tail _ (.head _))))⟩) (⟨_, _, M⟩) ?_
  try simp only [Act.put, List.setIfInBounds_toArray, List.set_cons_zero, List.set_cons_succ]
  refine wpAnyH_ready (rs := [3]) (by kernel_rfl) (by simp) ?_
  refine AllReadyH.cons rfl (fun K hK => ?_) AllReadyH.nil
  go_simp
  go_wp2_with (go_at_call 72; refine (K1 _).mono ?_; clear K1; rintro e w1 ⟨rfl, b1⟩; replace M := M.later b1; clear b1)
  refine hK.out _ _ (⟨_, _, M⟩) (fun hS => ?_)
  clear hK
  refine wpAnyH_ready (rs := [4]) (by kernel_rfl) (by simp) ?_
  refine AllReadyH.cons rfl (fun K hK => ?_) AllReadyH.nil
  go_simp
  go_wp2_with (go_at_call 71; refine (K3 _).mono ?_; clear K3; rintro e w1 ⟨rfl, b1⟩; replace M := M.later b1; clear b1)
  refine hK.out _ _ (⟨_, _, M⟩) (fun hS => ?_)
  clear hK
  refine wpAnyH_ready (rs := [8]) (by kernel_rfl) (by simp) ?_
  refine AllReadyH.cons rfl (fun K hK => ?_) AllReadyH.nil
  go_simp
  go_wp2_with (go_at_call 72; refine (K2 _).mono ?_; clear K2; rintro e w1 ⟨rfl, b1⟩; replace M := M.later b1; clear b1)
  refine hK.out _ _ (⟨_, _, M⟩) (fun hS => ?_)
  clear hK
  refine wpAnyH_ready (rs := [9]) (by kernel_rfl) (by simp) ?_
  refine AllReadyH.cons rfl (fun K hK => ?_) AllReadyH.nil
  go_simp
  go_wp2_with (go_at_call 73; refine (K4 _).mono ?_; clear K4; rintro e w1 ⟨rfl, b1⟩; replace M := M.later b1; clear b1)
  refine hK.out _ _ (⟨_, _, M⟩) (fun hS => ?_)
  clear hK
  refine wpAnyH_ready (rs := [10]) (by kernel_rfl) (by simp) ?_
  refine AllReadyH.cons rfl (fun K hK => ?_) AllReadyH.nil
  rw [if_pos (by rfl)]
  refine wp_put M _ _ rfl 1 _ _ _ _ rfl rfl rfl ?_
  clear M
  intro W M
  simp only [List.set_cons_zero, List.set_cons_succ] at M
  refine hK.out _ _ (⟨_, _, M⟩) (fun hS => ?_)
  clear hK
  refine wpAnyH_ready (rs := [11]) (by kernel_rfl) (by simp) ?_
  refine AllReadyH.cons rfl (fun K hK => ?_) AllReadyH.nil
  rw [if_pos (by rfl)]
  refine wp_put M _ _ rfl 0 _ _ _ _ rfl rfl rfl ?_
  clear M
  intro W M
  simp only [List.set_cons_zero, List.set_cons_succ] at M
  refine hK.out _ _ (⟨_, _, M⟩) (fun hS => ?_)
  clear hK
  refine wpAnyH_done (by kernel_rfl) ?_ _
  go_wp2
  exact bodyPost_ret (results_cc rfl _ _ _ _ ⟨h7, v7, o7, g7⟩ ⟨h8, v8, o8, g8⟩ rfl rfl (M.get (.tail _ (.head _))) (M.get (.head _))) rfl ⟨rfl, M.below⟩
set_option maxRecDepth 100000 in
set_option maxHeartbeats 2000000 in
theorem set_any (id inp : Int) (h1 : Bool) (v1 o1 g1 : Int) (h2 : Bool) (v2 o2 g2 : Int) (w : World) : Calls Tryz.prog 37 #[.int .i64 id, .int .i64 inp, ex h1 v1 o1 g1, ex h2 v2 o2 g2] w fun e w' => e = .returned (two (setX id inp ⟨h1, v1, o1, g1⟩ ⟨h2, v2, o2, g2⟩)) ∧ Below w.heap.size w w' := by
  have M := Mem.nil w
  have K0 := fun w => own11_any id inp w
  have K1 := fun w => for_any id h1 v1 o1 g1 w
  have K2 := fun w => for_any id h2 v2 o2 g2 w
  unfold setX two
  dsimp only
  obtain ⟨h4, v4, o4, g4, e4⟩ : ∃ a b c d, ownX id inp = EX.mk a b c d := ⟨_, _, _, _, rfl⟩
  simp only [e4] at K0 ⊢
  obtain ⟨h5, v5, o5, g5, e5⟩ : ∃ a b c d, forX id ⟨h1, v1, o1, g1⟩ = EX.mk a b c d := ⟨_, _, _, _, rfl⟩
  simp only [e5] at K1 ⊢
  obtain ⟨h6, v6, o6, g6, e6⟩ : ∃ a b c d, forX id ⟨h2, v2, o2, g2⟩ = EX.mk a b c d := ⟨_, _, _, _, rfl⟩
  simp only [e6] at K2 ⊢
  have K3 := fun w => least_any h5 v5 o5 g5 h4 v4 o4 g4 w
  have K4 := fun w => great_any h6 v6 o6 g6 h4 v4 o4 g4 w
  obtain ⟨h7, v7, o7, g7, e7⟩ : ∃ a b c d, holdX true ⟨h5, v5, o5, g5⟩ ⟨h4, v4, o4, g4⟩ = EX.mk a b c d := ⟨_, _, _, _, rfl⟩
  simp only [e7] at K3 ⊢
  obtain ⟨h8, v8, o8, g8, e8⟩ : ∃ a b c d, holdX false ⟨h6, v6, o6, g6⟩ ⟨h4, v4, o4, g4⟩ = EX.mk a b c d := ⟨_, _, _, _, rfl⟩
  simp only [e8] at K4 ⊢
  clear e4 e5 e6 e7 e8
  go_enter Tryz.func37, Tryz.ntmps37
  go_wp2_with (first
      | ((with_reducible show wpList _ _ _ (Oper.mk (some 6) (Op.box 38 _) _ _ _ _ :: _) _ _); refine wpList_box M rfl _ rfl _ _ _ _ rfl ?_; clear M; intro k6 W M; skip)
      | ((with_reducible show wpList _ _ _ (Oper.mk (some 7) (Op.box 38 _) _ _ _ _ :: _) _ _); refine wpList_box M rfl _ rfl _ _ _ _ rfl ?_; clear M; intro k7 W M; skip)
      | ((with_reducible show wpList _ _ _ (Oper.mk (some 8) (Op.alloc 38) _ _ _ _ :: _) _ _); refine wpList_alloc M rfl rfl ?_; clear M; intro k8 W M; skip)
      | ((with_reducible show wpList _ _ _ (Oper.mk (some 9) (Op.alloc 38) _ _ _ _ :: _) _ _); refine wpList_alloc M rfl rfl ?_; clear M; intro k9 W M; skip)
      | ((with_reducible show wpList _ _ _ (Oper.mk (some 10) (Op.alloc 38) _ _ _ _ :: _) _ _); refine wpList_alloc M rfl rfl ?_; clear M; intro k10 W M; skip)
      | ((with_reducible show wpList _ _ _ (Oper.mk _ (Op.store 38 _ _) _ _ _ _ :: _) _ _); (first | (refine wpList_put M rfl _ _ rfl 0 _ _ _ _ rfl rfl rfl ?_)); clear M; intro W M; simp only [List.set_cons_zero, List.set_cons_succ] at M)
      | (go_at_call 70; refine (K0 _).mono ?_; clear K0; rintro e w1 ⟨rfl, b1⟩; replace M := M.later b1; clear b1))
  refine wp_region_any (by kernel_rfl) ?_
  change wpAny _ _ _ _ _ _ _ (World.drew _)
  replace M := M.drew
  generalize World.drew W = WD at M ⊢
  refine wpAny_narrow (fun W' => ∃ x y, Mem w W' [(k10, ⟨h4, v4, o4, g4⟩), (k9, x), (k8, y), (k7, ⟨h2, v2, o2, g2⟩), (k6, ⟨h1, v1, o1, g1⟩)]) _ _ _ _ ?_
  refine anyH_take 0 14 (.int .i64 id) rfl rfl (by kernel_rfl) (by kernel_rfl) (by kernel_rfl) (fun _ _ _ h => h) (Or.inl ⟨by rfl, by intro w hSw; go_simp⟩) (⟨_, _, M⟩) ?_
  try simp only [Act.put, List.setIfInBounds_toArray, List.set_cons_zero, List.set_cons_succ]
  refine anyH_take 1 15 (ex h1 v1 o1 g1) rfl rfl (by kernel_rfl) (by kernel_rfl) (by kernel_rfl) (fun _ _ _ h => h) (Or.inl ⟨by rfl, fun X hSw => by obtain ⟨x, y, hm⟩ := hSw; exact exec_load23 rfl rfl (hm.get (.tail _ (.tail _ (.tail _ (.tail _ (.head _))))))⟩) (⟨_, _, M⟩) ?_
  try simp only [Act.put, List.setIfInBounds_toArray, List.set_cons_zero, List.set_cons_succ]
  refine anyH_take 3 17 (ex h4 v4 o4 g4) rfl rfl (by kernel_rfl) (by kernel_rfl) (by kernel_rfl) (fun _ _ _ h => h) (Or.inl ⟨by rfl, fun X hSw => by obtain ⟨x, y, hm⟩ := hSw; exact exec_load23 rfl rfl (hm.get (.head _))⟩) (⟨_, _, M⟩) ?_
  try simp only [Act.put, List.setIfInBounds_toArray, List.set_cons_zero, List.set_cons_succ]
  refine anyH_take 5 19 (.int .i64 id) rfl rfl (by kernel_rfl) (by kernel_rfl) (by kernel_rfl) (fun _ _ _ h => h) (Or.inl ⟨by rfl, by intro w hSw; go_simp⟩) (⟨_, _, M⟩) ?_
  try simp only [Act.put, List.setIfInBounds_toArray, List.set_cons_zero, List.set_cons_succ]
  refine anyH_take 6 20 (ex h2 v2 o2 g2) rfl rfl (by kernel_rfl) (by kernel_rfl) (by kernel_rfl) (fun _ _ _ h => h) (Or.inl ⟨by rfl, fun X hSw => by obtain ⟨x, y, hm⟩ := hSw; exact exec_load23 rfl rfl (hm.get (.tail _ (.tail _ (.tail _ (.head _)))))⟩) (⟨_, _, M⟩) ?_
  try simp only [Act.put, List.setIfInBounds_toArray, List.set_cons_zero, List.set_cons_succ]
  refine anyH_take 8 22 (ex h4 v4 o4 g4) rfl rfl (by kernel_rfl) (by kernel_rfl) (by kernel_rfl) (fun _ _ _ h => h) (Or.inl ⟨by rfl, fun X hSw => by obtain ⟨x, y, hm⟩ := hSw; exact exec_load23 rfl rfl (hm.get (.head _))⟩) (⟨_, _, M⟩) ?_
  try simp only [Act.put, List.setIfInBounds_toArray, List.set_cons_zero, List.set_cons_succ]
  refine wpAnyH_ready (rs := [2]) (by kernel_rfl) (by simp) ?_
  refine AllReadyH.cons rfl (fun K hK => ?_) AllReadyH.nil
  go_simp
  go_wp2_with (go_at_call 72; refine (K1 _).mono ?_; clear K1; rintro e w1 ⟨rfl, b1⟩; replace M := M.later b1; clear b1)
  refine hK.out _ _ (⟨_, _, M⟩) (fun hS => ?_)
  clear hK
  refine wpAnyH_ready (rs := [4]) (by kernel_rfl) (by simp) ?_
  refine AllReadyH.cons rfl (fun K hK => ?_) AllReadyH.nil
  go_simp
  go_wp2_with (go_at_call 71; refine (K3 _).mono ?_; clear K3; rintro e w1 ⟨rfl, b1⟩; replace M := M.later b1; clear b1)
  refine hK.out _ _ (⟨_, _, M⟩) (fun hS => ?_)
  clear hK
  refine wpAnyH_ready (rs := [7]) (by kernel_rfl) (by simp) ?_
  refine AllReadyH.cons rfl (fun K hK => ?_) AllReadyH.nil
  go_simp
  go_wp2_with (go_at_call 72; refine (K2 _).mono ?_; clear K2; rintro e w1 ⟨rfl, b1⟩; replace M := M.later b1; clear b1)
  refine hK.out _ _ (⟨_, _, M⟩) (fun hS => ?_)
  clear hK
  refine wpAnyH_ready (rs := [9]) (by kernel_rfl) (by simp) ?_
  refine AllReadyH.cons rfl (fun K hK => ?_) AllReadyH.nil
  go_simp
  go_wp2_with (go_at_call 73; refine (K4 _).mono ?_; clear K4; rintro e w1 ⟨rfl, b1⟩; replace M := M.later b1; clear b1)
  refine hK.out _ _ (⟨_, _, M⟩) (fun hS => ?_)
  clear hK
  refine wpAnyH_ready (rs := [10]) (by kernel_rfl) (by simp) ?_
  refine AllReadyH.cons rfl (fun K hK => ?_) AllReadyH.nil
  rw [if_pos (by rfl)]
  refine wp_put M _ _ rfl 2 _ _ _ _ rfl rfl rfl ?_
  clear M
  intro W M
  simp only [List.set_cons_zero, List.set_cons_succ] at M
  refine hK.out _ _ (⟨_, _, M⟩) (fun hS => ?_)
  clear hK
  refine wpAnyH_ready (rs := [11]) (by kernel_rfl) (by simp) ?_
  refine AllReadyH.cons rfl (fun K hK => ?_) AllReadyH.nil
  rw [if_pos (by rfl)]
  refine wp_put M _ _ rfl 1 _ _ _ _ rfl rfl rfl ?_
  clear M
  intro W M
  simp only [List.set_cons_zero, List.set_cons_succ] at M
  refine hK.out _ _ (⟨_, _, M⟩) (fun hS => ?_)
  clear hK
  refine wpAnyH_done (by kernel_rfl) ?_ _
  go_wp2
  exact bodyPost_ret (results_cc rfl _ _ _ _ ⟨h7, v7, o7, g7⟩ ⟨h8, v8, o8, g8⟩ rfl rfl (M.get (.tail _ (.tail _ (.head _)))) (M.get (.tail _ (.head _)))) rfl ⟨rfl, M.below⟩
set_option maxRecDepth 100000 in
set_option maxHeartbeats 2000000 in
theorem tick_any (id : Int) (has : Bool) (inp : Int) (h1 : Bool) (v1 o1 g1 : Int) (h2 : Bool) (v2 o2 g2 : Int) (w : World) (f1 : fitB ⟨h1, v1, o1, g1⟩ = true) (f2 : fitB ⟨h2, v2, o2, g2⟩ = true) : Calls Tryz.prog 41 #[.int .i64 id, .bool has, .int .i64 inp, ex h1 v1 o1 g1, ex h2 v2 o2 g2] w fun e w' => e = .returned (two (tickX id has inp ⟨h1, v1, o1, g1⟩ ⟨h2, v2, o2, g2⟩)) ∧ Below w.heap.size w w' := by
  have M := Mem.nil w
  have K1 := fun w => old_any h1 v1 o1 g1 w f1
  have K2 := fun w => old_any h2 v2 o2 g2 w f2
  unfold tickX
  clear f1 f2
  obtain ⟨h3, v3, o3, g3, e3⟩ : ∃ a b c d, oldX ⟨h1, v1, o1, g1⟩ = EX.mk a b c d := ⟨_, _, _, _, rfl⟩
  simp only [e3] at K1 ⊢
  obtain ⟨h4, v4, o4, g4, e4⟩ : ∃ a b c d, oldX ⟨h2, v2, o2, g2⟩ = EX.mk a b c d := ⟨_, _, _, _, rfl⟩
  simp only [e4] at K2 ⊢
  clear e3 e4
  cases has with
  | true =>
    rw [if_pos rfl]
    have K3 := fun w => set_any id inp h3 v3 o3 g3 h4 v4 o4 g4 w
    obtain ⟨⟨h5, v5, o5, g5⟩, ⟨h6, v6, o6, g6⟩, e5⟩ : ∃ a b, setX id inp ⟨h3, v3, o3, g3⟩ ⟨h4, v4, o4, g4⟩ = (a, b) := ⟨_, _, rfl⟩
    rw [e5] at K3 ⊢
    unfold two at K3 ⊢
    dsimp only at K3 ⊢
    clear e5
    go_enter Tryz.func41, Tryz.ntmps41
    go_wp2_with (first
      | ((with_reducible show wpList _ _ _ (Oper.mk (some 8) (Op.box 38 _) _ _ _ _ :: _) _ _); refine wpList_box M rfl _ rfl _ _ _ _ rfl ?_; clear M; intro k8 W M; skip)
      | ((with_reducible show wpList _ _ _ (Oper.mk (some 9) (Op.box 38 _) _ _ _ _ :: _) _ _); refine wpList_box M rfl _ rfl _ _ _ _ rfl ?_; clear M; intro k9 W M; skip)
      | ((with_reducible show wpList _ _ _ (Oper.mk (some 10) (Op.alloc 38) _ _ _ _ :: _) _ _); refine wpList_alloc M rfl rfl ?_; clear M; intro k10 W M; skip)
      | ((with_reducible show wpList _ _ _ (Oper.mk (some 11) (Op.alloc 38) _ _ _ _ :: _) _ _); refine wpList_alloc M rfl rfl ?_; clear M; intro k11 W M; skip))
    refine wp_region_any (by kernel_rfl) ?_
    change wpAny _ _ _ _ _ _ _ (World.drew _)
    replace M := M.drew
    generalize World.drew W = WD at M ⊢
    refine wpAny_until (fun W' => Mem w W' [(k11, EX.z), (k10, EX.z), (k9, ⟨h2, v2, o2, g2⟩), (k8, ⟨h1, v1, o1, g1⟩)]) 4 _ _ _ _ ?_
    refine anyM_take 0 12 (ex h1 v1 o1 g1) rfl rfl (by kernel_rfl) (by kernel_rfl) (by kernel_rfl) (fun _ _ _ h => h) (.inl (by kernel_rfl)) (by kernel_rfl) (Or.inl ⟨by rfl, fun X hSw => exec_load23 rfl rfl (hSw.get (.tail _ (.tail _ (.tail _ (.head _)))))⟩) (M) ?_
    try simp only [Act.put, List.setIfInBounds_toArray, List.set_cons_zero, List.set_cons_succ]
    refine anyM_take 2 14 (ex h2 v2 o2 g2) rfl rfl (by kernel_rfl) (by kernel_rfl) (by kernel_rfl) (fun _ _ _ h => h) (.inr ⟨3, by kernel_rfl, by kernel_rfl, by kernel_rfl⟩) (by kernel_rfl) (Or.inl ⟨by rfl, fun X hSw => exec_load23 rfl rfl (hSw.get (.tail _ (.tail _ (.head _))))⟩) (M) ?_
    try simp only [Act.put, List.setIfInBounds_toArray, List.set_cons_zero, List.set_cons_succ]
    refine anyM_one 1 (by kernel_rfl) rfl (fun K hK => ?_)
    go_simp
    go_wp2_with (go_at_call 79; refine (K1 _).mono ?_; clear K1; rintro e w1 ⟨rfl, b1⟩; replace M := M.later b1; clear b1)
    refine hK.out _ _ (fun _ => M) ?_
    clear hK
    refine anyM_one 3 (by kernel_rfl) rfl (fun K hK => ?_)
    go_simp
    go_wp2_with (go_at_call 79; refine (K2 _).mono ?_; clear K2; rintro e w1 ⟨rfl, b1⟩; replace M := M.later b1; clear b1)
    refine hK.out _ _ (fun _ => M) ?_
    clear hK
    refine anyM_one 4 (by kernel_rfl) rfl (fun K hK => ?_)
    rw [if_pos (by rfl)]
    refine wp_put M _ _ rfl 3 _ _ _ _ rfl rfl rfl ?_
    clear M
    intro W M
    simp only [List.set_cons_zero, List.set_cons_succ] at M
    refine hK.out _ _ (fun h => absurd h (by decide)) ?_
    clear hK
    refine anyM_one 5 (by kernel_rfl) rfl (fun K hK => ?_)
    rw [if_pos (by rfl)]
    refine wp_put M _ _ rfl 2 _ _ _ _ rfl rfl rfl ?_
    clear M
    intro W M
    simp only [List.set_cons_zero, List.set_cons_succ] at M
    refine hK.out _ _ (fun h => absurd h (by decide)) ?_
    clear hK
    refine anyM_done (by kernel_rfl) ?_ _
    go_wp2_with (first
      | ((with_reducible show wpList _ _ _ (Oper.mk _ (Op.load 38 _) _ _ _ _ :: _) _ _); refine wpList_load M rfl _ rfl rfl (by first | exact .head _ | exact .tail _ (.head _) | exact .tail _ (.tail _ (.head _)) | exact .tail _ (.tail _ (.tail _ (.head _)))) ?_)
      | ((with_reducible show wpList _ _ _ (Oper.mk _ (Op.store 38 _ _) _ _ _ _ :: _) _ _); (first | (refine wpList_put M rfl _ _ rfl 0 _ _ _ _ rfl rfl rfl ?_) | (refine wpList_put M rfl _ _ rfl 1 _ _ _ _ rfl rfl rfl ?_) | (refine wpList_put M rfl _ _ rfl 2 _ _ _ _ rfl rfl rfl ?_) | (refine wpList_put M rfl _ _ rfl 3 _ _ _ _ rfl rfl rfl ?_)); clear M; intro W M; simp only [List.set_cons_zero, List.set_cons_succ] at M)
      | (go_at_call 37; refine (K3 _).mono ?_; clear K3; rintro e w1 ⟨rfl, b1⟩; replace M := M.later b1; clear b1))
    exact bodyPost_ret (results_cc rfl _ _ _ _ ⟨h5, v5, o5, g5⟩ ⟨h6, v6, o6, g6⟩ rfl rfl (M.get (.tail _ (.head _))) (M.get (.head _))) rfl ⟨rfl, M.below⟩
  | false =>
    rw [if_neg (by decide)]
    have K3 := fun w => for_any id h3 v3 o3 g3 w
    have K4 := fun w => for_any id h4 v4 o4 g4 w
    unfold two
    dsimp only
    obtain ⟨h5, v5, o5, g5, e5⟩ : ∃ a b c d, forX id ⟨h3, v3, o3, g3⟩ = EX.mk a b c d := ⟨_, _, _, _, rfl⟩
    simp only [e5] at K3 ⊢
    obtain ⟨h6, v6, o6, g6, e6⟩ : ∃ a b c d, forX id ⟨h4, v4, o4, g4⟩ = EX.mk a b c d := ⟨_, _, _, _, rfl⟩
    simp only [e6] at K4 ⊢
    clear e5 e6
    go_enter Tryz.func41, Tryz.ntmps41
    go_wp2_with (first
      | ((with_reducible show wpList _ _ _ (Oper.mk (some 8) (Op.box 38 _) _ _ _ _ :: _) _ _); refine wpList_box M rfl _ rfl _ _ _ _ rfl ?_; clear M; intro k8 W M; skip)
      | ((with_reducible show wpList _ _ _ (Oper.mk (some 9) (Op.box 38 _) _ _ _ _ :: _) _ _); refine wpList_box M rfl _ rfl _ _ _ _ rfl ?_; clear M; intro k9 W M; skip)
      | ((with_reducible show wpList _ _ _ (Oper.mk (some 10) (Op.alloc 38) _ _ _ _ :: _) _ _); refine wpList_alloc M rfl rfl ?_; clear M; intro k10 W M; skip)
      | ((with_reducible show wpList _ _ _ (Oper.mk (some 11) (Op.alloc 38) _ _ _ _ :: _) _ _); refine wpList_alloc M rfl rfl ?_; clear M; intro k11 W M; skip))
    refine wp_region_any (by kernel_rfl) ?_
    change wpAny _ _ _ _ _ _ _ (World.drew _)
    replace M := M.drew
    generalize World.drew W = WD at M ⊢
    refine wpAny_until (fun W' => Mem w W' [(k11, EX.z), (k10, EX.z), (k9, ⟨h2, v2, o2, g2⟩), (k8, ⟨h1, v1, o1, g1⟩)]) 4 _ _ _ _ ?_
    refine anyM_take 0 12 (ex h1 v1 o1 g1) rfl rfl (by kernel_rfl) (by kernel_rfl) (by kernel_rfl) (fun _ _ _ h => h) (.inl (by kernel_rfl)) (by kernel_rfl) (Or.inl ⟨by rfl, fun X hSw => exec_load23 rfl rfl (hSw.get (.tail _ (.tail _ (.tail _ (.head _)))))⟩) (M) ?_
    try simp only [Act.put, List.setIfInBounds_toArray, List.set_cons_zero, List.set_cons_succ]
    refine anyM_take 2 14 (ex h2 v2 o2 g2) rfl rfl (by kernel_rfl) (by kernel_rfl) (by kernel_rfl) (fun _ _ _ h => h) (.inr ⟨3, by kernel_rfl, by kernel_rfl, by kernel_rfl⟩) (by kernel_rfl) (Or.inl ⟨by rfl, fun X hSw => exec_load23 rfl rfl (hSw.get (.tail _ (.tail _ (.head _))))⟩) (M) ?_
    try simp only [Act.put, List.setIfInBounds_toArray, List.set_cons_zero, List.set_cons_succ]
    refine anyM_one 1 (by kernel_rfl) rfl (fun K hK => ?_)
    go_simp
    go_wp2_with (go_at_call 79; refine (K1 _).mono ?_; clear K1; rintro e w1 ⟨rfl, b1⟩; replace M := M.later b1; clear b1)
    refine hK.out _ _ (fun _ => M) ?_
    clear hK
    refine anyM_one 3 (by kernel_rfl) rfl (fun K hK => ?_)
    go_simp
    go_wp2_with (go_at_call 79; refine (K2 _).mono ?_; clear K2; rintro e w1 ⟨rfl, b1⟩; replace M := M.later b1; clear b1)
    refine hK.out _ _ (fun _ => M) ?_
    clear hK
    refine anyM_one 4 (by kernel_rfl) rfl (fun K hK => ?_)
    rw [if_pos (by rfl)]
    refine wp_put M _ _ rfl 3 _ _ _ _ rfl rfl rfl ?_
    clear M
    intro W M
    simp only [List.set_cons_zero, List.set_cons_succ] at M
    refine hK.out _ _ (fun h => absurd h (by decide)) ?_
    clear hK
    refine anyM_one 5 (by kernel_rfl) rfl (fun K hK => ?_)
    rw [if_pos (by rfl)]
    refine wp_put M _ _ rfl 2 _ _ _ _ rfl rfl rfl ?_
    clear M
    intro W M
    simp only [List.set_cons_zero, List.set_cons_succ] at M
    refine hK.out _ _ (fun h => absurd h (by decide)) ?_
    clear hK
    refine anyM_done (by kernel_rfl) ?_ _
    go_wp2_with (fail)
    refine wp_region_any (by kernel_rfl) ?_
    change wpAny _ _ _ _ _ _ _ (World.drew _)
    replace M := M.drew
    generalize World.drew W = WD at M ⊢
    refine wpAny_narrow (fun W' => ∃ x y, Mem w W' [(k11, x), (k10, y), (k9, ⟨h4, v4, o4, g4⟩), (k8, ⟨h3, v3, o3, g3⟩)]) _ _ _ _ ?_
    refine anyH_take 0 24 (.int .i64 id) rfl rfl (by kernel_rfl) (by kernel_rfl) (by kernel_rfl) (fun _ _ _ h => h) (Or.inl ⟨by rfl, by intro w hSw; go_simp⟩) (⟨_, _, M⟩) ?_
    try simp only [Act.put, List.setIfInBounds_toArray, List.set_cons_zero, List.set_cons_succ]
    refine anyH_take 1 25 (ex h3 v3 o3 g3) rfl rfl (by kernel_rfl) (by kernel_rfl) (by kernel_rfl) (fun _ _ _ h => h) (Or.inl ⟨by rfl, fun X hSw => by obtain ⟨x, y, hm⟩ := hSw; exact exec_load23 rfl rfl (hm.get (.tail _ (.tail _ (.tail _ (.head _)))))⟩) (⟨_, _, M⟩) ?_
    try simp only [Act.put, List.setIfInBounds_toArray, List.set_cons_zero, List.set_cons_succ]
    refine anyH_take 3 27 (.int .i64 id) rfl rfl (by kernel_rfl) (by kernel_rfl) (by kernel_rfl) (fun _ _ _ h => h) (Or.inl ⟨by rfl, by intro w hSw; go_simp⟩) (⟨_, _, M⟩) ?_
    try simp only [Act.put, List.setIfInBounds_toArray, List.set_cons_zero, List.set_cons_succ]
    refine anyH_take 4 28 (ex h4 v4 o4 g4) rfl rfl (by kernel_rfl) (by kernel_rfl) (by kernel_rfl) (fun _ _ _ h => h) (Or.inl ⟨by rfl, fun X hSw => by obtain ⟨x, y, hm⟩ := hSw; exact exec_load23 rfl rfl (hm.get (.tail _ (.tail _ (.head _))))⟩) (⟨_, _, M⟩) ?_
    try simp only [Act.put, List.setIfInBounds_toArray, List.set_cons_zero, List.set_cons_succ]
    refine wpAnyH_ready (rs := [2]) (by kernel_rfl) (by simp) ?_
    refine AllReadyH.cons rfl (fun K hK => ?_) AllReadyH.nil
    go_simp
    go_wp2_with (go_at_call 72; refine (K3 _).mono ?_; clear K3; rintro e w1 ⟨rfl, b1⟩; replace M := M.later b1; clear b1)
    refine hK.out _ _ (⟨_, _, M⟩) (fun hS => ?_)
    clear hK
    refine wpAnyH_ready (rs := [5]) (by kernel_rfl) (by simp) ?_
    refine AllReadyH.cons rfl (fun K hK => ?_) AllReadyH.nil
    go_simp
    go_wp2_with (go_at_call 72; refine (K4 _).mono ?_; clear K4; rintro e w1 ⟨rfl, b1⟩; replace M := M.later b1; clear b1)
    refine hK.out _ _ (⟨_, _, M⟩) (fun hS => ?_)
    clear hK
    refine wpAnyH_ready (rs := [6]) (by kernel_rfl) (by simp) ?_
    refine AllReadyH.cons rfl (fun K hK => ?_) AllReadyH.nil
    rw [if_pos (by rfl)]
    refine wp_put M _ _ rfl 1 _ _ _ _ rfl rfl rfl ?_
    clear M
    intro W M
    simp only [List.set_cons_zero, List.set_cons_succ] at M
    refine hK.out _ _ (⟨_, _, M⟩) (fun hS => ?_)
    clear hK
    refine wpAnyH_ready (rs := [7]) (by kernel_rfl) (by simp) ?_
    refine AllReadyH.cons rfl (fun K hK => ?_) AllReadyH.nil
    rw [if_pos (by rfl)]
    refine wp_put M _ _ rfl 0 _ _ _ _ rfl rfl rfl ?_
    clear M
    intro W M
    simp only [List.set_cons_zero, List.set_cons_succ] at M
    refine hK.out _ _ (⟨_, _, M⟩) (fun hS => ?_)
    clear hK
    refine wpAnyH_done (by kernel_rfl) ?_ _
    go_wp2
    exact bodyPost_ret (results_cc rfl _ _ _ _ ⟨h5, v5, o5, g5⟩ ⟨h6, v6, o6, g6⟩ rfl rfl (M.get (.tail _ (.head _))) (M.get (.head _))) rfl ⟨rfl, M.below⟩
end Go.Proofs.YtoeebofappbneaaGreat.E
