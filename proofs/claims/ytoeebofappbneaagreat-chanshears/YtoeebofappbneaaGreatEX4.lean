/-
  Package ext: Least and Greatest.
-/
import Derived.Test.YtoeebofappbneaaGreatEX3
namespace Go.Proofs.YtoeebofappbneaaGreat.E
open Go.ChangeShapes Go.WideShapes Go.ChangeAt Go.RowKit
set_option linter.unusedVariables false
set_option linter.unusedSimpArgs false

set_option maxRecDepth 100000 in
set_option maxHeartbeats 2000000 in
theorem ranking_any (fn : Nat) (w : World) : Calls Tryz.prog 97 #[.func (.func fn) #[] #[]] w fun e w' => ∃ k, e = .returned (.func (.func 109) #[] #[.pointer (some ⟨k, 0, none⟩)]) ∧ w'.heap[k]? = some (.cells #[.func (.func fn) #[] #[]] 118 (0, 0)) ∧ Below w.heap.size w w' := by
  have hmf : ∀ (fn : Fn) (first cap : Array Value) (w : World), (Instr.makeFunc fn first cap).run Tryz.prog w = .ok (.func fn first cap) w := fun _ _ _ _ => rfl
  go_enter Tryz.func97, Tryz.ntmps97
  go_wp2
  go_ret
  exact ⟨_, rfl, World.alloc_heap_new _ _, by go_grown⟩
set_option maxRecDepth 100000 in
set_option maxHeartbeats 2000000 in
theorem holding30_any (h : Bool) (v o g : Int) (h' : Bool) (v' o' g' : Int) (k : Nat) (w : World) (H : w.heap[k]? = some (.cells #[.func (.func 98) #[] #[]] 118 (0, 0))) : Calls Tryz.prog 96 #[ex h v o g, ex h' v' o' g', .func (.func 109) #[] #[.pointer (some ⟨k, 0, none⟩)]] w fun e w' => e = .returned (holdX true ⟨h, v, o, g⟩ ⟨h', v', o', g'⟩).val ∧ Below w.heap.size w w' := by
  have M := Mem.nil w
  by_cases c : rkX true ⟨h', v', o', g'⟩ ⟨h, v, o, g⟩ < 0
  · rw [show holdX true ⟨h, v, o, g⟩ ⟨h', v', o', g'⟩ = ⟨h', v', o', g'⟩ from if_pos c]
    go_enter Tryz.func96, Tryz.ntmps96
    go_wp2_with (first
      | ((with_reducible show wpList _ _ _ (Oper.mk _ (Op.box 38 _) _ _ _ _ :: _) _ _); refine wpList_box M rfl _ rfl _ _ _ _ rfl ?_; clear M; intro k W M)
      | ((with_reducible show wpList _ _ _ (Oper.mk _ (Op.alloc 38) _ _ _ _ :: _) _ _); refine wpList_alloc M rfl rfl ?_; clear M; intro k W M)
      | ((with_reducible show wpList _ _ _ (Oper.mk _ (Op.load 38 _) _ _ _ _ :: _) _ _); refine wpList_load M rfl _ rfl rfl (by first | exact .head _ | exact .tail _ (.head _) | exact .tail _ (.tail _ (.head _))) ?_)
      | ((with_reducible show wpList _ _ _ (Oper.mk _ (Op.store 38 _ _) _ _ _ _ :: _) _ _); (first | (refine wpList_put M rfl _ _ rfl 0 _ _ _ _ rfl rfl rfl ?_)); clear M; intro W M; simp only [List.set_cons_zero, List.set_cons_succ] at M)
      | (go_at_call 109; refine (rank30_any _ _ _ _ _ _ _ _ _ _ ((M.below.block _ (row_lt H)).trans H)).mono ?_; rintro e w1 ⟨rfl, b1⟩; replace M := M.later b1; clear b1))
    exact bodyPost_ret (results_c rfl _ _ _ ⟨h', v', o', g'⟩ rfl (M.get (.head _))) rfl ⟨rfl, M.below⟩
  · rw [show holdX true ⟨h, v, o, g⟩ ⟨h', v', o', g'⟩ = ⟨h, v, o, g⟩ from if_neg c]
    go_enter Tryz.func96, Tryz.ntmps96
    go_wp2_with (first
      | ((with_reducible show wpList _ _ _ (Oper.mk _ (Op.box 38 _) _ _ _ _ :: _) _ _); refine wpList_box M rfl _ rfl _ _ _ _ rfl ?_; clear M; intro k W M)
      | ((with_reducible show wpList _ _ _ (Oper.mk _ (Op.alloc 38) _ _ _ _ :: _) _ _); refine wpList_alloc M rfl rfl ?_; clear M; intro k W M)
      | ((with_reducible show wpList _ _ _ (Oper.mk _ (Op.load 38 _) _ _ _ _ :: _) _ _); refine wpList_load M rfl _ rfl rfl (by first | exact .head _ | exact .tail _ (.head _) | exact .tail _ (.tail _ (.head _))) ?_)
      | ((with_reducible show wpList _ _ _ (Oper.mk _ (Op.store 38 _ _) _ _ _ _ :: _) _ _); (first | (refine wpList_put M rfl _ _ rfl 0 _ _ _ _ rfl rfl rfl ?_)); clear M; intro W M; simp only [List.set_cons_zero, List.set_cons_succ] at M)
      | (go_at_call 109; refine (rank30_any _ _ _ _ _ _ _ _ _ _ ((M.below.block _ (row_lt H)).trans H)).mono ?_; rintro e w1 ⟨rfl, b1⟩; replace M := M.later b1; clear b1))
    exact bodyPost_ret (results_c rfl _ _ _ ⟨h, v, o, g⟩ rfl (M.get (.head _))) rfl ⟨rfl, M.below⟩
set_option maxRecDepth 100000 in
set_option maxHeartbeats 2000000 in
theorem holding33_any (h : Bool) (v o g : Int) (h' : Bool) (v' o' g' : Int) (k : Nat) (w : World) (H : w.heap[k]? = some (.cells #[.func (.func 100) #[] #[]] 118 (0, 0))) : Calls Tryz.prog 96 #[ex h v o g, ex h' v' o' g', .func (.func 109) #[] #[.pointer (some ⟨k, 0, none⟩)]] w fun e w' => e = .returned (holdX false ⟨h, v, o, g⟩ ⟨h', v', o', g'⟩).val ∧ Below w.heap.size w w' := by
  have M := Mem.nil w
  by_cases c : rkX false ⟨h', v', o', g'⟩ ⟨h, v, o, g⟩ < 0
  · rw [show holdX false ⟨h, v, o, g⟩ ⟨h', v', o', g'⟩ = ⟨h', v', o', g'⟩ from if_pos c]
    go_enter Tryz.func96, Tryz.ntmps96
    go_wp2_with (first
      | ((with_reducible show wpList _ _ _ (Oper.mk _ (Op.box 38 _) _ _ _ _ :: _) _ _); refine wpList_box M rfl _ rfl _ _ _ _ rfl ?_; clear M; intro k W M)
      | ((with_reducible show wpList _ _ _ (Oper.mk _ (Op.alloc 38) _ _ _ _ :: _) _ _); refine wpList_alloc M rfl rfl ?_; clear M; intro k W M)
      | ((with_reducible show wpList _ _ _ (Oper.mk _ (Op.load 38 _) _ _ _ _ :: _) _ _); refine wpList_load M rfl _ rfl rfl (by first | exact .head _ | exact .tail _ (.head _) | exact .tail _ (.tail _ (.head _))) ?_)
      | ((with_reducible show wpList _ _ _ (Oper.mk _ (Op.store 38 _ _) _ _ _ _ :: _) _ _); (first | (refine wpList_put M rfl _ _ rfl 0 _ _ _ _ rfl rfl rfl ?_)); clear M; intro W M; simp only [List.set_cons_zero, List.set_cons_succ] at M)
      | (go_at_call 109; refine (rank33_any _ _ _ _ _ _ _ _ _ _ ((M.below.block _ (row_lt H)).trans H)).mono ?_; rintro e w1 ⟨rfl, b1⟩; replace M := M.later b1; clear b1))
    exact bodyPost_ret (results_c rfl _ _ _ ⟨h', v', o', g'⟩ rfl (M.get (.head _))) rfl ⟨rfl, M.below⟩
  · rw [show holdX false ⟨h, v, o, g⟩ ⟨h', v', o', g'⟩ = ⟨h, v, o, g⟩ from if_neg c]
    go_enter Tryz.func96, Tryz.ntmps96
    go_wp2_with (first
      | ((with_reducible show wpList _ _ _ (Oper.mk _ (Op.box 38 _) _ _ _ _ :: _) _ _); refine wpList_box M rfl _ rfl _ _ _ _ rfl ?_; clear M; intro k W M)
      | ((with_reducible show wpList _ _ _ (Oper.mk _ (Op.alloc 38) _ _ _ _ :: _) _ _); refine wpList_alloc M rfl rfl ?_; clear M; intro k W M)
      | ((with_reducible show wpList _ _ _ (Oper.mk _ (Op.load 38 _) _ _ _ _ :: _) _ _); refine wpList_load M rfl _ rfl rfl (by first | exact .head _ | exact .tail _ (.head _) | exact .tail _ (.tail _ (.head _))) ?_)
      | ((with_reducible show wpList _ _ _ (Oper.mk _ (Op.store 38 _ _) _ _ _ _ :: _) _ _); (first | (refine wpList_put M rfl _ _ rfl 0 _ _ _ _ rfl rfl rfl ?_)); clear M; intro W M; simp only [List.set_cons_zero, List.set_cons_succ] at M)
      | (go_at_call 109; refine (rank33_any _ _ _ _ _ _ _ _ _ _ ((M.below.block _ (row_lt H)).trans H)).mono ?_; rintro e w1 ⟨rfl, b1⟩; replace M := M.later b1; clear b1))
    exact bodyPost_ret (results_c rfl _ _ _ ⟨h, v, o, g⟩ rfl (M.get (.head _))) rfl ⟨rfl, M.below⟩
set_option maxRecDepth 100000 in
set_option maxHeartbeats 2000000 in
theorem least_any (h : Bool) (v o g : Int) (h' : Bool) (v' o' g' : Int) (w : World) : Calls Tryz.prog 71 #[ex h v o g, ex h' v' o' g'] w fun e w' => e = .returned (holdX true ⟨h, v, o, g⟩ ⟨h', v', o', g'⟩).val ∧ Below w.heap.size w w' := by
  have M := Mem.nil w
  have KH := fun k w H => holding30_any h v o g h' v' o' g' k w H
  obtain ⟨rh, rv, ro, rg, hr⟩ : ∃ a b c d, holdX true ⟨h, v, o, g⟩ ⟨h', v', o', g'⟩ = EX.mk a b c d := ⟨_, _, _, _, rfl⟩
  simp only [hr] at KH ⊢
  clear hr
  go_enter Tryz.func71, Tryz.ntmps71
  go_wp2_with (first
      | ((with_reducible show wpList _ _ _ (Oper.mk (some 2) (Op.box 38 _) _ _ _ _ :: _) _ _); refine wpList_box M rfl _ rfl _ _ _ _ rfl ?_; clear M; intro k2 W M; skip)
      | ((with_reducible show wpList _ _ _ (Oper.mk (some 3) (Op.box 38 _) _ _ _ _ :: _) _ _); refine wpList_box M rfl _ rfl _ _ _ _ rfl ?_; clear M; intro k3 W M; skip)
      | ((with_reducible show wpList _ _ _ (Oper.mk (some 4) (Op.alloc 38) _ _ _ _ :: _) _ _); refine wpList_alloc M rfl rfl ?_; clear M; intro k4 W M; skip))
  refine wp_region_any (by kernel_rfl) ?_
  change wpAny _ _ _ _ _ _ _ (World.drew _)
  replace M := M.drew
  generalize World.drew W = WD at M ⊢
  refine wpAny_narrow (fun W' => ∃ x, Mem w W' [(k4, x), (k3, ⟨h', v', o', g'⟩), (k2, ⟨h, v, o, g⟩)]) _ _ _ _ ?_
  refine anyH_take 0 5 (ex h v o g) rfl rfl (by kernel_rfl) (by kernel_rfl) (by kernel_rfl) (fun _ _ _ h => h) (Or.inl ⟨by rfl, fun X hSw => by obtain ⟨x, hm⟩ := hSw; exact exec_load23 rfl rfl (hm.get (.tail _ (.tail _ (.head _))))⟩) (⟨_, M⟩) ?_
  try simp only [Act.put, List.setIfInBounds_toArray, List.set_cons_zero, List.set_cons_succ]
  refine anyH_take 1 6 (ex h' v' o' g') rfl rfl (by kernel_rfl) (by kernel_rfl) (by kernel_rfl) (fun _ _ _ h => h) (Or.inl ⟨by rfl, fun X hSw => by obtain ⟨x, hm⟩ := hSw; exact exec_load23 rfl rfl (hm.get (.tail _ (.head _)))⟩) (⟨_, M⟩) ?_
  try simp only [Act.put, List.setIfInBounds_toArray, List.set_cons_zero, List.set_cons_succ]
  refine wpAnyH_ready (rs := [2]) (by kernel_rfl) (by simp) ?_
  refine AllReadyH.cons rfl (fun K hK => ?_) AllReadyH.nil
  go_simp
  go_wp2_with (go_at_call 97; refine (ranking_any 98 _).mono ?_; rintro e w1 ⟨kf, rfl, HF, b1⟩; replace M := M.later b1; clear b1)
  refine hK.out _ _ (⟨_, M⟩) (fun hS => ?_)
  clear hK
  refine wpAnyH_ready (rs := [3]) (by kernel_rfl) (by simp) ?_
  refine AllReadyH.cons rfl (fun K hK => ?_) AllReadyH.nil
  go_simp
  go_wp2_with (go_at_call 96; refine (KH _ _ HF).mono ?_; rintro e w2 ⟨rfl, b2⟩; replace M := M.later b2; clear b2)
  refine hK.out _ _ (⟨_, M⟩) (fun hS => ?_)
  clear hK
  refine wpAnyH_ready (rs := [4]) (by kernel_rfl) (by simp) ?_
  refine AllReadyH.cons rfl (fun K hK => ?_) AllReadyH.nil
  rw [if_pos (by rfl)]
  refine wp_put M _ _ rfl 0 _ _ _ _ rfl rfl rfl ?_
  clear M
  intro W M
  simp only [List.set_cons_zero] at M
  refine hK.out _ _ ⟨_, M⟩ (fun hS => ?_)
  clear hK
  refine wpAnyH_done (by kernel_rfl) ?_ _
  go_wp2
  exact bodyPost_ret (results_c rfl _ _ _ ⟨rh, rv, ro, rg⟩ rfl (M.get (.head _))) rfl ⟨rfl, M.below⟩
set_option maxRecDepth 100000 in
set_option maxHeartbeats 2000000 in
theorem great_any (h : Bool) (v o g : Int) (h' : Bool) (v' o' g' : Int) (w : World) : Calls Tryz.prog 73 #[ex h v o g, ex h' v' o' g'] w fun e w' => e = .returned (holdX false ⟨h, v, o, g⟩ ⟨h', v', o', g'⟩).val ∧ Below w.heap.size w w' := by
  have M := Mem.nil w
  have KH := fun k w H => holding33_any h v o g h' v' o' g' k w H
  obtain ⟨rh, rv, ro, rg, hr⟩ : ∃ a b c d, holdX false ⟨h, v, o, g⟩ ⟨h', v', o', g'⟩ = EX.mk a b c d := ⟨_, _, _, _, rfl⟩
  simp only [hr] at KH ⊢
  clear hr
  go_enter Tryz.func73, Tryz.ntmps73
  go_wp2_with (first
      | ((with_reducible show wpList _ _ _ (Oper.mk (some 2) (Op.box 38 _) _ _ _ _ :: _) _ _); refine wpList_box M rfl _ rfl _ _ _ _ rfl ?_; clear M; intro k2 W M; skip)
      | ((with_reducible show wpList _ _ _ (Oper.mk (some 3) (Op.box 38 _) _ _ _ _ :: _) _ _); refine wpList_box M rfl _ rfl _ _ _ _ rfl ?_; clear M; intro k3 W M; skip)
      | ((with_reducible show wpList _ _ _ (Oper.mk (some 4) (Op.alloc 38) _ _ _ _ :: _) _ _); refine wpList_alloc M rfl rfl ?_; clear M; intro k4 W M; skip))
  refine wp_region_any (by kernel_rfl) ?_
  change wpAny _ _ _ _ _ _ _ (World.drew _)
  replace M := M.drew
  generalize World.drew W = WD at M ⊢
  refine wpAny_narrow (fun W' => ∃ x, Mem w W' [(k4, x), (k3, ⟨h', v', o', g'⟩), (k2, ⟨h, v, o, g⟩)]) _ _ _ _ ?_
  refine anyH_take 0 5 (ex h v o g) rfl rfl (by kernel_rfl) (by kernel_rfl) (by kernel_rfl) (fun _ _ _ h => h) (Or.inl ⟨by rfl, fun X hSw => by obtain ⟨x, hm⟩ := hSw; exact exec_load23 rfl rfl (hm.get (.tail _ (.tail _ (.head _))))⟩) (⟨_, M⟩) ?_
  try simp only [Act.put, List.setIfInBounds_toArray, List.set_cons_zero, List.set_cons_succ]
  refine anyH_take 1 6 (ex h' v' o' g') rfl rfl (by kernel_rfl) (by kernel_rfl) (by kernel_rfl) (fun _ _ _ h => h) (Or.inl ⟨by rfl, fun X hSw => by obtain ⟨x, hm⟩ := hSw; exact exec_load23 rfl rfl (hm.get (.tail _ (.head _)))⟩) (⟨_, M⟩) ?_
  try simp only [Act.put, List.setIfInBounds_toArray, List.set_cons_zero, List.set_cons_succ]
  refine wpAnyH_ready (rs := [2]) (by kernel_rfl) (by simp) ?_
  refine AllReadyH.cons rfl (fun K hK => ?_) AllReadyH.nil
  go_simp
  go_wp2_with (go_at_call 97; refine (ranking_any 100 _).mono ?_; rintro e w1 ⟨kf, rfl, HF, b1⟩; replace M := M.later b1; clear b1)
  refine hK.out _ _ (⟨_, M⟩) (fun hS => ?_)
  clear hK
  refine wpAnyH_ready (rs := [3]) (by kernel_rfl) (by simp) ?_
  refine AllReadyH.cons rfl (fun K hK => ?_) AllReadyH.nil
  go_simp
  go_wp2_with (go_at_call 96; refine (KH _ _ HF).mono ?_; rintro e w2 ⟨rfl, b2⟩; replace M := M.later b2; clear b2)
  refine hK.out _ _ (⟨_, M⟩) (fun hS => ?_)
  clear hK
  refine wpAnyH_ready (rs := [4]) (by kernel_rfl) (by simp) ?_
  refine AllReadyH.cons rfl (fun K hK => ?_) AllReadyH.nil
  rw [if_pos (by rfl)]
  refine wp_put M _ _ rfl 0 _ _ _ _ rfl rfl rfl ?_
  clear M
  intro W M
  simp only [List.set_cons_zero] at M
  refine hK.out _ _ ⟨_, M⟩ (fun hS => ?_)
  clear hK
  refine wpAnyH_done (by kernel_rfl) ?_ _
  go_wp2
  exact bodyPost_ret (results_c rfl _ _ _ ⟨rh, rv, ro, rg⟩ rfl (M.get (.head _))) rfl ⟨rfl, M.below⟩
end Go.Proofs.YtoeebofappbneaaGreat.E
