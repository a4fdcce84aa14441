/-
  Package ext: the chapter's examples, which every statement calls at its end.
-/
import Derived.Test.YtnnapooochfnhaaX6
namespace Go.Proofs.Ytnnapooochfnhaa
open Go.ChangeShapes Go.WideShapes Go.ChangeAt Go.RowKit
set_option linter.unusedVariables false
set_option linter.unusedSimpArgs false

theorem tick_one : tickX 2 true 5 ⟨true, 3, 2, 0⟩ ⟨true, 9, 4, 63⟩ = (⟨true, 5, 2, 0⟩, ⟨true, 5, 2, 0⟩) := by simp [tickX, setX, oldX, forX, ownX, holdX, rkX]
theorem least_one : holdX true ⟨true, 3, 2, 0⟩ ⟨true, 9, 4, 63⟩ = ⟨true, 3, 2, 0⟩ := by simp [holdX, rkX, vcm, cmpZ, orZ]
theorem great_one : holdX false ⟨true, 3, 2, 0⟩ ⟨true, 9, 4, 63⟩ = ⟨true, 9, 4, 63⟩ := by simp [holdX, rkX, vcm, cmpZ, orZ]
theorem old_one : oldX ⟨true, 9, 4, 63⟩ = EX.z := by simp [oldX]
theorem fit_one : fitB ⟨true, 9, 4, 63⟩ = true := by simp [fitB, flowB, nodeB, inB]
theorem fit_two : fitB ⟨true, 3, 2, 0⟩ = true := by simp [fitB, flowB, nodeB, inB]
set_option maxRecDepth 100000 in
set_option maxHeartbeats 2000000 in
theorem awake_any (w : World) : Calls Try.prog 13 #[] w fun e w' => e = .returned (.bool true) ∧ Below w.heap.size w w' := by
  have M := Mem.nil w
  have K20 := fun w => tick_any 2 true 5 true 3 2 0 true 9 4 63 w fit_two fit_one
  have K14 := fun w => least_any true 3 2 0 true 9 4 63 w
  have K16 := fun w => great_any true 3 2 0 true 9 4 63 w
  have K18 := fun w => old_any true 9 4 63 w fit_one
  have K7 := fun w => fit_any true 9 4 63 w
  simp only [tick_one, two] at K20
  simp only [least_one] at K14
  simp only [great_one] at K16
  simp only [old_one] at K18
  simp only [fit_one] at K7
  go_enter Try.func13, Try.ntmps13
  go_wp2_with (first
      | ((with_reducible show wpList _ _ _ (Oper.mk (some 1) (Op.alloc 23) _ _ _ _ :: _) _ _); refine wpList_alloc M rfl rfl ?_; clear M; intro k1 W M; skip)
      | ((with_reducible show wpList _ _ _ (Oper.mk (some 2) (Op.alloc 23) _ _ _ _ :: _) _ _); refine wpList_alloc M rfl rfl ?_; clear M; intro k2 W M; skip)
      | ((with_reducible show wpList _ _ _ (Oper.mk (some 3) (Op.alloc 23) _ _ _ _ :: _) _ _); refine wpList_alloc M rfl rfl ?_; clear M; intro k3 W M; skip)
      | ((with_reducible show wpList _ _ _ (Oper.mk (some 4) (Op.alloc 23) _ _ _ _ :: _) _ _); refine wpList_alloc M rfl rfl ?_; clear M; intro k4 W M; skip)
      | ((with_reducible show wpList _ _ _ (Oper.mk (some 5) (Op.alloc 23) _ _ _ _ :: _) _ _); refine wpList_alloc M rfl rfl ?_; clear M; intro k5 W M; skip)
      | ((with_reducible show wpList _ _ _ (Oper.mk _ (Op.load 23 _) _ _ _ _ :: _) _ _); refine wpList_load M rfl _ rfl rfl (by first | exact .head _ | exact .tail _ (.head _) | exact .tail _ (.tail _ (.head _)) | exact .tail _ (.tail _ (.tail _ (.head _))) | exact .tail _ (.tail _ (.tail _ (.tail _ (.head _))))) ?_)
      | ((with_reducible show wpList _ _ _ (Oper.mk _ (Op.store 23 _ _) _ _ _ _ :: _) _ _); (first | (refine wpList_put M rfl _ _ rfl 0 _ _ _ _ rfl rfl rfl ?_) | (refine wpList_put M rfl _ _ rfl 1 _ _ _ _ rfl rfl rfl ?_) | (refine wpList_put M rfl _ _ rfl 2 _ _ _ _ rfl rfl rfl ?_) | (refine wpList_put M rfl _ _ rfl 3 _ _ _ _ rfl rfl rfl ?_) | (refine wpList_put M rfl _ _ rfl 4 _ _ _ _ rfl rfl rfl ?_)); clear M; intro W M; simp only [List.set_cons_zero, List.set_cons_succ] at M)
      | (go_at_call 20; refine (K20 _).mono ?_; clear K20; rintro e w1 ⟨rfl, b1⟩; replace M := M.later b1; clear b1))
  refine wp_region_any (by kernel_rfl) ?_
  change wpAny _ _ _ _ _ _ _ (World.drew _)
  replace M := M.drew
  generalize World.drew W = WD at M ⊢
  refine wpAny_narrow (fun W' => Mem w W' [(k5, ⟨true, 5, 2, 0⟩), (k4, ⟨true, 5, 2, 0⟩), (k3, ⟨true, 5, 2, 0⟩), (k2, ⟨true, 9, 4, 63⟩), (k1, ⟨true, 3, 2, 0⟩)]) _ _ _ _ ?_
  refine anyH_take 0 15 (ex true 3 2 0) rfl rfl (by kernel_rfl) (by kernel_rfl) (by kernel_rfl) (fun _ _ _ h => h) (Or.inl ⟨by rfl, fun X hSw => exec_load23 rfl rfl (hSw.get (.tail _ (.tail _ (.tail _ (.tail _ (.head _))))))⟩) (M) ?_
  try simp only [Act.put, List.setIfInBounds_toArray, List.set_cons_zero, List.set_cons_succ]
  refine anyH_take 1 16 (ex true 9 4 63) rfl rfl (by kernel_rfl) (by kernel_rfl) (by kernel_rfl) (fun _ _ _ h => h) (Or.inl ⟨by rfl, fun X hSw => exec_load23 rfl rfl (hSw.get (.tail _ (.tail _ (.tail _ (.head _)))))⟩) (M) ?_
  try simp only [Act.put, List.setIfInBounds_toArray, List.set_cons_zero, List.set_cons_succ]
  refine anyH_take 3 18 (ex true 3 2 0) rfl rfl (by kernel_rfl) (by kernel_rfl) (by kernel_rfl) (fun _ _ _ h => h) (Or.inl ⟨by rfl, fun X hSw => exec_load23 rfl rfl (hSw.get (.tail _ (.tail _ (.tail _ (.tail _ (.head _))))))⟩) (M) ?_
  try simp only [Act.put, List.setIfInBounds_toArray, List.set_cons_zero, List.set_cons_succ]
  refine wpAnyH_ready (rs := [2]) (by kernel_rfl) (by simp) ?_
  refine AllReadyH.cons rfl (fun K hK => ?_) AllReadyH.nil
  go_simp
  go_wp2_with (go_at_call 14; refine (K14 _).mono ?_; clear K14; rintro e w1 ⟨rfl, b1⟩; replace M := M.later b1; clear b1)
  refine hK.out _ _ (M) (fun hS => ?_)
  clear hK
  refine anyH_take 4 19 (.bool (sameX ⟨true, 3, 2, 0⟩ ⟨true, 3, 2, 0⟩)) rfl rfl (by kernel_rfl) (by kernel_rfl) (by kernel_rfl) (fun _ _ _ h => h) (Or.inl ⟨by rfl, fun X hSw => exec_eql23 rfl ⟨true, 3, 2, 0⟩ ⟨true, 3, 2, 0⟩ rfl rfl X⟩) (M) ?_
  try simp only [Act.put, List.setIfInBounds_toArray, List.set_cons_zero, List.set_cons_succ]
  rw [sameX_self]
  refine anyH_take 5 20 (.bool true) rfl rfl (by kernel_rfl) (by kernel_rfl) (by kernel_rfl) (fun _ _ _ h => h) (Or.inl ⟨by rfl, by intro w hSw; go_simp⟩) (M) ?_
  try simp only [Act.put, List.setIfInBounds_toArray, List.set_cons_zero, List.set_cons_succ]
  refine anyH_take 6 21 (ex true 3 2 0) rfl rfl (by kernel_rfl) (by kernel_rfl) (by kernel_rfl) (fun _ _ _ h => h) (Or.inl ⟨by rfl, fun X hSw => exec_load23 rfl rfl (hSw.get (.tail _ (.tail _ (.tail _ (.tail _ (.head _))))))⟩) (M) ?_
  try simp only [Act.put, List.setIfInBounds_toArray, List.set_cons_zero, List.set_cons_succ]
  refine anyH_take 7 22 (ex true 9 4 63) rfl rfl (by kernel_rfl) (by kernel_rfl) (by kernel_rfl) (fun _ _ _ h => h) (Or.inl ⟨by rfl, fun X hSw => exec_load23 rfl rfl (hSw.get (.tail _ (.tail _ (.tail _ (.head _)))))⟩) (M) ?_
  try simp only [Act.put, List.setIfInBounds_toArray, List.set_cons_zero, List.set_cons_succ]
  refine anyH_take 9 24 (ex true 9 4 63) rfl rfl (by kernel_rfl) (by kernel_rfl) (by kernel_rfl) (fun _ _ _ h => h) (Or.inl ⟨by rfl, fun X hSw => exec_load23 rfl rfl (hSw.get (.tail _ (.tail _ (.tail _ (.head _)))))⟩) (M) ?_
  try simp only [Act.put, List.setIfInBounds_toArray, List.set_cons_zero, List.set_cons_succ]
  refine wpAnyH_ready (rs := [8]) (by kernel_rfl) (by simp) ?_
  refine AllReadyH.cons rfl (fun K hK => ?_) AllReadyH.nil
  go_simp
  go_wp2_with (go_at_call 16; refine (K16 _).mono ?_; clear K16; rintro e w1 ⟨rfl, b1⟩; replace M := M.later b1; clear b1)
  refine hK.out _ _ (M) (fun hS => ?_)
  clear hK
  refine anyH_take 10 25 (.bool (sameX ⟨true, 9, 4, 63⟩ ⟨true, 9, 4, 63⟩)) rfl rfl (by kernel_rfl) (by kernel_rfl) (by kernel_rfl) (fun _ _ _ h => h) (Or.inl ⟨by rfl, fun X hSw => exec_eql23 rfl ⟨true, 9, 4, 63⟩ ⟨true, 9, 4, 63⟩ rfl rfl X⟩) (M) ?_
  try simp only [Act.put, List.setIfInBounds_toArray, List.set_cons_zero, List.set_cons_succ]
  rw [sameX_self]
  refine anyH_take 11 26 (.bool true) rfl rfl (by kernel_rfl) (by kernel_rfl) (by kernel_rfl) (fun _ _ _ h => h) (Or.inl ⟨by rfl, by intro w hSw; go_simp⟩) (M) ?_
  try simp only [Act.put, List.setIfInBounds_toArray, List.set_cons_zero, List.set_cons_succ]
  refine anyH_take 12 27 (.bool true) rfl rfl (by kernel_rfl) (by kernel_rfl) (by kernel_rfl) (fun _ _ _ h => h) (Or.inl ⟨by rfl, by intro w hSw; go_simp⟩) (M) ?_
  try simp only [Act.put, List.setIfInBounds_toArray, List.set_cons_zero, List.set_cons_succ]
  refine anyH_take 13 28 (ex true 9 4 63) rfl rfl (by kernel_rfl) (by kernel_rfl) (by kernel_rfl) (fun _ _ _ h => h) (Or.inl ⟨by rfl, fun X hSw => exec_load23 rfl rfl (hSw.get (.tail _ (.tail _ (.tail _ (.head _)))))⟩) (M) ?_
  try simp only [Act.put, List.setIfInBounds_toArray, List.set_cons_zero, List.set_cons_succ]
  refine anyH_take 15 30 (ex false 0 0 0) rfl rfl (by kernel_rfl) (by kernel_rfl) (by kernel_rfl) (fun _ _ _ h => h) (Or.inl ⟨by rfl, by intro w hSw; go_simp⟩) (M) ?_
  try simp only [Act.put, List.setIfInBounds_toArray, List.set_cons_zero, List.set_cons_succ]
  refine wpAnyH_ready (rs := [14]) (by kernel_rfl) (by simp) ?_
  refine AllReadyH.cons rfl (fun K hK => ?_) AllReadyH.nil
  go_simp
  go_wp2_with (go_at_call 18; refine (K18 _).mono ?_; clear K18; rintro e w1 ⟨rfl, b1⟩; replace M := M.later b1; clear b1)
  refine hK.out _ _ (M) (fun hS => ?_)
  clear hK
  refine anyH_take 16 31 (.bool (sameX EX.z EX.z)) rfl rfl (by kernel_rfl) (by kernel_rfl) (by kernel_rfl) (fun _ _ _ h => h) (Or.inl ⟨by rfl, fun X hSw => exec_eql23 rfl EX.z EX.z rfl rfl X⟩) (M) ?_
  try simp only [Act.put, List.setIfInBounds_toArray, List.set_cons_zero, List.set_cons_succ]
  rw [sameX_self]
  refine anyH_take 17 32 (.bool true) rfl rfl (by kernel_rfl) (by kernel_rfl) (by kernel_rfl) (fun _ _ _ h => h) (Or.inl ⟨by rfl, by intro w hSw; go_simp⟩) (M) ?_
  try simp only [Act.put, List.setIfInBounds_toArray, List.set_cons_zero, List.set_cons_succ]
  refine anyH_take 18 33 (.bool true) rfl rfl (by kernel_rfl) (by kernel_rfl) (by kernel_rfl) (fun _ _ _ h => h) (Or.inl ⟨by rfl, by intro w hSw; go_simp⟩) (M) ?_
  try simp only [Act.put, List.setIfInBounds_toArray, List.set_cons_zero, List.set_cons_succ]
  refine anyH_take 19 34 (ex true 5 2 0) rfl rfl (by kernel_rfl) (by kernel_rfl) (by kernel_rfl) (fun _ _ _ h => h) (Or.inl ⟨by rfl, fun X hSw => exec_load23 rfl rfl (hSw.get (.tail _ (.tail _ (.head _))))⟩) (M) ?_
  try simp only [Act.put, List.setIfInBounds_toArray, List.set_cons_zero, List.set_cons_succ]
  refine anyH_take 20 35 (ex true 5 2 0) rfl rfl (by kernel_rfl) (by kernel_rfl) (by kernel_rfl) (fun _ _ _ h => h) (Or.inl ⟨by rfl, fun X hSw => exec_load23 rfl rfl (hSw.get (.head _))⟩) (M) ?_
  try simp only [Act.put, List.setIfInBounds_toArray, List.set_cons_zero, List.set_cons_succ]
  refine anyH_take 21 36 (.bool (sameX ⟨true, 5, 2, 0⟩ ⟨true, 5, 2, 0⟩)) rfl rfl (by kernel_rfl) (by kernel_rfl) (by kernel_rfl) (fun _ _ _ h => h) (Or.inl ⟨by rfl, fun X hSw => exec_eql23 rfl ⟨true, 5, 2, 0⟩ ⟨true, 5, 2, 0⟩ rfl rfl X⟩) (M) ?_
  try simp only [Act.put, List.setIfInBounds_toArray, List.set_cons_zero, List.set_cons_succ]
  rw [sameX_self]
  refine anyH_take 22 37 (.bool true) rfl rfl (by kernel_rfl) (by kernel_rfl) (by kernel_rfl) (fun _ _ _ h => h) (Or.inl ⟨by rfl, by intro w hSw; go_simp⟩) (M) ?_
  try simp only [Act.put, List.setIfInBounds_toArray, List.set_cons_zero, List.set_cons_succ]
  refine anyH_take 23 38 (.bool true) rfl rfl (by kernel_rfl) (by kernel_rfl) (by kernel_rfl) (fun _ _ _ h => h) (Or.inl ⟨by rfl, by intro w hSw; go_simp⟩) (M) ?_
  try simp only [Act.put, List.setIfInBounds_toArray, List.set_cons_zero, List.set_cons_succ]
  refine anyH_take 24 39 (ex true 5 2 0) rfl rfl (by kernel_rfl) (by kernel_rfl) (by kernel_rfl) (fun _ _ _ h => h) (Or.inl ⟨by rfl, fun X hSw => exec_load23 rfl rfl (hSw.get (.tail _ (.head _)))⟩) (M) ?_
  try simp only [Act.put, List.setIfInBounds_toArray, List.set_cons_zero, List.set_cons_succ]
  refine anyH_take 25 40 (ex true 5 2 0) rfl rfl (by kernel_rfl) (by kernel_rfl) (by kernel_rfl) (fun _ _ _ h => h) (Or.inl ⟨by rfl, fun X hSw => exec_load23 rfl rfl (hSw.get (.head _))⟩) (M) ?_
  try simp only [Act.put, List.setIfInBounds_toArray, List.set_cons_zero, List.set_cons_succ]
  refine anyH_take 26 41 (.bool (sameX ⟨true, 5, 2, 0⟩ ⟨true, 5, 2, 0⟩)) rfl rfl (by kernel_rfl) (by kernel_rfl) (by kernel_rfl) (fun _ _ _ h => h) (Or.inl ⟨by rfl, fun X hSw => exec_eql23 rfl ⟨true, 5, 2, 0⟩ ⟨true, 5, 2, 0⟩ rfl rfl X⟩) (M) ?_
  try simp only [Act.put, List.setIfInBounds_toArray, List.set_cons_zero, List.set_cons_succ]
  rw [sameX_self]
  refine anyH_take 27 42 (.bool true) rfl rfl (by kernel_rfl) (by kernel_rfl) (by kernel_rfl) (fun _ _ _ h => h) (Or.inl ⟨by rfl, by intro w hSw; go_simp⟩) (M) ?_
  try simp only [Act.put, List.setIfInBounds_toArray, List.set_cons_zero, List.set_cons_succ]
  refine anyH_take 28 43 (.bool true) rfl rfl (by kernel_rfl) (by kernel_rfl) (by kernel_rfl) (fun _ _ _ h => h) (Or.inl ⟨by rfl, by intro w hSw; go_simp⟩) (M) ?_
  try simp only [Act.put, List.setIfInBounds_toArray, List.set_cons_zero, List.set_cons_succ]
  refine anyH_take 29 44 (ex true 9 4 63) rfl rfl (by kernel_rfl) (by kernel_rfl) (by kernel_rfl) (fun _ _ _ h => h) (Or.inl ⟨by rfl, fun X hSw => exec_load23 rfl rfl (hSw.get (.tail _ (.tail _ (.tail _ (.head _)))))⟩) (M) ?_
  try simp only [Act.put, List.setIfInBounds_toArray, List.set_cons_zero, List.set_cons_succ]
  refine wpAnyH_ready (rs := [30]) (by kernel_rfl) (by simp) ?_
  refine AllReadyH.cons rfl (fun K hK => ?_) AllReadyH.nil
  go_simp
  go_wp2_with (go_at_call 7; refine (K7 _).mono ?_; clear K7; rintro e w1 ⟨rfl, b1⟩; replace M := M.later b1; clear b1)
  refine hK.out _ _ (M) (fun hS => ?_)
  clear hK
  refine anyH_take 31 46 (.bool true) rfl rfl (by kernel_rfl) (by kernel_rfl) (by kernel_rfl) (fun _ _ _ h => h) (Or.inl ⟨by rfl, by intro w hSw; go_simp⟩) (M) ?_
  try simp only [Act.put, List.setIfInBounds_toArray, List.set_cons_zero, List.set_cons_succ]
  refine anyH_take 32 0 (.bool true) rfl rfl (by kernel_rfl) (by kernel_rfl) (by kernel_rfl) (fun _ _ _ h => h) (Or.inl ⟨by rfl, by intro w hSw; go_simp⟩) (M) ?_
  try simp only [Act.put, List.setIfInBounds_toArray, List.set_cons_zero, List.set_cons_succ]
  refine wpAnyH_done (by kernel_rfl) ?_ _
  go_wp2
  go_ret
  exact ⟨rfl, M.below⟩
end Go.Proofs.Ytnnapooochfnhaa
