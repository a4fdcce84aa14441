/-
  Package bag: byNodes: pairs of nodes compared.
-/
import Derived.Test.YtoppecppmjpgiaaBhA
import Derived.Test.YtoppecppmjpgiaaHeld
import Derived.Sort.Grow
import Derived.Shelf.SlSortCmp.WholeK
namespace Go.Proofs.Ytoppecppmjpgiaa
open Go.ChangeShapes Go.WideShapes Go.ChangeAt Go.RowKit Go.Maps Go.Sort
set_option linter.unusedVariables false
set_option linter.unusedSimpArgs false
def cz (a b : Int) : Int := if a < b then -1 else if b < a then 1 else 0
theorem ret_i {a b : Int} (h : a = b) : Ending.returned (.int .i64 a) = .returned (.int .i64 b) := by rw [h]
theorem nan_any (a : Int) (w : World) : Calls Try.prog 61 #[.int .i64 a] w fun e w' => e = .returned (.bool false) ∧ w' = w := by
  go_enter Try.func61, Try.ntmps61
  go_wp2
  go_ret
  exact ⟨rfl, rfl⟩
set_option maxHeartbeats 1000000 in
theorem cmp_any (a b : Int) (w : World) : Calls Try.prog 54 #[.int .i64 a, .int .i64 b] w fun e w' => e = .returned (.int .i64 (cz a b)) ∧ w' = w := by
  by_cases h1 : a < b
  · go_enter Try.func54, Try.ntmps54
    go_wp2_with (go_at_call 61; refine (nan_any _ _).mono ?_; rintro e wx ⟨rfl, hw⟩; rw [hw]; clear hw wx)
    go_ret
    exact ⟨ret_i (by simp [cz, h1]), rfl⟩
  · by_cases h2 : b < a
    · go_enter Try.func54, Try.ntmps54
      go_wp2_with (go_at_call 61; refine (nan_any _ _).mono ?_; rintro e wx ⟨rfl, hw⟩; rw [hw]; clear hw wx)
      go_ret
      exact ⟨ret_i (by unfold cz; rw [if_neg (by omega), if_pos (by omega)]), rfl⟩
    · go_enter Try.func54, Try.ntmps54
      go_wp2_with (go_at_call 61; refine (nan_any _ _).mono ?_; rintro e wx ⟨rfl, hw⟩; rw [hw]; clear hw wx)
      go_ret
      exact ⟨ret_i (by unfold cz; rw [if_neg (by omega), if_neg (by omega)]), rfl⟩
def orz (a b : Int) : Int := if a = 0 then b else a
set_option maxHeartbeats 2000000 in
theorem or_any (g : Nat) (a b : Int) (w : World) (c0 : w.cell? ⟨g, 0, none⟩ = some (.int .i64 a)) (c1 : w.cell? ⟨g, 1, none⟩ = some (.int .i64 b)) : Calls Try.prog 53 #[.slice (some ⟨g, 0, none⟩) 2 2] w fun e w' => e = .returned (.int .i64 (orz a b)) ∧ w' = w := by
  by_cases ha : a = 0
  · subst ha
    by_cases hb : b = 0
    · subst hb
      go_enter Try.func53, Try.ntmps53
      go_wp2
      refine wp_loop_rounds 3 ?_
      rw [rounds_succ]
      go_wp2
      rw [rounds_succ]
      go_wp2
      rw [rounds_succ]
      go_wp2
      go_ret
      exact ⟨rfl, rfl⟩
    · go_enter Try.func53, Try.ntmps53
      go_wp2
      refine wp_loop_rounds 2 ?_
      rw [rounds_succ]
      go_wp2
      rw [rounds_succ]
      go_wp2
      go_ret
      exact ⟨rfl, rfl⟩
  · go_enter Try.func53, Try.ntmps53
    go_wp2
    refine wp_loop_rounds 1 ?_
    rw [rounds_succ]
    go_wp2
    go_ret
    exact ⟨ret_i (by simp [orz, ha]), rfl⟩
/-- How two links stand to each other. -/
def lkz (x y : Int × Int) : Int := orz (cz x.1 y.1) (cz x.2 y.2)
set_option maxRecDepth 100000 in
set_option maxHeartbeats 4000000 in
theorem byNodes_any (x0 x1 y0 y1 : Int) (w : World) : Calls Try.prog 37 #[lnk x0 x1, lnk y0 y1] w fun e w' => e = .returned (.int .i64 (lkz (x0, x1) (y0, y1))) ∧ ∃ q os', w' = grow (w.drewN q) os' := by
  show Calls Try.prog 37 _ w fun e w' => e = .returned (.int .i64 (orz (cz x0 y0) (cz x1 y1))) ∧ _
  go_enter Try.func37, Try.ntmps37
  go_wp2
  obtain ⟨W0, hW0⟩ : ∃ X, (w.alloc (.cells #[.int .i64 x0, .int .i64 x1] 65)).alloc (.cells #[.int .i64 y0, .int .i64 y1] 65) = X := ⟨_, rfl⟩
  have f0 : W0.cell? ⟨w.heap.size, 0, none⟩ = some (.int .i64 x0) := by rw [← hW0]; simp
  have f1 : W0.cell? ⟨w.heap.size, 1, none⟩ = some (.int .i64 x1) := by rw [← hW0]; simp
  have f2 : w.heap.size < W0.heap.size := by rw [← hW0]; simp; omega
  have g0 : W0.cell? ⟨w.heap.size + 1, 0, none⟩ = some (.int .i64 y0) := by rw [← hW0]; simp
  have g1 : W0.cell? ⟨w.heap.size + 1, 1, none⟩ = some (.int .i64 y1) := by rw [← hW0]; simp
  have g2 : w.heap.size + 1 < W0.heap.size := by rw [← hW0]; simp
  have hG : ∃ os', W0 = grow w os' := ⟨_, by rw [← hW0, alloc_eq_grow, alloc_eq_grow, grow_grow]⟩
  rw [hW0]
  clear hW0
  obtain ⟨FB, hFB⟩ : ∃ n, w.heap.size = n := ⟨_, rfl⟩
  obtain ⟨BB, hBB⟩ : ∃ n, w.heap.size + 1 = n := ⟨_, rfl⟩
  rw [hFB] at f0 f1 f2
  rw [hBB] at g0 g1 g2
  simp only [hBB]
  simp only [hFB]
  clear hFB hBB
  refine wp_region_any (by kernel_rfl) ?_
  change wpAny _ _ _ _ _ _ _ (World.drew _)
  refine wpAny_narrow (fun W' => Below W0.heap.size W0 W') _ _ _ _ ?_
  refine anyH_take 0 5 (.pointer (some ⟨FB, 0, none⟩)) rfl rfl (by kernel_rfl) (by kernel_rfl) (by kernel_rfl) (fun _ _ _ h => h) (Or.inl ⟨by rfl, by intro w hSw; go_simp⟩) ((Below.refl _ _).drew) ?_
  try simp only [Act.put, List.setIfInBounds_toArray, List.set_cons_zero, List.set_cons_succ]
  refine anyH_take 1 6 (.int .i64 x0) rfl rfl (by kernel_rfl) (by kernel_rfl) (by kernel_rfl) (fun _ _ _ h => h) (Or.inl ⟨by rfl, by intro w hSw; have k0 := (hSw.cell (p := ⟨FB, 0, none⟩) f2).trans f0; have k1 := (hSw.cell (p := ⟨FB, 1, none⟩) f2).trans f1; go_simp⟩) ((Below.refl _ _).drew) ?_
  try simp only [Act.put, List.setIfInBounds_toArray, List.set_cons_zero, List.set_cons_succ]
  refine anyH_take 2 7 (.pointer (some ⟨BB, 0, none⟩)) rfl rfl (by kernel_rfl) (by kernel_rfl) (by kernel_rfl) (fun _ _ _ h => h) (Or.inl ⟨by rfl, by intro w hSw; go_simp⟩) ((Below.refl _ _).drew) ?_
  try simp only [Act.put, List.setIfInBounds_toArray, List.set_cons_zero, List.set_cons_succ]
  refine anyH_take 3 8 (.int .i64 y0) rfl rfl (by kernel_rfl) (by kernel_rfl) (by kernel_rfl) (fun _ _ _ h => h) (Or.inl ⟨by rfl, by intro w hSw; have k0 := (hSw.cell (p := ⟨BB, 0, none⟩) g2).trans g0; have k1 := (hSw.cell (p := ⟨BB, 1, none⟩) g2).trans g1; go_simp⟩) ((Below.refl _ _).drew) ?_
  try simp only [Act.put, List.setIfInBounds_toArray, List.set_cons_zero, List.set_cons_succ]
  refine anyH_take 5 10 (.pointer (some ⟨FB, 1, none⟩)) rfl rfl (by kernel_rfl) (by kernel_rfl) (by kernel_rfl) (fun _ _ _ h => h) (Or.inl ⟨by rfl, by intro w hSw; go_simp⟩) ((Below.refl _ _).drew) ?_
  try simp only [Act.put, List.setIfInBounds_toArray, List.set_cons_zero, List.set_cons_succ]
  refine anyH_take 6 11 (.int .i64 x1) rfl rfl (by kernel_rfl) (by kernel_rfl) (by kernel_rfl) (fun _ _ _ h => h) (Or.inl ⟨by rfl, by intro w hSw; have k0 := (hSw.cell (p := ⟨FB, 0, none⟩) f2).trans f0; have k1 := (hSw.cell (p := ⟨FB, 1, none⟩) f2).trans f1; go_simp⟩) ((Below.refl _ _).drew) ?_
  try simp only [Act.put, List.setIfInBounds_toArray, List.set_cons_zero, List.set_cons_succ]
  refine anyH_take 7 12 (.pointer (some ⟨BB, 1, none⟩)) rfl rfl (by kernel_rfl) (by kernel_rfl) (by kernel_rfl) (fun _ _ _ h => h) (Or.inl ⟨by rfl, by intro w hSw; go_simp⟩) ((Below.refl _ _).drew) ?_
  try simp only [Act.put, List.setIfInBounds_toArray, List.set_cons_zero, List.set_cons_succ]
  refine anyH_take 8 13 (.int .i64 y1) rfl rfl (by kernel_rfl) (by kernel_rfl) (by kernel_rfl) (fun _ _ _ h => h) (Or.inl ⟨by rfl, by intro w hSw; have k0 := (hSw.cell (p := ⟨BB, 0, none⟩) g2).trans g0; have k1 := (hSw.cell (p := ⟨BB, 1, none⟩) g2).trans g1; go_simp⟩) ((Below.refl _ _).drew) ?_
  try simp only [Act.put, List.setIfInBounds_toArray, List.set_cons_zero, List.set_cons_succ]
  refine wpAnyH_ready (rs := [4]) (by kernel_rfl) (by simp) ?_
  refine AllReadyH.cons rfl (fun K hK => ?_) AllReadyH.nil
  go_simp
  go_wp2_with (go_at_call 54; refine (cmp_any _ _ _).mono ?_; rintro e wx ⟨rfl, hw⟩; rw [hw]; clear hw wx)
  refine hK.out _ _ ((Below.refl _ _).drew) (fun hS => ?_)
  clear hK
  refine wpAnyH_ready (rs := [9]) (by kernel_rfl) (by simp) ?_
  refine AllReadyH.cons rfl (fun K hK => ?_) AllReadyH.nil
  go_simp
  go_wp2_with (go_at_call 54; refine (cmp_any _ _ _).mono ?_; rintro e wx ⟨rfl, hw⟩; rw [hw]; clear hw wx)
  refine hK.out _ _ ((Below.refl _ _).drew) (fun hS => ?_)
  clear hK
  refine wpAnyH_ready (rs := [10]) (by kernel_rfl) (by simp) ?_
  refine AllReadyH.cons rfl (fun K hK => ?_) AllReadyH.nil
  go_simp
  go_wp2_with (fail)
  refine hK.out _ _ (((Below.refl _ _).drew.alloc (Nat.le_refl _) _)) (fun hS => ?_)
  clear hK
  refine wpAnyH_ready (rs := [11]) (by kernel_rfl) (by simp) ?_
  refine AllReadyH.cons rfl (fun K hK => ?_) AllReadyH.nil
  go_simp
  go_wp2_with (go_at_call 53; refine (or_any W0.heap.size (cz x0 y0) (cz x1 y1) _ (by simp) (by simp)).mono ?_; rintro e wx ⟨rfl, hw⟩; rw [hw]; clear hw wx)
  refine hK.out _ _ (((Below.refl _ _).drew.alloc (Nat.le_refl _) _)) (fun hS => ?_)
  clear hK
  refine anyH_take 12 4 (.int .i64 (orz (cz x0 y0) (cz x1 y1))) rfl rfl (by kernel_rfl) (by kernel_rfl) (by kernel_rfl) (fun _ _ _ h => h) (Or.inl ⟨by rfl, by intro w hSw; go_simp⟩) (((Below.refl _ _).drew.alloc (Nat.le_refl _) _)) ?_
  try simp only [Act.put, List.setIfInBounds_toArray, List.set_cons_zero, List.set_cons_succ]
  refine wpAnyH_done (by kernel_rfl) ?_ _
  obtain ⟨os0, hos⟩ := hG
  go_wp2
  go_ret
  refine ⟨rfl, 1, os0 ++ #[.cells #[.int .i64 (cz x0 y0), .int .i64 (cz x1 y1)] 3], ?_⟩
  rw [hos, alloc_eq_grow, grow_grow]
  rfl
end Go.Proofs.Ytoppecppmjpgiaa
