/-
  Package plan: the order of pairs.
-/
import Derived.Test.YtpdmpekkmblgmaaP1
namespace Go.Proofs.Ytpdmpekkmblgmaa
open Go.ChangeShapes Go.WideShapes Go.ChangeAt Go.RowKit Go.Maps Go.Shelf
set_option linter.unusedVariables false
set_option linter.unusedSimpArgs false
attribute [local go_sem] Oper.semAt_some

set_option maxRecDepth 100000 in
set_option maxHeartbeats 4000000 in
theorem order_any (a b c d : Int) (w : World) : Calls Try.prog 31 #[.agg #[.int .i64 a, .int .i64 b], .agg #[.int .i64 c, .int .i64 d]] w fun e w' => e = .returned (.int .i64 (ordL (a, b) (c, d))) ∧ w' = (World.drew ((w.alloc (.cells #[.int .i64 a, .int .i64 b] 49)).alloc (.cells #[.int .i64 c, .int .i64 d] 49))).alloc (.cells #[.int .i64 (cmpI a c), .int .i64 (cmpI b d)] 3) := by
  have K1 := fun x y W => compare_any x y W
  go_enter Try.func31, Try.ntmps31
  go_wp2
  refine wp_region_any (by kernel_rfl) ?_
  change wpAny _ _ _ _ _ _ _ (World.drew _)
  obtain ⟨WD, hWD⟩ : ∃ WD, World.drew ((w.alloc (.cells #[.int .i64 a, .int .i64 b] 49)).alloc (.cells #[.int .i64 c, .int .i64 d] 49)) = WD := ⟨_, rfl⟩
  rw [hWD]
  have C1 : WD.cell? ⟨w.heap.size, 0, none⟩ = some (.int .i64 a) := by rw [← hWD]; simp
  have C2 : WD.cell? ⟨w.heap.size, 1, none⟩ = some (.int .i64 b) := by rw [← hWD]; simp
  have C3 : WD.cell? ⟨w.heap.size + 1, 0, none⟩ = some (.int .i64 c) := by rw [← hWD]; simp
  have C4 : WD.cell? ⟨w.heap.size + 1, 1, none⟩ = some (.int .i64 d) := by rw [← hWD]; simp
  refine wpAny_narrow (fun W' => W'.cell? ⟨w.heap.size, 0, none⟩ = some (.int .i64 a) ∧ W'.cell? ⟨w.heap.size, 1, none⟩ = some (.int .i64 b) ∧ W'.cell? ⟨w.heap.size + 1, 0, none⟩ = some (.int .i64 c) ∧ W'.cell? ⟨w.heap.size + 1, 1, none⟩ = some (.int .i64 d)) _ _ _ _ ?_
  refine anyH_take 0 5 (.pointer (some ⟨w.heap.size, 0, none⟩)) rfl rfl (by kernel_rfl) (by kernel_rfl) (by kernel_rfl) (fun _ _ _ h => h) (Or.inl ⟨by rfl, by intro w hSw; go_simp⟩) (⟨C1, C2, C3, C4⟩) ?_
  try simp only [Act.put, List.setIfInBounds_toArray, List.set_cons_zero, List.set_cons_succ]
  refine anyH_take 1 6 (.int .i64 a) rfl rfl (by kernel_rfl) (by kernel_rfl) (by kernel_rfl) (fun _ _ _ h => h) (Or.inl ⟨by rfl, by intro w hSw; have h1 := hSw.1; go_simp⟩) (⟨C1, C2, C3, C4⟩) ?_
  try simp only [Act.put, List.setIfInBounds_toArray, List.set_cons_zero, List.set_cons_succ]
  refine anyH_take 2 7 (.pointer (some ⟨w.heap.size + 1, 0, none⟩)) rfl rfl (by kernel_rfl) (by kernel_rfl) (by kernel_rfl) (fun _ _ _ h => h) (Or.inl ⟨by rfl, by intro w hSw; go_simp⟩) (⟨C1, C2, C3, C4⟩) ?_
  try simp only [Act.put, List.setIfInBounds_toArray, List.set_cons_zero, List.set_cons_succ]
  refine anyH_take 3 8 (.int .i64 c) rfl rfl (by kernel_rfl) (by kernel_rfl) (by kernel_rfl) (fun _ _ _ h => h) (Or.inl ⟨by rfl, by intro w hSw; have h1 := hSw.2.2.1; go_simp⟩) (⟨C1, C2, C3, C4⟩) ?_
  try simp only [Act.put, List.setIfInBounds_toArray, List.set_cons_zero, List.set_cons_succ]
  refine anyH_take 5 10 (.pointer (some ⟨w.heap.size, 1, none⟩)) rfl rfl (by kernel_rfl) (by kernel_rfl) (by kernel_rfl) (fun _ _ _ h => h) (Or.inl ⟨by rfl, by intro w hSw; go_simp⟩) (⟨C1, C2, C3, C4⟩) ?_
  try simp only [Act.put, List.setIfInBounds_toArray, List.set_cons_zero, List.set_cons_succ]
  refine anyH_take 6 11 (.int .i64 b) rfl rfl (by kernel_rfl) (by kernel_rfl) (by kernel_rfl) (fun _ _ _ h => h) (Or.inl ⟨by rfl, by intro w hSw; have h1 := hSw.2.1; go_simp⟩) (⟨C1, C2, C3, C4⟩) ?_
  try simp only [Act.put, List.setIfInBounds_toArray, List.set_cons_zero, List.set_cons_succ]
  refine anyH_take 7 12 (.pointer (some ⟨w.heap.size + 1, 1, none⟩)) rfl rfl (by kernel_rfl) (by kernel_rfl) (by kernel_rfl) (fun _ _ _ h => h) (Or.inl ⟨by rfl, by intro w hSw; go_simp⟩) (⟨C1, C2, C3, C4⟩) ?_
  try simp only [Act.put, List.setIfInBounds_toArray, List.set_cons_zero, List.set_cons_succ]
  refine anyH_take 8 13 (.int .i64 d) rfl rfl (by kernel_rfl) (by kernel_rfl) (by kernel_rfl) (fun _ _ _ h => h) (Or.inl ⟨by rfl, by intro w hSw; have h1 := hSw.2.2.2; go_simp⟩) (⟨C1, C2, C3, C4⟩) ?_
  try simp only [Act.put, List.setIfInBounds_toArray, List.set_cons_zero, List.set_cons_succ]
  refine wpAnyH_ready (rs := [4]) (by kernel_rfl) (by simp) ?_
  refine AllReadyH.cons rfl (fun K hK => ?_) AllReadyH.nil
  go_simp
  go_wp2_with (go_at_call 54; refine (K1 _ _ _).mono ?_; rintro e wc ⟨rfl, hwc⟩; rw [hwc]; clear hwc wc)
  refine hK.out _ _ (⟨C1, C2, C3, C4⟩) (fun hS => ?_)
  clear hK
  refine wpAnyH_ready (rs := [9]) (by kernel_rfl) (by simp) ?_
  refine AllReadyH.cons rfl (fun K hK => ?_) AllReadyH.nil
  go_simp
  go_wp2_with (go_at_call 54; refine (K1 _ _ _).mono ?_; rintro e wc ⟨rfl, hwc⟩; rw [hwc]; clear hwc wc)
  refine hK.out _ _ (⟨C1, C2, C3, C4⟩) (fun hS => ?_)
  clear hK
  have hz : WD.heap.size = w.heap.size + 2 := by rw [← hWD]; simp
  have C5 : (WD.alloc (.cells #[.int .i64 (cmpI a c), .int .i64 (cmpI b d)] 3)).cell? ⟨w.heap.size + 2, 0, none⟩ = some (.int .i64 (cmpI a c)) := by rw [← hz]; simp
  have C6 : (WD.alloc (.cells #[.int .i64 (cmpI a c), .int .i64 (cmpI b d)] 3)).cell? ⟨w.heap.size + 2, 1, none⟩ = some (.int .i64 (cmpI b d)) := by rw [← hz]; simp
  refine wpAnyH_ready (rs := [10]) (by kernel_rfl) (by simp) ?_
  refine AllReadyH.cons rfl (fun K hK => ?_) AllReadyH.nil
  go_simp
  refine hK.out _ _ (⟨(World.cell?_alloc_past _ _ _ (by show w.heap.size < _; omega)).trans C1, (World.cell?_alloc_past _ _ _ (by show w.heap.size < _; omega)).trans C2, (World.cell?_alloc_past _ _ _ (by show w.heap.size + 1 < _; omega)).trans C3, (World.cell?_alloc_past _ _ _ (by show w.heap.size + 1 < _; omega)).trans C4⟩) (fun hS => ?_)
  clear hK
  have KO : Calls Try.prog 53 #[.slice (some ⟨w.heap.size + 2, 0, none⟩) 2 2] (WD.alloc (.cells #[.int .i64 (cmpI a c), .int .i64 (cmpI b d)] 3)) fun e w' => e = .returned (.int .i64 (ordL (a, b) (c, d))) ∧ w' = (WD.alloc (.cells #[.int .i64 (cmpI a c), .int .i64 (cmpI b d)] 3)) := or_any (w.heap.size + 2) _ _ _ C5 C6
  refine wpAnyH_ready (rs := [11]) (by kernel_rfl) (by simp) ?_
  refine AllReadyH.cons rfl (fun K hK => ?_) AllReadyH.nil
  go_simp
  go_wp2_with (go_at_call 53; refine (KO).mono ?_; rintro e wc ⟨rfl, hwc⟩; rw [hwc]; clear hwc wc)
  refine hK.out _ _ (⟨(World.cell?_alloc_past _ _ _ (by show w.heap.size < _; omega)).trans C1, (World.cell?_alloc_past _ _ _ (by show w.heap.size < _; omega)).trans C2, (World.cell?_alloc_past _ _ _ (by show w.heap.size + 1 < _; omega)).trans C3, (World.cell?_alloc_past _ _ _ (by show w.heap.size + 1 < _; omega)).trans C4⟩) (fun hS => ?_)
  clear hK
  refine anyH_take 12 4 (.int .i64 (ordL (a, b) (c, d))) rfl rfl (by kernel_rfl) (by kernel_rfl) (by kernel_rfl) (fun _ _ _ h => h) (Or.inl ⟨by rfl, by intro w hSw; go_simp⟩) (⟨(World.cell?_alloc_past _ _ _ (by show w.heap.size < _; omega)).trans C1, (World.cell?_alloc_past _ _ _ (by show w.heap.size < _; omega)).trans C2, (World.cell?_alloc_past _ _ _ (by show w.heap.size + 1 < _; omega)).trans C3, (World.cell?_alloc_past _ _ _ (by show w.heap.size + 1 < _; omega)).trans C4⟩) ?_
  try simp only [Act.put, List.setIfInBounds_toArray, List.set_cons_zero, List.set_cons_succ]
  refine wpAnyH_done (by kernel_rfl) ?_ _
  go_wp2
  go_ret
  exact ⟨rfl, by rw [hWD]⟩
end Go.Proofs.Ytpdmpekkmblgmaa
