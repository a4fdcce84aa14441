/-
  Where an item's fields lie (parts).
-/
import Derived.Test.YticmjlnpjopfbaaDoorHead
namespace Go.Proofs.YticmjlnpjopfbaaDoor
open Go.ChangeShapes Go.WideShapes Go.ChangeAt Go.RowKit S
set_option linter.unusedVariables false

set_option maxRecDepth 100000 in
set_option maxHeartbeats 8000000 in
theorem parts_any (b o : Nat) (w : World) : Calls Tryd.prog 55 #[.pointer (some ⟨b, o, none⟩)] w fun e w' => e = .returned (.agg #[.int .i64 3, .pointer none, .pointer none, .pointer (some ⟨b, o, none⟩), .pointer none, .int .i64 1, .pointer none, .pointer (some ⟨b, o + 1, none⟩), .pointer none, .pointer none, .int .i64 1, .pointer (some ⟨b, o + 2, none⟩), .pointer none, .pointer none, .pointer none, .int .i64 4, .pointer none, .pointer none, .pointer none, .pointer (some ⟨b, o + 3, none⟩), .int .i64 1, .pointer (some ⟨b, o + 4, none⟩), .pointer none, .pointer none, .pointer none, .int .i64 1, .pointer none, .pointer (some ⟨b, o + 5, none⟩), .pointer none, .pointer none, .int .i64 1, .pointer none, .pointer (some ⟨b, o + 6, none⟩), .pointer none, .pointer none, .int .i64 1, .pointer (some ⟨b, o + 7, none⟩), .pointer none, .pointer none, .pointer none, .int .i64 2, .pointer none, .pointer (some ⟨b, o + 8, none⟩), .pointer none, .pointer none, .int .i64 4, .pointer none, .pointer none, .pointer none, .pointer (some ⟨b, o + 9, none⟩), .int .i64 2, .pointer none, .pointer (some ⟨b, o + 10, none⟩), .pointer none, .pointer none, .int .i64 4, .pointer none, .pointer none, .pointer none, .pointer (some ⟨b, o + 11, none⟩), .int .i64 2, .pointer none, .pointer (some ⟨b, o + 12, none⟩), .pointer none, .pointer none, .int .i64 1, .pointer (some ⟨b, o + 13, none⟩), .pointer none, .pointer none, .pointer none, .int .i64 1, .pointer none, .pointer (some ⟨b, o + 14, none⟩), .pointer none, .pointer none, .int .i64 4, .pointer none, .pointer none, .pointer none, .pointer (some ⟨b, o + 15, none⟩), .int .i64 2, .pointer none, .pointer (some ⟨b, o + 16, none⟩), .pointer none, .pointer none, .int .i64 1, .pointer (some ⟨b, o + 17, none⟩), .pointer none, .pointer none, .pointer none, .int .i64 1, .pointer none, .pointer (some ⟨b, o + 18, none⟩), .pointer none, .pointer none]) ∧ Below w.heap.size w w' := by
  obtain ⟨Z, hZ⟩ : ∃ Z : Array Value, Tryd.zeroCells97 = Z := ⟨_, rfl⟩
  have hZs : Z.size = 95 := by rw [← hZ]; kernel_rfl
  go_enter Tryd.func55, Tryd.ntmps55
  go_wp2
  try rw [hZ]
  clear hZ
  obtain ⟨W0, hW0⟩ : ∃ W0, w.alloc (.cells Z 97) = W0 := ⟨_, rfl⟩
  have g0 : W0.drew.heap[w.heap.size]? = some (.cells Z 97 (0, 0)) := by rw [← hW0]; exact World.alloc_heap_new w _
  have s0 : w.heap.size < W0.drew.heap.size := by rw [← hW0]; simp
  have B0 : Below w.heap.size w W0.drew := by rw [← hW0]; exact ((Below.refl _ _).alloc (Nat.le_refl _) _).drew
  rw [hW0]
  clear hW0
  refine wp_region_any (by kernel_rfl) ?_
  change wpAny _ _ _ _ _ _ _ (World.drew _)
  refine any_take 0 7 (.pointer (some ⟨b, o, none⟩)) rfl rfl (by kernel_rfl) (by kernel_rfl) (by kernel_rfl) (fun _ _ _ h => h) (Or.inl ⟨by rfl, by intro w; go_simp⟩) ?_
  try simp only [Act.put, List.setIfInBounds_toArray, List.set_cons_zero, List.set_cons_succ]
  refine any_take 1 8 (.pointer (some ⟨b, o, none⟩)) rfl rfl (by kernel_rfl) (by kernel_rfl) (by kernel_rfl) (fun _ _ _ h => h) (Or.inl ⟨by rfl, by intro w; go_simp⟩) ?_
  try simp only [Act.put, List.setIfInBounds_toArray, List.set_cons_zero, List.set_cons_succ]
  refine any_take 2 9 (.pointer (some ⟨b, o, none⟩)) rfl rfl (by kernel_rfl) (by kernel_rfl) (by kernel_rfl) (fun _ _ _ h => h) (Or.inl ⟨by rfl, by intro w; go_simp⟩) ?_
  try simp only [Act.put, List.setIfInBounds_toArray, List.set_cons_zero, List.set_cons_succ]
  refine any_take 3 10 (.pointer (some ⟨b, o, none⟩)) rfl rfl (by kernel_rfl) (by kernel_rfl) (by kernel_rfl) (fun _ _ _ h => h) (Or.inl ⟨by rfl, by intro w; go_simp⟩) ?_
  try simp only [Act.put, List.setIfInBounds_toArray, List.set_cons_zero, List.set_cons_succ]
  refine any_take 4 11 (.pointer (some ⟨b, o, none⟩)) rfl rfl (by kernel_rfl) (by kernel_rfl) (by kernel_rfl) (fun _ _ _ h => h) (Or.inl ⟨by rfl, by intro w; go_simp⟩) ?_
  try simp only [Act.put, List.setIfInBounds_toArray, List.set_cons_zero, List.set_cons_succ]
  refine any_take 5 12 (.pointer (some ⟨b, o + 6, none⟩)) rfl rfl (by kernel_rfl) (by kernel_rfl) (by kernel_rfl) (fun _ _ _ h => h) (Or.inl ⟨by rfl, by intro w; go_simp⟩) ?_
  try simp only [Act.put, List.setIfInBounds_toArray, List.set_cons_zero, List.set_cons_succ]
  refine any_take 6 13 (.pointer (some ⟨b, o, none⟩)) rfl rfl (by kernel_rfl) (by kernel_rfl) (by kernel_rfl) (fun _ _ _ h => h) (Or.inl ⟨by rfl, by intro w; go_simp⟩) ?_
  try simp only [Act.put, List.setIfInBounds_toArray, List.set_cons_zero, List.set_cons_succ]
  refine any_take 7 14 (.pointer (some ⟨b, o, none⟩)) rfl rfl (by kernel_rfl) (by kernel_rfl) (by kernel_rfl) (fun _ _ _ h => h) (Or.inl ⟨by rfl, by intro w; go_simp⟩) ?_
  try simp only [Act.put, List.setIfInBounds_toArray, List.set_cons_zero, List.set_cons_succ]
  refine any_take 8 15 (.pointer (some ⟨b, o + 11, none⟩)) rfl rfl (by kernel_rfl) (by kernel_rfl) (by kernel_rfl) (fun _ _ _ h => h) (Or.inl ⟨by rfl, by intro w; go_simp⟩) ?_
  try simp only [Act.put, List.setIfInBounds_toArray, List.set_cons_zero, List.set_cons_succ]
  refine any_take 9 16 (.pointer (some ⟨b, o, none⟩)) rfl rfl (by kernel_rfl) (by kernel_rfl) (by kernel_rfl) (fun _ _ _ h => h) (Or.inl ⟨by rfl, by intro w; go_simp⟩) ?_
  try simp only [Act.put, List.setIfInBounds_toArray, List.set_cons_zero, List.set_cons_succ]
  refine any_take 10 17 (.pointer (some ⟨b, o, none⟩)) rfl rfl (by kernel_rfl) (by kernel_rfl) (by kernel_rfl) (fun _ _ _ h => h) (Or.inl ⟨by rfl, by intro w; go_simp⟩) ?_
  try simp only [Act.put, List.setIfInBounds_toArray, List.set_cons_zero, List.set_cons_succ]
  refine any_take 11 18 (.pointer (some ⟨b, o + 15, none⟩)) rfl rfl (by kernel_rfl) (by kernel_rfl) (by kernel_rfl) (fun _ _ _ h => h) (Or.inl ⟨by rfl, by intro w; go_simp⟩) ?_
  try simp only [Act.put, List.setIfInBounds_toArray, List.set_cons_zero, List.set_cons_succ]
  refine any_take 12 3 (.pointer (some ⟨b, o, none⟩)) rfl rfl (by kernel_rfl) (by kernel_rfl) (by kernel_rfl) (fun _ _ _ h => h) (Or.inl ⟨by rfl, by intro w; go_simp⟩) ?_
  try simp only [Act.put, List.setIfInBounds_toArray, List.set_cons_zero, List.set_cons_succ]
  refine any_take 13 4 (.pointer (some ⟨b, o + 6, none⟩)) rfl rfl (by kernel_rfl) (by kernel_rfl) (by kernel_rfl) (fun _ _ _ h => h) (Or.inl ⟨by rfl, by intro w; go_simp⟩) ?_
  try simp only [Act.put, List.setIfInBounds_toArray, List.set_cons_zero, List.set_cons_succ]
  refine any_take 14 5 (.pointer (some ⟨b, o + 11, none⟩)) rfl rfl (by kernel_rfl) (by kernel_rfl) (by kernel_rfl) (fun _ _ _ h => h) (Or.inl ⟨by rfl, by intro w; go_simp⟩) ?_
  try simp only [Act.put, List.setIfInBounds_toArray, List.set_cons_zero, List.set_cons_succ]
  refine any_take 15 6 (.pointer (some ⟨b, o + 15, none⟩)) rfl rfl (by kernel_rfl) (by kernel_rfl) (by kernel_rfl) (fun _ _ _ h => h) (Or.inl ⟨by rfl, by intro w; go_simp⟩) ?_
  try simp only [Act.put, List.setIfInBounds_toArray, List.set_cons_zero, List.set_cons_succ]
  refine wpAny_done (by kernel_rfl) ?_ _
  go_wp2
  refine wp_region_any (by kernel_rfl) ?_
  change wpAny _ _ _ _ _ _ _ (World.drew _)
  have B0' := B0.drew
  clear B0
  have B0 := B0'
  clear B0'
  refine any_take 0 19 (.pointer (some ⟨b, o, none⟩)) rfl rfl (by kernel_rfl) (by kernel_rfl) (by kernel_rfl) (fun _ _ _ h => h) (Or.inl ⟨by rfl, by intro w; go_simp⟩) ?_
  try simp only [Act.put, List.setIfInBounds_toArray, List.set_cons_zero, List.set_cons_succ]
  refine any_take 1 20 (.pointer (some ⟨b, o, none⟩)) rfl rfl (by kernel_rfl) (by kernel_rfl) (by kernel_rfl) (fun _ _ _ h => h) (Or.inl ⟨by rfl, by intro w; go_simp⟩) ?_
  try simp only [Act.put, List.setIfInBounds_toArray, List.set_cons_zero, List.set_cons_succ]
  refine any_take 2 21 (.pointer (some ⟨b, o, none⟩)) rfl rfl (by kernel_rfl) (by kernel_rfl) (by kernel_rfl) (fun _ _ _ h => h) (Or.inl ⟨by rfl, by intro w; go_simp⟩) ?_
  try simp only [Act.put, List.setIfInBounds_toArray, List.set_cons_zero, List.set_cons_succ]
  refine any_take 4 23 (.pointer (some ⟨b, o, none⟩)) rfl rfl (by kernel_rfl) (by kernel_rfl) (by kernel_rfl) (fun _ _ _ h => h) (Or.inl ⟨by rfl, by intro w; go_simp⟩) ?_
  try simp only [Act.put, List.setIfInBounds_toArray, List.set_cons_zero, List.set_cons_succ]
  refine any_take 5 24 (.pointer (some ⟨b, o, none⟩)) rfl rfl (by kernel_rfl) (by kernel_rfl) (by kernel_rfl) (fun _ _ _ h => h) (Or.inl ⟨by rfl, by intro w; go_simp⟩) ?_
  try simp only [Act.put, List.setIfInBounds_toArray, List.set_cons_zero, List.set_cons_succ]
  refine any_take 6 25 (.pointer (some ⟨b, o + 1, none⟩)) rfl rfl (by kernel_rfl) (by kernel_rfl) (by kernel_rfl) (fun _ _ _ h => h) (Or.inl ⟨by rfl, by intro w; go_simp⟩) ?_
  try simp only [Act.put, List.setIfInBounds_toArray, List.set_cons_zero, List.set_cons_succ]
  refine any_take 8 27 (.pointer (some ⟨b, o, none⟩)) rfl rfl (by kernel_rfl) (by kernel_rfl) (by kernel_rfl) (fun _ _ _ h => h) (Or.inl ⟨by rfl, by intro w; go_simp⟩) ?_
  try simp only [Act.put, List.setIfInBounds_toArray, List.set_cons_zero, List.set_cons_succ]
  refine any_take 9 28 (.pointer (some ⟨b, o, none⟩)) rfl rfl (by kernel_rfl) (by kernel_rfl) (by kernel_rfl) (fun _ _ _ h => h) (Or.inl ⟨by rfl, by intro w; go_simp⟩) ?_
  try simp only [Act.put, List.setIfInBounds_toArray, List.set_cons_zero, List.set_cons_succ]
  refine any_take 10 29 (.pointer (some ⟨b, o + 2, none⟩)) rfl rfl (by kernel_rfl) (by kernel_rfl) (by kernel_rfl) (fun _ _ _ h => h) (Or.inl ⟨by rfl, by intro w; go_simp⟩) ?_
  try simp only [Act.put, List.setIfInBounds_toArray, List.set_cons_zero, List.set_cons_succ]
  refine any_take 12 31 (.pointer (some ⟨b, o, none⟩)) rfl rfl (by kernel_rfl) (by kernel_rfl) (by kernel_rfl) (fun _ _ _ h => h) (Or.inl ⟨by rfl, by intro w; go_simp⟩) ?_
  try simp only [Act.put, List.setIfInBounds_toArray, List.set_cons_zero, List.set_cons_succ]
  refine any_take 13 32 (.pointer (some ⟨b, o, none⟩)) rfl rfl (by kernel_rfl) (by kernel_rfl) (by kernel_rfl) (fun _ _ _ h => h) (Or.inl ⟨by rfl, by intro w; go_simp⟩) ?_
  try simp only [Act.put, List.setIfInBounds_toArray, List.set_cons_zero, List.set_cons_succ]
  refine any_take 14 33 (.pointer (some ⟨b, o + 3, none⟩)) rfl rfl (by kernel_rfl) (by kernel_rfl) (by kernel_rfl) (fun _ _ _ h => h) (Or.inl ⟨by rfl, by intro w; go_simp⟩) ?_
  try simp only [Act.put, List.setIfInBounds_toArray, List.set_cons_zero, List.set_cons_succ]
  refine any_take 16 35 (.pointer (some ⟨b, o, none⟩)) rfl rfl (by kernel_rfl) (by kernel_rfl) (by kernel_rfl) (fun _ _ _ h => h) (Or.inl ⟨by rfl, by intro w; go_simp⟩) ?_
  try simp only [Act.put, List.setIfInBounds_toArray, List.set_cons_zero, List.set_cons_succ]
  refine any_take 17 36 (.pointer (some ⟨b, o, none⟩)) rfl rfl (by kernel_rfl) (by kernel_rfl) (by kernel_rfl) (fun _ _ _ h => h) (Or.inl ⟨by rfl, by intro w; go_simp⟩) ?_
  try simp only [Act.put, List.setIfInBounds_toArray, List.set_cons_zero, List.set_cons_succ]
  refine any_take 18 37 (.pointer (some ⟨b, o + 4, none⟩)) rfl rfl (by kernel_rfl) (by kernel_rfl) (by kernel_rfl) (fun _ _ _ h => h) (Or.inl ⟨by rfl, by intro w; go_simp⟩) ?_
  try simp only [Act.put, List.setIfInBounds_toArray, List.set_cons_zero, List.set_cons_succ]
  refine any_take 20 39 (.pointer (some ⟨b, o, none⟩)) rfl rfl (by kernel_rfl) (by kernel_rfl) (by kernel_rfl) (fun _ _ _ h => h) (Or.inl ⟨by rfl, by intro w; go_simp⟩) ?_
  try simp only [Act.put, List.setIfInBounds_toArray, List.set_cons_zero, List.set_cons_succ]
  refine any_take 21 40 (.pointer (some ⟨b, o, none⟩)) rfl rfl (by kernel_rfl) (by kernel_rfl) (by kernel_rfl) (fun _ _ _ h => h) (Or.inl ⟨by rfl, by intro w; go_simp⟩) ?_
  try simp only [Act.put, List.setIfInBounds_toArray, List.set_cons_zero, List.set_cons_succ]
  refine any_take 22 41 (.pointer (some ⟨b, o + 5, none⟩)) rfl rfl (by kernel_rfl) (by kernel_rfl) (by kernel_rfl) (fun _ _ _ h => h) (Or.inl ⟨by rfl, by intro w; go_simp⟩) ?_
  try simp only [Act.put, List.setIfInBounds_toArray, List.set_cons_zero, List.set_cons_succ]
  refine any_take 24 43 (.pointer (some ⟨b, o + 6, none⟩)) rfl rfl (by kernel_rfl) (by kernel_rfl) (by kernel_rfl) (fun _ _ _ h => h) (Or.inl ⟨by rfl, by intro w; go_simp⟩) ?_
  try simp only [Act.put, List.setIfInBounds_toArray, List.set_cons_zero, List.set_cons_succ]
  refine any_take 25 44 (.pointer (some ⟨b, o + 6, none⟩)) rfl rfl (by kernel_rfl) (by kernel_rfl) (by kernel_rfl) (fun _ _ _ h => h) (Or.inl ⟨by rfl, by intro w; go_simp⟩) ?_
  try simp only [Act.put, List.setIfInBounds_toArray, List.set_cons_zero, List.set_cons_succ]
  refine any_take 26 45 (.pointer (some ⟨b, o + 6, none⟩)) rfl rfl (by kernel_rfl) (by kernel_rfl) (by kernel_rfl) (fun _ _ _ h => h) (Or.inl ⟨by rfl, by intro w; go_simp⟩) ?_
  try simp only [Act.put, List.setIfInBounds_toArray, List.set_cons_zero, List.set_cons_succ]
  refine any_take 28 47 (.pointer (some ⟨b, o + 6, none⟩)) rfl rfl (by kernel_rfl) (by kernel_rfl) (by kernel_rfl) (fun _ _ _ h => h) (Or.inl ⟨by rfl, by intro w; go_simp⟩) ?_
  try simp only [Act.put, List.setIfInBounds_toArray, List.set_cons_zero, List.set_cons_succ]
  refine any_take 29 48 (.pointer (some ⟨b, o + 6, none⟩)) rfl rfl (by kernel_rfl) (by kernel_rfl) (by kernel_rfl) (fun _ _ _ h => h) (Or.inl ⟨by rfl, by intro w; go_simp⟩) ?_
  try simp only [Act.put, List.setIfInBounds_toArray, List.set_cons_zero, List.set_cons_succ]
  refine any_take 30 49 (.pointer (some ⟨b, o + 7, none⟩)) rfl rfl (by kernel_rfl) (by kernel_rfl) (by kernel_rfl) (fun _ _ _ h => h) (Or.inl ⟨by rfl, by intro w; go_simp⟩) ?_
  try simp only [Act.put, List.setIfInBounds_toArray, List.set_cons_zero, List.set_cons_succ]
  refine any_take 32 51 (.pointer (some ⟨b, o + 6, none⟩)) rfl rfl (by kernel_rfl) (by kernel_rfl) (by kernel_rfl) (fun _ _ _ h => h) (Or.inl ⟨by rfl, by intro w; go_simp⟩) ?_
  try simp only [Act.put, List.setIfInBounds_toArray, List.set_cons_zero, List.set_cons_succ]
  refine any_take 33 52 (.pointer (some ⟨b, o + 6, none⟩)) rfl rfl (by kernel_rfl) (by kernel_rfl) (by kernel_rfl) (fun _ _ _ h => h) (Or.inl ⟨by rfl, by intro w; go_simp⟩) ?_
  try simp only [Act.put, List.setIfInBounds_toArray, List.set_cons_zero, List.set_cons_succ]
  refine any_take 34 53 (.pointer (some ⟨b, o + 8, none⟩)) rfl rfl (by kernel_rfl) (by kernel_rfl) (by kernel_rfl) (fun _ _ _ h => h) (Or.inl ⟨by rfl, by intro w; go_simp⟩) ?_
  try simp only [Act.put, List.setIfInBounds_toArray, List.set_cons_zero, List.set_cons_succ]
  refine any_take 36 55 (.pointer (some ⟨b, o, none⟩)) rfl rfl (by kernel_rfl) (by kernel_rfl) (by kernel_rfl) (fun _ _ _ h => h) (Or.inl ⟨by rfl, by intro w; go_simp⟩) ?_
  try simp only [Act.put, List.setIfInBounds_toArray, List.set_cons_zero, List.set_cons_succ]
  refine any_take 37 56 (.pointer (some ⟨b, o, none⟩)) rfl rfl (by kernel_rfl) (by kernel_rfl) (by kernel_rfl) (fun _ _ _ h => h) (Or.inl ⟨by rfl, by intro w; go_simp⟩) ?_
  try simp only [Act.put, List.setIfInBounds_toArray, List.set_cons_zero, List.set_cons_succ]
  refine any_take 38 57 (.pointer (some ⟨b, o + 9, none⟩)) rfl rfl (by kernel_rfl) (by kernel_rfl) (by kernel_rfl) (fun _ _ _ h => h) (Or.inl ⟨by rfl, by intro w; go_simp⟩) ?_
  try simp only [Act.put, List.setIfInBounds_toArray, List.set_cons_zero, List.set_cons_succ]
  refine any_take 40 59 (.pointer (some ⟨b, o, none⟩)) rfl rfl (by kernel_rfl) (by kernel_rfl) (by kernel_rfl) (fun _ _ _ h => h) (Or.inl ⟨by rfl, by intro w; go_simp⟩) ?_
  try simp only [Act.put, List.setIfInBounds_toArray, List.set_cons_zero, List.set_cons_succ]
  refine any_take 41 60 (.pointer (some ⟨b, o, none⟩)) rfl rfl (by kernel_rfl) (by kernel_rfl) (by kernel_rfl) (fun _ _ _ h => h) (Or.inl ⟨by rfl, by intro w; go_simp⟩) ?_
  try simp only [Act.put, List.setIfInBounds_toArray, List.set_cons_zero, List.set_cons_succ]
  refine any_take 42 61 (.pointer (some ⟨b, o + 10, none⟩)) rfl rfl (by kernel_rfl) (by kernel_rfl) (by kernel_rfl) (fun _ _ _ h => h) (Or.inl ⟨by rfl, by intro w; go_simp⟩) ?_
  try simp only [Act.put, List.setIfInBounds_toArray, List.set_cons_zero, List.set_cons_succ]
  refine any_take 44 63 (.pointer (some ⟨b, o + 11, none⟩)) rfl rfl (by kernel_rfl) (by kernel_rfl) (by kernel_rfl) (fun _ _ _ h => h) (Or.inl ⟨by rfl, by intro w; go_simp⟩) ?_
  try simp only [Act.put, List.setIfInBounds_toArray, List.set_cons_zero, List.set_cons_succ]
  refine any_take 45 64 (.pointer (some ⟨b, o + 11, none⟩)) rfl rfl (by kernel_rfl) (by kernel_rfl) (by kernel_rfl) (fun _ _ _ h => h) (Or.inl ⟨by rfl, by intro w; go_simp⟩) ?_
  try simp only [Act.put, List.setIfInBounds_toArray, List.set_cons_zero, List.set_cons_succ]
  refine any_take 46 65 (.pointer (some ⟨b, o + 11, none⟩)) rfl rfl (by kernel_rfl) (by kernel_rfl) (by kernel_rfl) (fun _ _ _ h => h) (Or.inl ⟨by rfl, by intro w; go_simp⟩) ?_
  try simp only [Act.put, List.setIfInBounds_toArray, List.set_cons_zero, List.set_cons_succ]
  refine any_take 48 67 (.pointer (some ⟨b, o + 11, none⟩)) rfl rfl (by kernel_rfl) (by kernel_rfl) (by kernel_rfl) (fun _ _ _ h => h) (Or.inl ⟨by rfl, by intro w; go_simp⟩) ?_
  try simp only [Act.put, List.setIfInBounds_toArray, List.set_cons_zero, List.set_cons_succ]
  refine any_take 49 68 (.pointer (some ⟨b, o + 11, none⟩)) rfl rfl (by kernel_rfl) (by kernel_rfl) (by kernel_rfl) (fun _ _ _ h => h) (Or.inl ⟨by rfl, by intro w; go_simp⟩) ?_
  try simp only [Act.put, List.setIfInBounds_toArray, List.set_cons_zero, List.set_cons_succ]
  refine any_take 50 69 (.pointer (some ⟨b, o + 12, none⟩)) rfl rfl (by kernel_rfl) (by kernel_rfl) (by kernel_rfl) (fun _ _ _ h => h) (Or.inl ⟨by rfl, by intro w; go_simp⟩) ?_
  try simp only [Act.put, List.setIfInBounds_toArray, List.set_cons_zero, List.set_cons_succ]
  refine any_take 52 71 (.pointer (some ⟨b, o + 11, none⟩)) rfl rfl (by kernel_rfl) (by kernel_rfl) (by kernel_rfl) (fun _ _ _ h => h) (Or.inl ⟨by rfl, by intro w; go_simp⟩) ?_
  try simp only [Act.put, List.setIfInBounds_toArray, List.set_cons_zero, List.set_cons_succ]
  refine any_take 53 72 (.pointer (some ⟨b, o + 11, none⟩)) rfl rfl (by kernel_rfl) (by kernel_rfl) (by kernel_rfl) (fun _ _ _ h => h) (Or.inl ⟨by rfl, by intro w; go_simp⟩) ?_
  try simp only [Act.put, List.setIfInBounds_toArray, List.set_cons_zero, List.set_cons_succ]
  refine any_take 54 73 (.pointer (some ⟨b, o + 13, none⟩)) rfl rfl (by kernel_rfl) (by kernel_rfl) (by kernel_rfl) (fun _ _ _ h => h) (Or.inl ⟨by rfl, by intro w; go_simp⟩) ?_
  try simp only [Act.put, List.setIfInBounds_toArray, List.set_cons_zero, List.set_cons_succ]
  refine any_take 56 75 (.pointer (some ⟨b, o + 11, none⟩)) rfl rfl (by kernel_rfl) (by kernel_rfl) (by kernel_rfl) (fun _ _ _ h => h) (Or.inl ⟨by rfl, by intro w; go_simp⟩) ?_
  try simp only [Act.put, List.setIfInBounds_toArray, List.set_cons_zero, List.set_cons_succ]
  refine any_take 57 76 (.pointer (some ⟨b, o + 11, none⟩)) rfl rfl (by kernel_rfl) (by kernel_rfl) (by kernel_rfl) (fun _ _ _ h => h) (Or.inl ⟨by rfl, by intro w; go_simp⟩) ?_
  try simp only [Act.put, List.setIfInBounds_toArray, List.set_cons_zero, List.set_cons_succ]
  refine any_take 58 77 (.pointer (some ⟨b, o + 14, none⟩)) rfl rfl (by kernel_rfl) (by kernel_rfl) (by kernel_rfl) (fun _ _ _ h => h) (Or.inl ⟨by rfl, by intro w; go_simp⟩) ?_
  try simp only [Act.put, List.setIfInBounds_toArray, List.set_cons_zero, List.set_cons_succ]
  refine any_take 60 79 (.pointer (some ⟨b, o + 15, none⟩)) rfl rfl (by kernel_rfl) (by kernel_rfl) (by kernel_rfl) (fun _ _ _ h => h) (Or.inl ⟨by rfl, by intro w; go_simp⟩) ?_
  try simp only [Act.put, List.setIfInBounds_toArray, List.set_cons_zero, List.set_cons_succ]
  refine any_take 61 80 (.pointer (some ⟨b, o + 15, none⟩)) rfl rfl (by kernel_rfl) (by kernel_rfl) (by kernel_rfl) (fun _ _ _ h => h) (Or.inl ⟨by rfl, by intro w; go_simp⟩) ?_
  try simp only [Act.put, List.setIfInBounds_toArray, List.set_cons_zero, List.set_cons_succ]
  refine any_take 62 81 (.pointer (some ⟨b, o + 15, none⟩)) rfl rfl (by kernel_rfl) (by kernel_rfl) (by kernel_rfl) (fun _ _ _ h => h) (Or.inl ⟨by rfl, by intro w; go_simp⟩) ?_
  try simp only [Act.put, List.setIfInBounds_toArray, List.set_cons_zero, List.set_cons_succ]
  refine any_take 64 83 (.pointer (some ⟨b, o + 15, none⟩)) rfl rfl (by kernel_rfl) (by kernel_rfl) (by kernel_rfl) (fun _ _ _ h => h) (Or.inl ⟨by rfl, by intro w; go_simp⟩) ?_
  try simp only [Act.put, List.setIfInBounds_toArray, List.set_cons_zero, List.set_cons_succ]
  refine any_take 65 84 (.pointer (some ⟨b, o + 15, none⟩)) rfl rfl (by kernel_rfl) (by kernel_rfl) (by kernel_rfl) (fun _ _ _ h => h) (Or.inl ⟨by rfl, by intro w; go_simp⟩) ?_
  try simp only [Act.put, List.setIfInBounds_toArray, List.set_cons_zero, List.set_cons_succ]
  refine any_take 66 85 (.pointer (some ⟨b, o + 16, none⟩)) rfl rfl (by kernel_rfl) (by kernel_rfl) (by kernel_rfl) (fun _ _ _ h => h) (Or.inl ⟨by rfl, by intro w; go_simp⟩) ?_
  try simp only [Act.put, List.setIfInBounds_toArray, List.set_cons_zero, List.set_cons_succ]
  refine any_take 68 87 (.pointer (some ⟨b, o + 15, none⟩)) rfl rfl (by kernel_rfl) (by kernel_rfl) (by kernel_rfl) (fun _ _ _ h => h) (Or.inl ⟨by rfl, by intro w; go_simp⟩) ?_
  try simp only [Act.put, List.setIfInBounds_toArray, List.set_cons_zero, List.set_cons_succ]
  refine any_take 69 88 (.pointer (some ⟨b, o + 15, none⟩)) rfl rfl (by kernel_rfl) (by kernel_rfl) (by kernel_rfl) (fun _ _ _ h => h) (Or.inl ⟨by rfl, by intro w; go_simp⟩) ?_
  try simp only [Act.put, List.setIfInBounds_toArray, List.set_cons_zero, List.set_cons_succ]
  refine any_take 70 89 (.pointer (some ⟨b, o + 17, none⟩)) rfl rfl (by kernel_rfl) (by kernel_rfl) (by kernel_rfl) (fun _ _ _ h => h) (Or.inl ⟨by rfl, by intro w; go_simp⟩) ?_
  try simp only [Act.put, List.setIfInBounds_toArray, List.set_cons_zero, List.set_cons_succ]
  refine any_take 72 91 (.pointer (some ⟨b, o + 15, none⟩)) rfl rfl (by kernel_rfl) (by kernel_rfl) (by kernel_rfl) (fun _ _ _ h => h) (Or.inl ⟨by rfl, by intro w; go_simp⟩) ?_
  try simp only [Act.put, List.setIfInBounds_toArray, List.set_cons_zero, List.set_cons_succ]
  refine any_take 73 92 (.pointer (some ⟨b, o + 15, none⟩)) rfl rfl (by kernel_rfl) (by kernel_rfl) (by kernel_rfl) (fun _ _ _ h => h) (Or.inl ⟨by rfl, by intro w; go_simp⟩) ?_
  try simp only [Act.put, List.setIfInBounds_toArray, List.set_cons_zero, List.set_cons_succ]
  refine any_take 74 93 (.pointer (some ⟨b, o + 18, none⟩)) rfl rfl (by kernel_rfl) (by kernel_rfl) (by kernel_rfl) (fun _ _ _ h => h) (Or.inl ⟨by rfl, by intro w; go_simp⟩) ?_
  try simp only [Act.put, List.setIfInBounds_toArray, List.set_cons_zero, List.set_cons_succ]
  refine wpAny_ready (rs := [3]) (by kernel_rfl) (by simp) ?_
  refine AllReady.cons rfl (fun K hK => ?_) AllReady.nil
  go_simp
  go_wp2_with (go_at_call 74; refine (text_any _ _).mono ?_; rintro e w1 ⟨rfl, hb1⟩; have g1 := (hb1.block w.heap.size s0).trans g0; have s1 := Nat.lt_of_lt_of_le s0 hb1.size; have B1 := B0.trans (hb1.mono (Nat.le_of_lt s0)); clear hb1 g0 s0 B0)
  refine wpAny_ready (rs := [7]) (by kernel_rfl) (by simp) ?_
  refine AllReady.cons rfl (fun K hK => ?_) AllReady.nil
  go_simp
  go_wp2_with (go_at_call 73; refine (number_any _ _).mono ?_; rintro e w2 ⟨rfl, hb2⟩; have g2 := (hb2.block w.heap.size s1).trans g1; have s2 := Nat.lt_of_lt_of_le s1 hb2.size; have B2 := B1.trans (hb2.mono (Nat.le_of_lt s1)); clear hb2 g1 s1 B1)
  refine wpAny_ready (rs := [11]) (by kernel_rfl) (by simp) ?_
  refine AllReady.cons rfl (fun K hK => ?_) AllReady.nil
  go_simp
  go_wp2_with (go_at_call 72; refine (small_any _ _).mono ?_; rintro e w3 ⟨rfl, hb3⟩; have g3 := (hb3.block w.heap.size s2).trans g2; have s3 := Nat.lt_of_lt_of_le s2 hb3.size; have B3 := B2.trans (hb3.mono (Nat.le_of_lt s2)); clear hb3 g2 s2 B2)
  refine wpAny_ready (rs := [15]) (by kernel_rfl) (by simp) ?_
  refine AllReady.cons rfl (fun K hK => ?_) AllReady.nil
  go_simp
  go_wp2_with (go_at_call 75; refine (truth_any _ _).mono ?_; rintro e w4 ⟨rfl, hb4⟩; have g4 := (hb4.block w.heap.size s3).trans g3; have s4 := Nat.lt_of_lt_of_le s3 hb4.size; have B4 := B3.trans (hb4.mono (Nat.le_of_lt s3)); clear hb4 g3 s3 B3)
  refine wpAny_ready (rs := [19]) (by kernel_rfl) (by simp) ?_
  refine AllReady.cons rfl (fun K hK => ?_) AllReady.nil
  go_simp
  go_wp2_with (go_at_call 72; refine (small_any _ _).mono ?_; rintro e w5 ⟨rfl, hb5⟩; have g5 := (hb5.block w.heap.size s4).trans g4; have s5 := Nat.lt_of_lt_of_le s4 hb5.size; have B5 := B4.trans (hb5.mono (Nat.le_of_lt s4)); clear hb5 g4 s4 B4)
  refine wpAny_ready (rs := [23]) (by kernel_rfl) (by simp) ?_
  refine AllReady.cons rfl (fun K hK => ?_) AllReady.nil
  go_simp
  go_wp2_with (go_at_call 73; refine (number_any _ _).mono ?_; rintro e w6 ⟨rfl, hb6⟩; have g6 := (hb6.block w.heap.size s5).trans g5; have s6 := Nat.lt_of_lt_of_le s5 hb6.size; have B6 := B5.trans (hb6.mono (Nat.le_of_lt s5)); clear hb6 g5 s5 B5)
  refine wpAny_ready (rs := [27]) (by kernel_rfl) (by simp) ?_
  refine AllReady.cons rfl (fun K hK => ?_) AllReady.nil
  go_simp
  go_wp2_with (go_at_call 73; refine (number_any _ _).mono ?_; rintro e w7 ⟨rfl, hb7⟩; have g7 := (hb7.block w.heap.size s6).trans g6; have s7 := Nat.lt_of_lt_of_le s6 hb7.size; have B7 := B6.trans (hb7.mono (Nat.le_of_lt s6)); clear hb7 g6 s6 B6)
  refine wpAny_ready (rs := [31]) (by kernel_rfl) (by simp) ?_
  refine AllReady.cons rfl (fun K hK => ?_) AllReady.nil
  go_simp
  go_wp2_with (go_at_call 72; refine (small_any _ _).mono ?_; rintro e w8 ⟨rfl, hb8⟩; have g8 := (hb8.block w.heap.size s7).trans g7; have s8 := Nat.lt_of_lt_of_le s7 hb8.size; have B8 := B7.trans (hb8.mono (Nat.le_of_lt s7)); clear hb8 g7 s7 B7)
  refine wpAny_ready (rs := [35]) (by kernel_rfl) (by simp) ?_
  refine AllReady.cons rfl (fun K hK => ?_) AllReady.nil
  go_simp
  go_wp2_with (go_at_call 76; refine (signed_any _ _).mono ?_; rintro e w9 ⟨rfl, hb9⟩; have g9 := (hb9.block w.heap.size s8).trans g8; have s9 := Nat.lt_of_lt_of_le s8 hb9.size; have B9 := B8.trans (hb9.mono (Nat.le_of_lt s8)); clear hb9 g8 s8 B8)
  refine wpAny_ready (rs := [39]) (by kernel_rfl) (by simp) ?_
  refine AllReady.cons rfl (fun K hK => ?_) AllReady.nil
  go_simp
  go_wp2_with (go_at_call 75; refine (truth_any _ _).mono ?_; rintro e w10 ⟨rfl, hb10⟩; have g10 := (hb10.block w.heap.size s9).trans g9; have s10 := Nat.lt_of_lt_of_le s9 hb10.size; have B10 := B9.trans (hb10.mono (Nat.le_of_lt s9)); clear hb10 g9 s9 B9)
  refine wpAny_ready (rs := [43]) (by kernel_rfl) (by simp) ?_
  refine AllReady.cons rfl (fun K hK => ?_) AllReady.nil
  go_simp
  go_wp2_with (go_at_call 76; refine (signed_any _ _).mono ?_; rintro e w11 ⟨rfl, hb11⟩; have g11 := (hb11.block w.heap.size s10).trans g10; have s11 := Nat.lt_of_lt_of_le s10 hb11.size; have B11 := B10.trans (hb11.mono (Nat.le_of_lt s10)); clear hb11 g10 s10 B10)
  refine wpAny_ready (rs := [47]) (by kernel_rfl) (by simp) ?_
  refine AllReady.cons rfl (fun K hK => ?_) AllReady.nil
  go_simp
  go_wp2_with (go_at_call 75; refine (truth_any _ _).mono ?_; rintro e w12 ⟨rfl, hb12⟩; have g12 := (hb12.block w.heap.size s11).trans g11; have s12 := Nat.lt_of_lt_of_le s11 hb12.size; have B12 := B11.trans (hb12.mono (Nat.le_of_lt s11)); clear hb12 g11 s11 B11)
  refine wpAny_ready (rs := [51]) (by kernel_rfl) (by simp) ?_
  refine AllReady.cons rfl (fun K hK => ?_) AllReady.nil
  go_simp
  go_wp2_with (go_at_call 76; refine (signed_any _ _).mono ?_; rintro e w13 ⟨rfl, hb13⟩; have g13 := (hb13.block w.heap.size s12).trans g12; have s13 := Nat.lt_of_lt_of_le s12 hb13.size; have B13 := B12.trans (hb13.mono (Nat.le_of_lt s12)); clear hb13 g12 s12 B12)
  refine wpAny_ready (rs := [55]) (by kernel_rfl) (by simp) ?_
  refine AllReady.cons rfl (fun K hK => ?_) AllReady.nil
  go_simp
  go_wp2_with (go_at_call 72; refine (small_any _ _).mono ?_; rintro e w14 ⟨rfl, hb14⟩; have g14 := (hb14.block w.heap.size s13).trans g13; have s14 := Nat.lt_of_lt_of_le s13 hb14.size; have B14 := B13.trans (hb14.mono (Nat.le_of_lt s13)); clear hb14 g13 s13 B13)
  refine wpAny_ready (rs := [59]) (by kernel_rfl) (by simp) ?_
  refine AllReady.cons rfl (fun K hK => ?_) AllReady.nil
  go_simp
  go_wp2_with (go_at_call 73; refine (number_any _ _).mono ?_; rintro e w15 ⟨rfl, hb15⟩; have g15 := (hb15.block w.heap.size s14).trans g14; have s15 := Nat.lt_of_lt_of_le s14 hb15.size; have B15 := B14.trans (hb15.mono (Nat.le_of_lt s14)); clear hb15 g14 s14 B14)
  refine wpAny_ready (rs := [63]) (by kernel_rfl) (by simp) ?_
  refine AllReady.cons rfl (fun K hK => ?_) AllReady.nil
  go_simp
  go_wp2_with (go_at_call 75; refine (truth_any _ _).mono ?_; rintro e w16 ⟨rfl, hb16⟩; have g16 := (hb16.block w.heap.size s15).trans g15; have s16 := Nat.lt_of_lt_of_le s15 hb16.size; have B16 := B15.trans (hb16.mono (Nat.le_of_lt s15)); clear hb16 g15 s15 B15)
  refine wpAny_ready (rs := [67]) (by kernel_rfl) (by simp) ?_
  refine AllReady.cons rfl (fun K hK => ?_) AllReady.nil
  go_simp
  go_wp2_with (go_at_call 76; refine (signed_any _ _).mono ?_; rintro e w17 ⟨rfl, hb17⟩; have g17 := (hb17.block w.heap.size s16).trans g16; have s17 := Nat.lt_of_lt_of_le s16 hb17.size; have B17 := B16.trans (hb17.mono (Nat.le_of_lt s16)); clear hb17 g16 s16 B16)
  refine wpAny_ready (rs := [71]) (by kernel_rfl) (by simp) ?_
  refine AllReady.cons rfl (fun K hK => ?_) AllReady.nil
  go_simp
  go_wp2_with (go_at_call 72; refine (small_any _ _).mono ?_; rintro e w18 ⟨rfl, hb18⟩; have g18 := (hb18.block w.heap.size s17).trans g17; have s18 := Nat.lt_of_lt_of_le s17 hb18.size; have B18 := B17.trans (hb18.mono (Nat.le_of_lt s17)); clear hb18 g17 s17 B17)
  refine wpAny_ready (rs := [75]) (by kernel_rfl) (by simp) ?_
  refine AllReady.cons rfl (fun K hK => ?_) AllReady.nil
  go_simp
  go_wp2_with (go_at_call 73; refine (number_any _ _).mono ?_; rintro e w19 ⟨rfl, hb19⟩; have g19 := (hb19.block w.heap.size s18).trans g18; have s19 := Nat.lt_of_lt_of_le s18 hb19.size; have B19 := B18.trans (hb19.mono (Nat.le_of_lt s18)); clear hb19 g18 s18 B18)
  refine any_take 76 95 (.agg #[.int .i64 3, .pointer none, .pointer none, .pointer (some ⟨b, o, none⟩), .pointer none, .int .i64 1, .pointer none, .pointer (some ⟨b, o + 1, none⟩), .pointer none, .pointer none, .int .i64 1, .pointer (some ⟨b, o + 2, none⟩), .pointer none, .pointer none, .pointer none, .int .i64 4, .pointer none, .pointer none, .pointer none, .pointer (some ⟨b, o + 3, none⟩), .int .i64 1, .pointer (some ⟨b, o + 4, none⟩), .pointer none, .pointer none, .pointer none, .int .i64 1, .pointer none, .pointer (some ⟨b, o + 5, none⟩), .pointer none, .pointer none, .int .i64 1, .pointer none, .pointer (some ⟨b, o + 6, none⟩), .pointer none, .pointer none, .int .i64 1, .pointer (some ⟨b, o + 7, none⟩), .pointer none, .pointer none, .pointer none, .int .i64 2, .pointer none, .pointer (some ⟨b, o + 8, none⟩), .pointer none, .pointer none, .int .i64 4, .pointer none, .pointer none, .pointer none, .pointer (some ⟨b, o + 9, none⟩), .int .i64 2, .pointer none, .pointer (some ⟨b, o + 10, none⟩), .pointer none, .pointer none, .int .i64 4, .pointer none, .pointer none, .pointer none, .pointer (some ⟨b, o + 11, none⟩), .int .i64 2, .pointer none, .pointer (some ⟨b, o + 12, none⟩), .pointer none, .pointer none, .int .i64 1, .pointer (some ⟨b, o + 13, none⟩), .pointer none, .pointer none, .pointer none, .int .i64 1, .pointer none, .pointer (some ⟨b, o + 14, none⟩), .pointer none, .pointer none, .int .i64 4, .pointer none, .pointer none, .pointer none, .pointer (some ⟨b, o + 15, none⟩), .int .i64 2, .pointer none, .pointer (some ⟨b, o + 16, none⟩), .pointer none, .pointer none, .int .i64 1, .pointer (some ⟨b, o + 17, none⟩), .pointer none, .pointer none, .pointer none, .int .i64 1, .pointer none, .pointer (some ⟨b, o + 18, none⟩), .pointer none, .pointer none]) rfl rfl (by kernel_rfl) (by kernel_rfl) (by kernel_rfl) (fun _ _ _ h => h) (Or.inl ⟨by rfl, by intro w; go_simp; kernel_rfl⟩) ?_
  try simp only [Act.put, List.setIfInBounds_toArray, List.set_cons_zero, List.set_cons_succ]
  refine wpAny_ready (rs := [77]) (by kernel_rfl) (by simp) ?_
  refine AllReady.cons rfl (fun K hK => ?_) AllReady.nil
  refine wp_store_row 97 _ _ rfl w.heap.size #[.int .i64 3, .pointer none, .pointer none, .pointer (some ⟨b, o, none⟩), .pointer none, .int .i64 1, .pointer none, .pointer (some ⟨b, o + 1, none⟩), .pointer none, .pointer none, .int .i64 1, .pointer (some ⟨b, o + 2, none⟩), .pointer none, .pointer none, .pointer none, .int .i64 4, .pointer none, .pointer none, .pointer none, .pointer (some ⟨b, o + 3, none⟩), .int .i64 1, .pointer (some ⟨b, o + 4, none⟩), .pointer none, .pointer none, .pointer none, .int .i64 1, .pointer none, .pointer (some ⟨b, o + 5, none⟩), .pointer none, .pointer none, .int .i64 1, .pointer none, .pointer (some ⟨b, o + 6, none⟩), .pointer none, .pointer none, .int .i64 1, .pointer (some ⟨b, o + 7, none⟩), .pointer none, .pointer none, .pointer none, .int .i64 2, .pointer none, .pointer (some ⟨b, o + 8, none⟩), .pointer none, .pointer none, .int .i64 4, .pointer none, .pointer none, .pointer none, .pointer (some ⟨b, o + 9, none⟩), .int .i64 2, .pointer none, .pointer (some ⟨b, o + 10, none⟩), .pointer none, .pointer none, .int .i64 4, .pointer none, .pointer none, .pointer none, .pointer (some ⟨b, o + 11, none⟩), .int .i64 2, .pointer none, .pointer (some ⟨b, o + 12, none⟩), .pointer none, .pointer none, .int .i64 1, .pointer (some ⟨b, o + 13, none⟩), .pointer none, .pointer none, .pointer none, .int .i64 1, .pointer none, .pointer (some ⟨b, o + 14, none⟩), .pointer none, .pointer none, .int .i64 4, .pointer none, .pointer none, .pointer none, .pointer (some ⟨b, o + 15, none⟩), .int .i64 2, .pointer none, .pointer (some ⟨b, o + 16, none⟩), .pointer none, .pointer none, .int .i64 1, .pointer (some ⟨b, o + 17, none⟩), .pointer none, .pointer none, .pointer none, .int .i64 1, .pointer none, .pointer (some ⟨b, o + 18, none⟩), .pointer none, .pointer none] rfl rfl 97 Z g19 (by kernel_rfl) hZs (by simp [Value.oneCell']) ?_
  refine hK _ _ ?_
  refine wpAny_done (by kernel_rfl) ?_ _
  go_wp2
  refine bodyPost_ret (results_cell_row rfl _ _ w.heap.size 97 #[.int .i64 3, .pointer none, .pointer none, .pointer (some ⟨b, o, none⟩), .pointer none, .int .i64 1, .pointer none, .pointer (some ⟨b, o + 1, none⟩), .pointer none, .pointer none, .int .i64 1, .pointer (some ⟨b, o + 2, none⟩), .pointer none, .pointer none, .pointer none, .int .i64 4, .pointer none, .pointer none, .pointer none, .pointer (some ⟨b, o + 3, none⟩), .int .i64 1, .pointer (some ⟨b, o + 4, none⟩), .pointer none, .pointer none, .pointer none, .int .i64 1, .pointer none, .pointer (some ⟨b, o + 5, none⟩), .pointer none, .pointer none, .int .i64 1, .pointer none, .pointer (some ⟨b, o + 6, none⟩), .pointer none, .pointer none, .int .i64 1, .pointer (some ⟨b, o + 7, none⟩), .pointer none, .pointer none, .pointer none, .int .i64 2, .pointer none, .pointer (some ⟨b, o + 8, none⟩), .pointer none, .pointer none, .int .i64 4, .pointer none, .pointer none, .pointer none, .pointer (some ⟨b, o + 9, none⟩), .int .i64 2, .pointer none, .pointer (some ⟨b, o + 10, none⟩), .pointer none, .pointer none, .int .i64 4, .pointer none, .pointer none, .pointer none, .pointer (some ⟨b, o + 11, none⟩), .int .i64 2, .pointer none, .pointer (some ⟨b, o + 12, none⟩), .pointer none, .pointer none, .int .i64 1, .pointer (some ⟨b, o + 13, none⟩), .pointer none, .pointer none, .pointer none, .int .i64 1, .pointer none, .pointer (some ⟨b, o + 14, none⟩), .pointer none, .pointer none, .int .i64 4, .pointer none, .pointer none, .pointer none, .pointer (some ⟨b, o + 15, none⟩), .int .i64 2, .pointer none, .pointer (some ⟨b, o + 16, none⟩), .pointer none, .pointer none, .int .i64 1, .pointer (some ⟨b, o + 17, none⟩), .pointer none, .pointer none, .pointer none, .int .i64 1, .pointer none, .pointer (some ⟨b, o + 18, none⟩), .pointer none, .pointer none] (0, 0) _ rfl (setRow_at s19 g19 _) Tryd.underlying97 rfl (by kernel_rfl)) rfl ⟨rfl, ?_⟩
  exact setRow_below B19 g19 _

end Go.Proofs.YticmjlnpjopfbaaDoor
