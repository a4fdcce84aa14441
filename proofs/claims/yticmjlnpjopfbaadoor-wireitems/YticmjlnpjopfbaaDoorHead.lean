/-
  Where a packet's own fields lie (head).
-/
import Derived.Test.YticmjlnpjopfbaaDoorSlot
import Derived.Test.YticmjlnpjopfbaaDoorSHeld
import Derived.Laws.Tables
namespace Go.Proofs.YticmjlnpjopfbaaDoor
open Go.ChangeShapes Go.WideShapes Go.ChangeAt Go.RowKit S
set_option linter.unusedVariables false

theorem setRow_at {w : World} {g : Nat} {Z : Array Value} {t : TypeId} (s : g < w.heap.size) (h : w.heap[g]? = some (.cells Z t (0, 0))) (c : Array Value) : (w.setRow g c).heap[g]? = some (.cells c t (0, 0)) := setRow_heap w g Z c t (0, 0) h
theorem setRow_below {w w0 : World} {Z : Array Value} {t : TypeId} (B : Below w0.heap.size w0 w) (h : w.heap[w0.heap.size]? = some (.cells Z t (0, 0))) (c : Array Value) : Below w0.heap.size w0 (w.setRow w0.heap.size c) :=
  ⟨B.os, B.tape, B.output, by rw [size_setRow]; exact B.size, fun b hb => (setRow_other w w0.heap.size b c (by omega)).trans (B.block b hb)⟩

set_option maxRecDepth 100000 in
set_option maxHeartbeats 4000000 in
theorem head_any (pb cb : Nat) (w : World) : Calls Tryd.prog 54 #[.pointer (some ⟨pb, 0, none⟩), .pointer (some ⟨cb, 0, none⟩)] w fun e w' => e = .returned (.agg #[.int .i64 1, .pointer (some ⟨pb, 0, none⟩), .pointer none, .pointer none, .pointer none, .int .i64 1, .pointer (some ⟨pb, 1, none⟩), .pointer none, .pointer none, .pointer none, .int .i64 1, .pointer (some ⟨pb, 2, none⟩), .pointer none, .pointer none, .pointer none, .int .i64 1, .pointer none, .pointer (some ⟨pb, 3, none⟩), .pointer none, .pointer none, .int .i64 1, .pointer none, .pointer (some ⟨pb, 4, none⟩), .pointer none, .pointer none, .int .i64 1, .pointer none, .pointer (some ⟨pb, 5, none⟩), .pointer none, .pointer none, .int .i64 1, .pointer none, .pointer (some ⟨pb, 6, none⟩), .pointer none, .pointer none, .int .i64 1, .pointer (some ⟨cb, 0, none⟩), .pointer none, .pointer none, .pointer none]) ∧ Below w.heap.size w w' := by
  obtain ⟨Z, hZ⟩ : ∃ Z : Array Value, #[.int .i64 0, .pointer none, .pointer none, .pointer none, .pointer none, .int .i64 0, .pointer none, .pointer none, .pointer none, .pointer none, .int .i64 0, .pointer none, .pointer none, .pointer none, .pointer none, .int .i64 0, .pointer none, .pointer none, .pointer none, .pointer none, .int .i64 0, .pointer none, .pointer none, .pointer none, .pointer none, .int .i64 0, .pointer none, .pointer none, .pointer none, .pointer none, .int .i64 0, .pointer none, .pointer none, .pointer none, .pointer none, .int .i64 0, .pointer none, .pointer none, .pointer none, .pointer none] = Z := ⟨_, rfl⟩
  have hZs : Z.size = 40 := by rw [← hZ]; rfl
  go_enter Tryd.func54, Tryd.ntmps54
  go_wp2
  try rw [hZ]
  clear hZ
  obtain ⟨W0, hW0⟩ : ∃ W0, w.alloc (.cells Z 95) = W0 := ⟨_, rfl⟩
  have g0 : W0.drew.heap[w.heap.size]? = some (.cells Z 95 (0, 0)) := by rw [← hW0]; exact World.alloc_heap_new w _
  have s0 : w.heap.size < W0.drew.heap.size := by rw [← hW0]; simp
  have B0 : Below w.heap.size w W0.drew := by rw [← hW0]; exact ((Below.refl _ _).alloc (Nat.le_refl _) _).drew
  rw [hW0]
  clear hW0
  refine wp_region_any (by kernel_rfl) ?_
  change wpAny _ _ _ _ _ _ _ (World.drew _)
  refine any_take 0 5 (.pointer (some ⟨pb, 0, none⟩)) rfl rfl (by kernel_rfl) (by kernel_rfl) (by kernel_rfl) (fun _ _ _ h => h) (Or.inl ⟨by rfl, by intro w; go_simp⟩) ?_
  try simp only [Act.put, List.setIfInBounds_toArray, List.set_cons_zero, List.set_cons_succ]
  refine any_take 1 6 (.pointer (some ⟨pb, 0, none⟩)) rfl rfl (by kernel_rfl) (by kernel_rfl) (by kernel_rfl) (fun _ _ _ h => h) (Or.inl ⟨by rfl, by intro w; go_simp⟩) ?_
  try simp only [Act.put, List.setIfInBounds_toArray, List.set_cons_zero, List.set_cons_succ]
  refine any_take 2 7 (.pointer (some ⟨pb, 0, none⟩)) rfl rfl (by kernel_rfl) (by kernel_rfl) (by kernel_rfl) (fun _ _ _ h => h) (Or.inl ⟨by rfl, by intro w; go_simp⟩) ?_
  try simp only [Act.put, List.setIfInBounds_toArray, List.set_cons_zero, List.set_cons_succ]
  refine any_take 4 9 (.pointer (some ⟨pb, 0, none⟩)) rfl rfl (by kernel_rfl) (by kernel_rfl) (by kernel_rfl) (fun _ _ _ h => h) (Or.inl ⟨by rfl, by intro w; go_simp⟩) ?_
  try simp only [Act.put, List.setIfInBounds_toArray, List.set_cons_zero, List.set_cons_succ]
  refine any_take 5 10 (.pointer (some ⟨pb, 0, none⟩)) rfl rfl (by kernel_rfl) (by kernel_rfl) (by kernel_rfl) (fun _ _ _ h => h) (Or.inl ⟨by rfl, by intro w; go_simp⟩) ?_
  try simp only [Act.put, List.setIfInBounds_toArray, List.set_cons_zero, List.set_cons_succ]
  refine any_take 6 11 (.pointer (some ⟨pb, 1, none⟩)) rfl rfl (by kernel_rfl) (by kernel_rfl) (by kernel_rfl) (fun _ _ _ h => h) (Or.inl ⟨by rfl, by intro w; go_simp⟩) ?_
  try simp only [Act.put, List.setIfInBounds_toArray, List.set_cons_zero, List.set_cons_succ]
  refine any_take 8 13 (.pointer (some ⟨pb, 0, none⟩)) rfl rfl (by kernel_rfl) (by kernel_rfl) (by kernel_rfl) (fun _ _ _ h => h) (Or.inl ⟨by rfl, by intro w; go_simp⟩) ?_
  try simp only [Act.put, List.setIfInBounds_toArray, List.set_cons_zero, List.set_cons_succ]
  refine any_take 9 14 (.pointer (some ⟨pb, 0, none⟩)) rfl rfl (by kernel_rfl) (by kernel_rfl) (by kernel_rfl) (fun _ _ _ h => h) (Or.inl ⟨by rfl, by intro w; go_simp⟩) ?_
  try simp only [Act.put, List.setIfInBounds_toArray, List.set_cons_zero, List.set_cons_succ]
  refine any_take 10 15 (.pointer (some ⟨pb, 2, none⟩)) rfl rfl (by kernel_rfl) (by kernel_rfl) (by kernel_rfl) (fun _ _ _ h => h) (Or.inl ⟨by rfl, by intro w; go_simp⟩) ?_
  try simp only [Act.put, List.setIfInBounds_toArray, List.set_cons_zero, List.set_cons_succ]
  refine any_take 12 17 (.pointer (some ⟨pb, 0, none⟩)) rfl rfl (by kernel_rfl) (by kernel_rfl) (by kernel_rfl) (fun _ _ _ h => h) (Or.inl ⟨by rfl, by intro w; go_simp⟩) ?_
  try simp only [Act.put, List.setIfInBounds_toArray, List.set_cons_zero, List.set_cons_succ]
  refine any_take 13 18 (.pointer (some ⟨pb, 0, none⟩)) rfl rfl (by kernel_rfl) (by kernel_rfl) (by kernel_rfl) (fun _ _ _ h => h) (Or.inl ⟨by rfl, by intro w; go_simp⟩) ?_
  try simp only [Act.put, List.setIfInBounds_toArray, List.set_cons_zero, List.set_cons_succ]
  refine any_take 14 19 (.pointer (some ⟨pb, 3, none⟩)) rfl rfl (by kernel_rfl) (by kernel_rfl) (by kernel_rfl) (fun _ _ _ h => h) (Or.inl ⟨by rfl, by intro w; go_simp⟩) ?_
  try simp only [Act.put, List.setIfInBounds_toArray, List.set_cons_zero, List.set_cons_succ]
  refine any_take 16 21 (.pointer (some ⟨pb, 0, none⟩)) rfl rfl (by kernel_rfl) (by kernel_rfl) (by kernel_rfl) (fun _ _ _ h => h) (Or.inl ⟨by rfl, by intro w; go_simp⟩) ?_
  try simp only [Act.put, List.setIfInBounds_toArray, List.set_cons_zero, List.set_cons_succ]
  refine any_take 17 22 (.pointer (some ⟨pb, 0, none⟩)) rfl rfl (by kernel_rfl) (by kernel_rfl) (by kernel_rfl) (fun _ _ _ h => h) (Or.inl ⟨by rfl, by intro w; go_simp⟩) ?_
  try simp only [Act.put, List.setIfInBounds_toArray, List.set_cons_zero, List.set_cons_succ]
  refine any_take 18 23 (.pointer (some ⟨pb, 4, none⟩)) rfl rfl (by kernel_rfl) (by kernel_rfl) (by kernel_rfl) (fun _ _ _ h => h) (Or.inl ⟨by rfl, by intro w; go_simp⟩) ?_
  try simp only [Act.put, List.setIfInBounds_toArray, List.set_cons_zero, List.set_cons_succ]
  refine any_take 20 25 (.pointer (some ⟨pb, 0, none⟩)) rfl rfl (by kernel_rfl) (by kernel_rfl) (by kernel_rfl) (fun _ _ _ h => h) (Or.inl ⟨by rfl, by intro w; go_simp⟩) ?_
  try simp only [Act.put, List.setIfInBounds_toArray, List.set_cons_zero, List.set_cons_succ]
  refine any_take 21 26 (.pointer (some ⟨pb, 0, none⟩)) rfl rfl (by kernel_rfl) (by kernel_rfl) (by kernel_rfl) (fun _ _ _ h => h) (Or.inl ⟨by rfl, by intro w; go_simp⟩) ?_
  try simp only [Act.put, List.setIfInBounds_toArray, List.set_cons_zero, List.set_cons_succ]
  refine any_take 22 27 (.pointer (some ⟨pb, 5, none⟩)) rfl rfl (by kernel_rfl) (by kernel_rfl) (by kernel_rfl) (fun _ _ _ h => h) (Or.inl ⟨by rfl, by intro w; go_simp⟩) ?_
  try simp only [Act.put, List.setIfInBounds_toArray, List.set_cons_zero, List.set_cons_succ]
  refine any_take 24 29 (.pointer (some ⟨pb, 0, none⟩)) rfl rfl (by kernel_rfl) (by kernel_rfl) (by kernel_rfl) (fun _ _ _ h => h) (Or.inl ⟨by rfl, by intro w; go_simp⟩) ?_
  try simp only [Act.put, List.setIfInBounds_toArray, List.set_cons_zero, List.set_cons_succ]
  refine any_take 25 30 (.pointer (some ⟨pb, 0, none⟩)) rfl rfl (by kernel_rfl) (by kernel_rfl) (by kernel_rfl) (fun _ _ _ h => h) (Or.inl ⟨by rfl, by intro w; go_simp⟩) ?_
  try simp only [Act.put, List.setIfInBounds_toArray, List.set_cons_zero, List.set_cons_succ]
  refine any_take 26 31 (.pointer (some ⟨pb, 6, none⟩)) rfl rfl (by kernel_rfl) (by kernel_rfl) (by kernel_rfl) (fun _ _ _ h => h) (Or.inl ⟨by rfl, by intro w; go_simp⟩) ?_
  try simp only [Act.put, List.setIfInBounds_toArray, List.set_cons_zero, List.set_cons_succ]
  refine any_take 28 33 (.pointer (some ⟨cb, 0, none⟩)) rfl rfl (by kernel_rfl) (by kernel_rfl) (by kernel_rfl) (fun _ _ _ h => h) (Or.inl ⟨by rfl, by intro w; go_simp⟩) ?_
  try simp only [Act.put, List.setIfInBounds_toArray, List.set_cons_zero, List.set_cons_succ]
  refine wpAny_ready (rs := [3]) (by kernel_rfl) (by simp) ?_
  refine AllReady.cons rfl (fun K hK => ?_) AllReady.nil
  go_simp
  go_wp2_with (go_at_call 72; refine (small_any _ _).mono ?_; rintro e w1 ⟨rfl, hb1⟩; have g1 := (hb1.block w.heap.size s0).trans g0; have s1 := Nat.lt_of_lt_of_le s0 hb1.size; have B1 := B0.trans (hb1.mono (Nat.le_of_lt s0)); clear hb1 g0 s0 B0)
  refine wpAny_ready (rs := [7]) (by kernel_rfl) (by simp) ?_
  refine AllReady.cons rfl (fun K hK => ?_) AllReady.nil
  go_simp
  go_wp2_with (go_at_call 72; refine (small_any _ _).mono ?_; rintro e w2 ⟨rfl, hb2⟩; have g2 := (hb2.block w.heap.size s1).trans g1; have s2 := Nat.lt_of_lt_of_le s1 hb2.size; have B2 := B1.trans (hb2.mono (Nat.le_of_lt s1)); clear hb2 g1 s1 B1)
  refine wpAny_ready (rs := [11]) (by kernel_rfl) (by simp) ?_
  refine AllReady.cons rfl (fun K hK => ?_) AllReady.nil
  go_simp
  go_wp2_with (go_at_call 72; refine (small_any _ _).mono ?_; rintro e w3 ⟨rfl, hb3⟩; have g3 := (hb3.block w.heap.size s2).trans g2; have s3 := Nat.lt_of_lt_of_le s2 hb3.size; have B3 := B2.trans (hb3.mono (Nat.le_of_lt s2)); clear hb3 g2 s2 B2)
  refine wpAny_ready (rs := [15]) (by kernel_rfl) (by simp) ?_
  refine AllReady.cons rfl (fun K hK => ?_) AllReady.nil
  go_simp
  go_wp2_with (go_at_call 73; refine (number_any _ _).mono ?_; rintro e w4 ⟨rfl, hb4⟩; have g4 := (hb4.block w.heap.size s3).trans g3; have s4 := Nat.lt_of_lt_of_le s3 hb4.size; have B4 := B3.trans (hb4.mono (Nat.le_of_lt s3)); clear hb4 g3 s3 B3)
  refine wpAny_ready (rs := [19]) (by kernel_rfl) (by simp) ?_
  refine AllReady.cons rfl (fun K hK => ?_) AllReady.nil
  go_simp
  go_wp2_with (go_at_call 73; refine (number_any _ _).mono ?_; rintro e w5 ⟨rfl, hb5⟩; have g5 := (hb5.block w.heap.size s4).trans g4; have s5 := Nat.lt_of_lt_of_le s4 hb5.size; have B5 := B4.trans (hb5.mono (Nat.le_of_lt s4)); clear hb5 g4 s4 B4)
  refine wpAny_ready (rs := [23]) (by kernel_rfl) (by simp) ?_
  refine AllReady.cons rfl (fun K hK => ?_) AllReady.nil
  go_simp
  go_wp2_with (go_at_call 73; refine (number_any _ _).mono ?_; rintro e w6 ⟨rfl, hb6⟩; have g6 := (hb6.block w.heap.size s5).trans g5; have s6 := Nat.lt_of_lt_of_le s5 hb6.size; have B6 := B5.trans (hb6.mono (Nat.le_of_lt s5)); clear hb6 g5 s5 B5)
  refine wpAny_ready (rs := [27]) (by kernel_rfl) (by simp) ?_
  refine AllReady.cons rfl (fun K hK => ?_) AllReady.nil
  go_simp
  go_wp2_with (go_at_call 73; refine (number_any _ _).mono ?_; rintro e w7 ⟨rfl, hb7⟩; have g7 := (hb7.block w.heap.size s6).trans g6; have s7 := Nat.lt_of_lt_of_le s6 hb7.size; have B7 := B6.trans (hb7.mono (Nat.le_of_lt s6)); clear hb7 g6 s6 B6)
  refine wpAny_ready (rs := [29]) (by kernel_rfl) (by simp) ?_
  refine AllReady.cons rfl (fun K hK => ?_) AllReady.nil
  go_simp
  go_wp2_with (go_at_call 72; refine (small_any _ _).mono ?_; rintro e w8 ⟨rfl, hb8⟩; have g8 := (hb8.block w.heap.size s7).trans g7; have s8 := Nat.lt_of_lt_of_le s7 hb8.size; have B8 := B7.trans (hb8.mono (Nat.le_of_lt s7)); clear hb8 g7 s7 B7)
  refine any_take 30 35 (.agg #[.int .i64 1, .pointer (some ⟨pb, 0, none⟩), .pointer none, .pointer none, .pointer none, .int .i64 1, .pointer (some ⟨pb, 1, none⟩), .pointer none, .pointer none, .pointer none, .int .i64 1, .pointer (some ⟨pb, 2, none⟩), .pointer none, .pointer none, .pointer none, .int .i64 1, .pointer none, .pointer (some ⟨pb, 3, none⟩), .pointer none, .pointer none, .int .i64 1, .pointer none, .pointer (some ⟨pb, 4, none⟩), .pointer none, .pointer none, .int .i64 1, .pointer none, .pointer (some ⟨pb, 5, none⟩), .pointer none, .pointer none, .int .i64 1, .pointer none, .pointer (some ⟨pb, 6, none⟩), .pointer none, .pointer none, .int .i64 1, .pointer (some ⟨cb, 0, none⟩), .pointer none, .pointer none, .pointer none]) rfl rfl (by kernel_rfl) (by kernel_rfl) (by kernel_rfl) (fun _ _ _ h => h) (Or.inl ⟨by rfl, by intro w; go_simp⟩) ?_
  try simp only [Act.put, List.setIfInBounds_toArray, List.set_cons_zero, List.set_cons_succ]
  refine wpAny_ready (rs := [31]) (by kernel_rfl) (by simp) ?_
  refine AllReady.cons rfl (fun K hK => ?_) AllReady.nil
  refine wp_store_row 95 _ _ rfl w.heap.size #[.int .i64 1, .pointer (some ⟨pb, 0, none⟩), .pointer none, .pointer none, .pointer none, .int .i64 1, .pointer (some ⟨pb, 1, none⟩), .pointer none, .pointer none, .pointer none, .int .i64 1, .pointer (some ⟨pb, 2, none⟩), .pointer none, .pointer none, .pointer none, .int .i64 1, .pointer none, .pointer (some ⟨pb, 3, none⟩), .pointer none, .pointer none, .int .i64 1, .pointer none, .pointer (some ⟨pb, 4, none⟩), .pointer none, .pointer none, .int .i64 1, .pointer none, .pointer (some ⟨pb, 5, none⟩), .pointer none, .pointer none, .int .i64 1, .pointer none, .pointer (some ⟨pb, 6, none⟩), .pointer none, .pointer none, .int .i64 1, .pointer (some ⟨cb, 0, none⟩), .pointer none, .pointer none, .pointer none] rfl rfl 95 Z g8 (by kernel_rfl) hZs (by simp [Value.oneCell']) ?_
  refine hK _ _ ?_
  refine wpAny_done (by kernel_rfl) ?_ _
  go_wp2
  refine bodyPost_ret (results_cell_row rfl _ _ w.heap.size 95 #[.int .i64 1, .pointer (some ⟨pb, 0, none⟩), .pointer none, .pointer none, .pointer none, .int .i64 1, .pointer (some ⟨pb, 1, none⟩), .pointer none, .pointer none, .pointer none, .int .i64 1, .pointer (some ⟨pb, 2, none⟩), .pointer none, .pointer none, .pointer none, .int .i64 1, .pointer none, .pointer (some ⟨pb, 3, none⟩), .pointer none, .pointer none, .int .i64 1, .pointer none, .pointer (some ⟨pb, 4, none⟩), .pointer none, .pointer none, .int .i64 1, .pointer none, .pointer (some ⟨pb, 5, none⟩), .pointer none, .pointer none, .int .i64 1, .pointer none, .pointer (some ⟨pb, 6, none⟩), .pointer none, .pointer none, .int .i64 1, .pointer (some ⟨cb, 0, none⟩), .pointer none, .pointer none, .pointer none] (0, 0) _ rfl (setRow_at s8 g8 _) Tryd.underlying95 rfl (by kernel_rfl)) rfl ⟨rfl, ?_⟩
  exact setRow_below B8 g8 _

end Go.Proofs.YticmjlnpjopfbaaDoor
