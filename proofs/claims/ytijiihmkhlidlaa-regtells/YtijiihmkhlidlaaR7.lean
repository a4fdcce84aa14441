/-
  What the law RegTells returns.
-/
import Derived.Test.YtijiihmkhlidlaaR5
import Derived.Test.YtijiihmkhlidlaaR6
namespace Go.Proofs.Ytijiihmkhlidlaa
open Go.ChangeShapes Go.WideShapes Go.ChangeAt Go.RowKit
set_option linter.unusedVariables false
set_option linter.unusedSimpArgs false
theorem bool_eq (b : Bool) : (b == b) = true := by simp
set_option maxRecDepth 100000 in
set_option maxHeartbeats 2000000 in
theorem tells_walk (v p f u q g a b : Int) (w : World) : Calls Try.prog 3 #[rg v p f, rg u q g, .int .i64 a, .int .i64 b] w fun e w' => e = .returned (.bool true) ∧ Below w.heap.size w w' := by
  obtain ⟨B1, hB1⟩ : ∃ B1, fitB v p f a b = B1 := ⟨_, rfl⟩
  obtain ⟨B2, hB2⟩ : ∃ B2, newB v p u q = B2 := ⟨_, rfl⟩
  obtain ⟨B3, hsm⟩ : ∃ B3, sameB v p f u q g = B3 := ⟨_, rfl⟩
  obtain ⟨Z1, hZ1⟩ : ∃ Z1, outZ v p f a b = Z1 := ⟨_, rfl⟩
  obtain ⟨m0, m1, m2, hm⟩ : ∃ m0 m1 m2, (if newB u q v p then rg u q g else rg v p f) = rg m0 m1 m2 := by cases newB u q v p <;> exact ⟨_, _, _, rfl⟩
  have K8 := fun w => fit_any v p f a b w
  have K9 := fun w => rfit_any v p f a b w
  have K10 := fun w => newer_any v p f u q g w
  have K11 := fun w => rnewer_any v p f u q g w
  have K12 := fun w => merge_any v p f u q g w
  have K13 := fun w => rmerge_any v p f u q g w
  have K14 : ∀ w, Calls Try.prog 14 #[rg v p f, rg u q g] w fun e w' => e = .returned (.bool (sameB v p f u q g)) ∧ Below w.heap.size w w' := fun w => agree_any v p f u q g w
  have K15 := fun w => out_any v p f a b w
  have K16 := fun w => rout_any v p f a b w
  have K17 := fun w => awake_any w
  simp only [hB1] at K8 K9
  simp only [hB2] at K10 K11
  simp only [hm] at K12 K13
  simp only [hsm] at K14
  simp only [hZ1] at K15 K16
  clear hB1 hB2 hZ1 hm
  go_enter Try.func3, Try.ntmps3
  go_wp2
  have T1 := (Tri.new w (.int .i64 v) (.int .i64 p) (.int .i64 f) 23).alloc (.cells #[.int .i64 u, .int .i64 q, .int .i64 g] 23)
  have T2 := Tri.new (w.alloc (.cells #[.int .i64 v, .int .i64 p, .int .i64 f] 23)) (.int .i64 u) (.int .i64 q) (.int .i64 g) 23
  have T2 := T2.at (k' := w.heap.size + 1) (by simp)
  have BW : Below w.heap.size w ((w.alloc (.cells #[.int .i64 v, .int .i64 p, .int .i64 f] 23)).alloc (.cells #[.int .i64 u, .int .i64 q, .int .i64 g] 23)) := by go_grown
  obtain ⟨W0, hW0⟩ : ∃ X, (w.alloc (.cells #[.int .i64 v, .int .i64 p, .int .i64 f] 23)).alloc (.cells #[.int .i64 u, .int .i64 q, .int .i64 g] 23) = X := ⟨_, rfl⟩
  rw [hW0] at T1 T2 BW ⊢
  clear hW0
  obtain ⟨FB, hFB⟩ : ∃ n, w.heap.size = n := ⟨_, rfl⟩
  obtain ⟨BB, hBB⟩ : ∃ n, w.heap.size + 1 = n := ⟨_, rfl⟩
  rw [hFB] at T1
  rw [hBB] at T2
  simp only [hBB]
  simp only [hFB]
  clear hFB hBB
  refine wp_region_any (by kernel_rfl) ?_
  change wpAny _ _ _ _ _ _ _ (World.drew _)
  refine wpAny_narrow (fun W' => Below W0.heap.size W0 W') _ _ _ _ ?_
  refine anyH_take 0 9 (rg v p f) rfl rfl (by kernel_rfl) (by kernel_rfl) (by kernel_rfl) (fun _ _ _ h => h) (Or.inl ⟨by rfl, by intro w hSw; have k0 := (hSw.cell (p := ⟨FB, 0, none⟩) T1.lt).trans T1.c0; have k1 := (hSw.cell (p := ⟨FB, 1, none⟩) T1.lt).trans T1.c1; have k2 := (hSw.cell (p := ⟨FB, 2, none⟩) T1.lt).trans T1.c2; go_simp⟩) ((Below.refl _ _).drew) ?_
  try simp only [Act.put, List.setIfInBounds_toArray, List.set_cons_zero, List.set_cons_succ]
  refine anyH_take 1 10 (.int .i64 a) rfl rfl (by kernel_rfl) (by kernel_rfl) (by kernel_rfl) (fun _ _ _ h => h) (Or.inl ⟨by rfl, by intro w hSw; go_simp⟩) ((Below.refl _ _).drew) ?_
  try simp only [Act.put, List.setIfInBounds_toArray, List.set_cons_zero, List.set_cons_succ]
  refine anyH_take 2 11 (.int .i64 b) rfl rfl (by kernel_rfl) (by kernel_rfl) (by kernel_rfl) (fun _ _ _ h => h) (Or.inl ⟨by rfl, by intro w hSw; go_simp⟩) ((Below.refl _ _).drew) ?_
  try simp only [Act.put, List.setIfInBounds_toArray, List.set_cons_zero, List.set_cons_succ]
  refine anyH_take 4 13 (rg v p f) rfl rfl (by kernel_rfl) (by kernel_rfl) (by kernel_rfl) (fun _ _ _ h => h) (Or.inl ⟨by rfl, by intro w hSw; have k0 := (hSw.cell (p := ⟨FB, 0, none⟩) T1.lt).trans T1.c0; have k1 := (hSw.cell (p := ⟨FB, 1, none⟩) T1.lt).trans T1.c1; have k2 := (hSw.cell (p := ⟨FB, 2, none⟩) T1.lt).trans T1.c2; go_simp⟩) ((Below.refl _ _).drew) ?_
  try simp only [Act.put, List.setIfInBounds_toArray, List.set_cons_zero, List.set_cons_succ]
  refine anyH_take 5 14 (.int .i64 a) rfl rfl (by kernel_rfl) (by kernel_rfl) (by kernel_rfl) (fun _ _ _ h => h) (Or.inl ⟨by rfl, by intro w hSw; go_simp⟩) ((Below.refl _ _).drew) ?_
  try simp only [Act.put, List.setIfInBounds_toArray, List.set_cons_zero, List.set_cons_succ]
  refine anyH_take 6 15 (.int .i64 b) rfl rfl (by kernel_rfl) (by kernel_rfl) (by kernel_rfl) (fun _ _ _ h => h) (Or.inl ⟨by rfl, by intro w hSw; go_simp⟩) ((Below.refl _ _).drew) ?_
  try simp only [Act.put, List.setIfInBounds_toArray, List.set_cons_zero, List.set_cons_succ]
  refine wpAnyH_ready (rs := [3]) (by kernel_rfl) (by simp) ?_
  refine AllReadyH.cons rfl (fun K hK => ?_) AllReadyH.nil
  go_simp
  go_wp2_with (go_at_call 8; refine (K8 _).mono ?_; rintro e w3 ⟨rfl, b3⟩)
  refine hK.out _ _ ((Below.refl _ _).drew.trans b3) (fun hS => ?_)
  clear hK
  refine wpAnyH_ready (rs := [7]) (by kernel_rfl) (by simp) ?_
  refine AllReadyH.cons rfl (fun K hK => ?_) AllReadyH.nil
  go_simp
  go_wp2_with (go_at_call 9; refine (K9 _).mono ?_; rintro e w7 ⟨rfl, b7⟩)
  refine hK.out _ _ (hS.trans (b7.mono hS.size)) (fun hS => ?_)
  clear hK
  clear b7
  refine anyH_take 8 17 (.bool true) rfl rfl (by kernel_rfl) (by kernel_rfl) (by kernel_rfl) (fun _ _ _ h => h) (Or.inl ⟨by rfl, by intro w hSw; go_simp⟩) (hS) ?_
  try simp only [Act.put, List.setIfInBounds_toArray, List.set_cons_zero, List.set_cons_succ]
  refine anyH_take 9 18 (.bool true) rfl rfl (by kernel_rfl) (by kernel_rfl) (by kernel_rfl) (fun _ _ _ h => h) (Or.inl ⟨by rfl, by intro w hSw; go_simp⟩) (hS) ?_
  try simp only [Act.put, List.setIfInBounds_toArray, List.set_cons_zero, List.set_cons_succ]
  refine anyH_take 10 19 (rg v p f) rfl rfl (by kernel_rfl) (by kernel_rfl) (by kernel_rfl) (fun _ _ _ h => h) (Or.inl ⟨by rfl, by intro w hSw; have k0 := (hSw.cell (p := ⟨FB, 0, none⟩) T1.lt).trans T1.c0; have k1 := (hSw.cell (p := ⟨FB, 1, none⟩) T1.lt).trans T1.c1; have k2 := (hSw.cell (p := ⟨FB, 2, none⟩) T1.lt).trans T1.c2; go_simp⟩) (hS) ?_
  try simp only [Act.put, List.setIfInBounds_toArray, List.set_cons_zero, List.set_cons_succ]
  refine anyH_take 11 20 (rg u q g) rfl rfl (by kernel_rfl) (by kernel_rfl) (by kernel_rfl) (fun _ _ _ h => h) (Or.inl ⟨by rfl, by intro w hSw; have k0 := (hSw.cell (p := ⟨BB, 0, none⟩) T2.lt).trans T2.c0; have k1 := (hSw.cell (p := ⟨BB, 1, none⟩) T2.lt).trans T2.c1; have k2 := (hSw.cell (p := ⟨BB, 2, none⟩) T2.lt).trans T2.c2; go_simp⟩) (hS) ?_
  try simp only [Act.put, List.setIfInBounds_toArray, List.set_cons_zero, List.set_cons_succ]
  refine anyH_take 13 22 (rg v p f) rfl rfl (by kernel_rfl) (by kernel_rfl) (by kernel_rfl) (fun _ _ _ h => h) (Or.inl ⟨by rfl, by intro w hSw; have k0 := (hSw.cell (p := ⟨FB, 0, none⟩) T1.lt).trans T1.c0; have k1 := (hSw.cell (p := ⟨FB, 1, none⟩) T1.lt).trans T1.c1; have k2 := (hSw.cell (p := ⟨FB, 2, none⟩) T1.lt).trans T1.c2; go_simp⟩) (hS) ?_
  try simp only [Act.put, List.setIfInBounds_toArray, List.set_cons_zero, List.set_cons_succ]
  refine anyH_take 14 23 (rg u q g) rfl rfl (by kernel_rfl) (by kernel_rfl) (by kernel_rfl) (fun _ _ _ h => h) (Or.inl ⟨by rfl, by intro w hSw; have k0 := (hSw.cell (p := ⟨BB, 0, none⟩) T2.lt).trans T2.c0; have k1 := (hSw.cell (p := ⟨BB, 1, none⟩) T2.lt).trans T2.c1; have k2 := (hSw.cell (p := ⟨BB, 2, none⟩) T2.lt).trans T2.c2; go_simp⟩) (hS) ?_
  try simp only [Act.put, List.setIfInBounds_toArray, List.set_cons_zero, List.set_cons_succ]
  refine wpAnyH_ready (rs := [12]) (by kernel_rfl) (by simp) ?_
  refine AllReadyH.cons rfl (fun K hK => ?_) AllReadyH.nil
  go_simp
  go_wp2_with (go_at_call 10; refine (K10 _).mono ?_; rintro e w12 ⟨rfl, b12⟩)
  refine hK.out _ _ (hS.trans (b12.mono hS.size)) (fun hS => ?_)
  clear hK
  clear b12
  refine wpAnyH_ready (rs := [15]) (by kernel_rfl) (by simp) ?_
  refine AllReadyH.cons rfl (fun K hK => ?_) AllReadyH.nil
  go_simp
  go_wp2_with (go_at_call 11; refine (K11 _).mono ?_; rintro e w15 ⟨rfl, b15⟩)
  refine hK.out _ _ (hS.trans (b15.mono hS.size)) (fun hS => ?_)
  clear hK
  clear b15
  refine anyH_take 16 25 (.bool true) rfl rfl (by kernel_rfl) (by kernel_rfl) (by kernel_rfl) (fun _ _ _ h => h) (Or.inl ⟨by rfl, by intro w hSw; go_simp⟩) (hS) ?_
  try simp only [Act.put, List.setIfInBounds_toArray, List.set_cons_zero, List.set_cons_succ]
  refine anyH_take 17 26 (.bool true) rfl rfl (by kernel_rfl) (by kernel_rfl) (by kernel_rfl) (fun _ _ _ h => h) (Or.inl ⟨by rfl, by intro w hSw; go_simp⟩) (hS) ?_
  try simp only [Act.put, List.setIfInBounds_toArray, List.set_cons_zero, List.set_cons_succ]
  refine anyH_take 18 27 (.bool true) rfl rfl (by kernel_rfl) (by kernel_rfl) (by kernel_rfl) (fun _ _ _ h => h) (Or.inl ⟨by rfl, by intro w hSw; go_simp⟩) (hS) ?_
  try simp only [Act.put, List.setIfInBounds_toArray, List.set_cons_zero, List.set_cons_succ]
  refine anyH_take 19 28 (rg v p f) rfl rfl (by kernel_rfl) (by kernel_rfl) (by kernel_rfl) (fun _ _ _ h => h) (Or.inl ⟨by rfl, by intro w hSw; have k0 := (hSw.cell (p := ⟨FB, 0, none⟩) T1.lt).trans T1.c0; have k1 := (hSw.cell (p := ⟨FB, 1, none⟩) T1.lt).trans T1.c1; have k2 := (hSw.cell (p := ⟨FB, 2, none⟩) T1.lt).trans T1.c2; go_simp⟩) (hS) ?_
  try simp only [Act.put, List.setIfInBounds_toArray, List.set_cons_zero, List.set_cons_succ]
  refine anyH_take 20 29 (rg u q g) rfl rfl (by kernel_rfl) (by kernel_rfl) (by kernel_rfl) (fun _ _ _ h => h) (Or.inl ⟨by rfl, by intro w hSw; have k0 := (hSw.cell (p := ⟨BB, 0, none⟩) T2.lt).trans T2.c0; have k1 := (hSw.cell (p := ⟨BB, 1, none⟩) T2.lt).trans T2.c1; have k2 := (hSw.cell (p := ⟨BB, 2, none⟩) T2.lt).trans T2.c2; go_simp⟩) (hS) ?_
  try simp only [Act.put, List.setIfInBounds_toArray, List.set_cons_zero, List.set_cons_succ]
  refine anyH_take 22 31 (rg v p f) rfl rfl (by kernel_rfl) (by kernel_rfl) (by kernel_rfl) (fun _ _ _ h => h) (Or.inl ⟨by rfl, by intro w hSw; have k0 := (hSw.cell (p := ⟨FB, 0, none⟩) T1.lt).trans T1.c0; have k1 := (hSw.cell (p := ⟨FB, 1, none⟩) T1.lt).trans T1.c1; have k2 := (hSw.cell (p := ⟨FB, 2, none⟩) T1.lt).trans T1.c2; go_simp⟩) (hS) ?_
  try simp only [Act.put, List.setIfInBounds_toArray, List.set_cons_zero, List.set_cons_succ]
  refine anyH_take 23 32 (rg u q g) rfl rfl (by kernel_rfl) (by kernel_rfl) (by kernel_rfl) (fun _ _ _ h => h) (Or.inl ⟨by rfl, by intro w hSw; have k0 := (hSw.cell (p := ⟨BB, 0, none⟩) T2.lt).trans T2.c0; have k1 := (hSw.cell (p := ⟨BB, 1, none⟩) T2.lt).trans T2.c1; have k2 := (hSw.cell (p := ⟨BB, 2, none⟩) T2.lt).trans T2.c2; go_simp⟩) (hS) ?_
  try simp only [Act.put, List.setIfInBounds_toArray, List.set_cons_zero, List.set_cons_succ]
  refine wpAnyH_ready (rs := [21]) (by kernel_rfl) (by simp) ?_
  refine AllReadyH.cons rfl (fun K hK => ?_) AllReadyH.nil
  go_simp
  go_wp2_with (go_at_call 12; refine (K12 _).mono ?_; rintro e w21 ⟨rfl, b21⟩)
  refine hK.out _ _ (hS.trans (b21.mono hS.size)) (fun hS => ?_)
  clear hK
  clear b21
  refine wpAnyH_ready (rs := [24]) (by kernel_rfl) (by simp) ?_
  refine AllReadyH.cons rfl (fun K hK => ?_) AllReadyH.nil
  go_simp
  go_wp2_with (go_at_call 13; refine (K13 _).mono ?_; rintro e w24 ⟨rfl, b24⟩)
  refine hK.out _ _ (hS.trans (b24.mono hS.size)) (fun hS => ?_)
  clear hK
  clear b24
  refine anyH_take 25 34 (.bool (sameB m0 m1 m2 m0 m1 m2)) rfl rfl (by kernel_rfl) (by kernel_rfl) (by kernel_rfl) (fun _ _ _ h => h) (Or.inl ⟨by rfl, fun X hSw => exec_eql23 rfl m0 m1 m2 m0 m1 m2 rfl rfl X⟩) (hS) ?_
  try simp only [Act.put, List.setIfInBounds_toArray, List.set_cons_zero, List.set_cons_succ]
  rw [sameB_self]
  refine anyH_take 26 35 (.bool true) rfl rfl (by kernel_rfl) (by kernel_rfl) (by kernel_rfl) (fun _ _ _ h => h) (Or.inl ⟨by rfl, by intro w hSw; go_simp⟩) (hS) ?_
  try simp only [Act.put, List.setIfInBounds_toArray, List.set_cons_zero, List.set_cons_succ]
  refine anyH_take 27 36 (.bool true) rfl rfl (by kernel_rfl) (by kernel_rfl) (by kernel_rfl) (fun _ _ _ h => h) (Or.inl ⟨by rfl, by intro w hSw; go_simp⟩) (hS) ?_
  try simp only [Act.put, List.setIfInBounds_toArray, List.set_cons_zero, List.set_cons_succ]
  refine anyH_take 28 37 (rg v p f) rfl rfl (by kernel_rfl) (by kernel_rfl) (by kernel_rfl) (fun _ _ _ h => h) (Or.inl ⟨by rfl, by intro w hSw; have k0 := (hSw.cell (p := ⟨FB, 0, none⟩) T1.lt).trans T1.c0; have k1 := (hSw.cell (p := ⟨FB, 1, none⟩) T1.lt).trans T1.c1; have k2 := (hSw.cell (p := ⟨FB, 2, none⟩) T1.lt).trans T1.c2; go_simp⟩) (hS) ?_
  try simp only [Act.put, List.setIfInBounds_toArray, List.set_cons_zero, List.set_cons_succ]
  refine anyH_take 29 38 (rg u q g) rfl rfl (by kernel_rfl) (by kernel_rfl) (by kernel_rfl) (fun _ _ _ h => h) (Or.inl ⟨by rfl, by intro w hSw; have k0 := (hSw.cell (p := ⟨BB, 0, none⟩) T2.lt).trans T2.c0; have k1 := (hSw.cell (p := ⟨BB, 1, none⟩) T2.lt).trans T2.c1; have k2 := (hSw.cell (p := ⟨BB, 2, none⟩) T2.lt).trans T2.c2; go_simp⟩) (hS) ?_
  try simp only [Act.put, List.setIfInBounds_toArray, List.set_cons_zero, List.set_cons_succ]
  refine anyH_take 31 40 (rg v p f) rfl rfl (by kernel_rfl) (by kernel_rfl) (by kernel_rfl) (fun _ _ _ h => h) (Or.inl ⟨by rfl, by intro w hSw; have k0 := (hSw.cell (p := ⟨FB, 0, none⟩) T1.lt).trans T1.c0; have k1 := (hSw.cell (p := ⟨FB, 1, none⟩) T1.lt).trans T1.c1; have k2 := (hSw.cell (p := ⟨FB, 2, none⟩) T1.lt).trans T1.c2; go_simp⟩) (hS) ?_
  try simp only [Act.put, List.setIfInBounds_toArray, List.set_cons_zero, List.set_cons_succ]
  refine anyH_take 32 41 (rg u q g) rfl rfl (by kernel_rfl) (by kernel_rfl) (by kernel_rfl) (fun _ _ _ h => h) (Or.inl ⟨by rfl, by intro w hSw; have k0 := (hSw.cell (p := ⟨BB, 0, none⟩) T2.lt).trans T2.c0; have k1 := (hSw.cell (p := ⟨BB, 1, none⟩) T2.lt).trans T2.c1; have k2 := (hSw.cell (p := ⟨BB, 2, none⟩) T2.lt).trans T2.c2; go_simp⟩) (hS) ?_
  try simp only [Act.put, List.setIfInBounds_toArray, List.set_cons_zero, List.set_cons_succ]
  refine anyH_take 33 42 (.bool (sameB v p f u q g)) rfl rfl (by kernel_rfl) (by kernel_rfl) (by kernel_rfl) (fun _ _ _ h => h) (Or.inl ⟨by rfl, fun X hSw => exec_eql23 rfl v p f u q g rfl rfl X⟩) (hS) ?_
  try simp only [Act.put, List.setIfInBounds_toArray, List.set_cons_zero, List.set_cons_succ]
  rw [hsm]
  refine wpAnyH_ready (rs := [30]) (by kernel_rfl) (by simp) ?_
  refine AllReadyH.cons rfl (fun K hK => ?_) AllReadyH.nil
  go_simp
  go_wp2_with (go_at_call 14; refine (K14 _).mono ?_; rintro e w30 ⟨rfl, b30⟩)
  refine hK.out _ _ (hS.trans (b30.mono hS.size)) (fun hS => ?_)
  clear hK
  clear b30
  refine anyH_take 34 43 (.bool true) rfl rfl (by kernel_rfl) (by kernel_rfl) (by kernel_rfl) (fun _ _ _ h => h) (Or.inl ⟨by rfl, by intro w hSw; go_simp⟩) (hS) ?_
  try simp only [Act.put, List.setIfInBounds_toArray, List.set_cons_zero, List.set_cons_succ]
  refine anyH_take 35 44 (.bool true) rfl rfl (by kernel_rfl) (by kernel_rfl) (by kernel_rfl) (fun _ _ _ h => h) (Or.inl ⟨by rfl, by intro w hSw; go_simp⟩) (hS) ?_
  try simp only [Act.put, List.setIfInBounds_toArray, List.set_cons_zero, List.set_cons_succ]
  refine anyH_take 36 45 (.bool true) rfl rfl (by kernel_rfl) (by kernel_rfl) (by kernel_rfl) (fun _ _ _ h => h) (Or.inl ⟨by rfl, by intro w hSw; go_simp⟩) (hS) ?_
  try simp only [Act.put, List.setIfInBounds_toArray, List.set_cons_zero, List.set_cons_succ]
  refine anyH_take 37 46 (rg v p f) rfl rfl (by kernel_rfl) (by kernel_rfl) (by kernel_rfl) (fun _ _ _ h => h) (Or.inl ⟨by rfl, by intro w hSw; have k0 := (hSw.cell (p := ⟨FB, 0, none⟩) T1.lt).trans T1.c0; have k1 := (hSw.cell (p := ⟨FB, 1, none⟩) T1.lt).trans T1.c1; have k2 := (hSw.cell (p := ⟨FB, 2, none⟩) T1.lt).trans T1.c2; go_simp⟩) (hS) ?_
  try simp only [Act.put, List.setIfInBounds_toArray, List.set_cons_zero, List.set_cons_succ]
  refine anyH_take 38 47 (.int .i64 a) rfl rfl (by kernel_rfl) (by kernel_rfl) (by kernel_rfl) (fun _ _ _ h => h) (Or.inl ⟨by rfl, by intro w hSw; go_simp⟩) (hS) ?_
  try simp only [Act.put, List.setIfInBounds_toArray, List.set_cons_zero, List.set_cons_succ]
  refine anyH_take 39 48 (.int .i64 b) rfl rfl (by kernel_rfl) (by kernel_rfl) (by kernel_rfl) (fun _ _ _ h => h) (Or.inl ⟨by rfl, by intro w hSw; go_simp⟩) (hS) ?_
  try simp only [Act.put, List.setIfInBounds_toArray, List.set_cons_zero, List.set_cons_succ]
  refine anyH_take 41 50 (rg v p f) rfl rfl (by kernel_rfl) (by kernel_rfl) (by kernel_rfl) (fun _ _ _ h => h) (Or.inl ⟨by rfl, by intro w hSw; have k0 := (hSw.cell (p := ⟨FB, 0, none⟩) T1.lt).trans T1.c0; have k1 := (hSw.cell (p := ⟨FB, 1, none⟩) T1.lt).trans T1.c1; have k2 := (hSw.cell (p := ⟨FB, 2, none⟩) T1.lt).trans T1.c2; go_simp⟩) (hS) ?_
  try simp only [Act.put, List.setIfInBounds_toArray, List.set_cons_zero, List.set_cons_succ]
  refine anyH_take 42 51 (.int .i64 a) rfl rfl (by kernel_rfl) (by kernel_rfl) (by kernel_rfl) (fun _ _ _ h => h) (Or.inl ⟨by rfl, by intro w hSw; go_simp⟩) (hS) ?_
  try simp only [Act.put, List.setIfInBounds_toArray, List.set_cons_zero, List.set_cons_succ]
  refine anyH_take 43 52 (.int .i64 b) rfl rfl (by kernel_rfl) (by kernel_rfl) (by kernel_rfl) (fun _ _ _ h => h) (Or.inl ⟨by rfl, by intro w hSw; go_simp⟩) (hS) ?_
  try simp only [Act.put, List.setIfInBounds_toArray, List.set_cons_zero, List.set_cons_succ]
  refine wpAnyH_ready (rs := [40]) (by kernel_rfl) (by simp) ?_
  refine AllReadyH.cons rfl (fun K hK => ?_) AllReadyH.nil
  go_simp
  go_wp2_with (go_at_call 15; refine (K15 _).mono ?_; rintro e w40 ⟨rfl, b40⟩)
  refine hK.out _ _ (hS.trans (b40.mono hS.size)) (fun hS => ?_)
  clear hK
  clear b40
  refine wpAnyH_ready (rs := [44]) (by kernel_rfl) (by simp) ?_
  refine AllReadyH.cons rfl (fun K hK => ?_) AllReadyH.nil
  go_simp
  go_wp2_with (go_at_call 16; refine (K16 _).mono ?_; rintro e w44 ⟨rfl, b44⟩)
  refine hK.out _ _ (hS.trans (b44.mono hS.size)) (fun hS => ?_)
  clear hK
  clear b44
  refine anyH_take 45 54 (.bool true) rfl rfl (by kernel_rfl) (by kernel_rfl) (by kernel_rfl) (fun _ _ _ h => h) (Or.inl ⟨by rfl, by intro w hSw; go_simp⟩) (hS) ?_
  try simp only [Act.put, List.setIfInBounds_toArray, List.set_cons_zero, List.set_cons_succ]
  refine anyH_take 46 55 (.bool true) rfl rfl (by kernel_rfl) (by kernel_rfl) (by kernel_rfl) (fun _ _ _ h => h) (Or.inl ⟨by rfl, by intro w hSw; go_simp⟩) (hS) ?_
  try simp only [Act.put, List.setIfInBounds_toArray, List.set_cons_zero, List.set_cons_succ]
  refine anyH_take 47 56 (.bool true) rfl rfl (by kernel_rfl) (by kernel_rfl) (by kernel_rfl) (fun _ _ _ h => h) (Or.inl ⟨by rfl, by intro w hSw; go_simp⟩) (hS) ?_
  try simp only [Act.put, List.setIfInBounds_toArray, List.set_cons_zero, List.set_cons_succ]
  refine wpAnyH_ready (rs := [48]) (by kernel_rfl) (by simp) ?_
  refine AllReadyH.cons rfl (fun K hK => ?_) AllReadyH.nil
  go_simp
  go_wp2_with (go_at_call 17; refine (K17 _).mono ?_; rintro e w48 ⟨rfl, b48⟩)
  refine hK.out _ _ (hS.trans (b48.mono hS.size)) (fun hS => ?_)
  clear hK
  clear b48
  refine anyH_take 49 58 (.bool true) rfl rfl (by kernel_rfl) (by kernel_rfl) (by kernel_rfl) (fun _ _ _ h => h) (Or.inl ⟨by rfl, by intro w hSw; go_simp⟩) (hS) ?_
  try simp only [Act.put, List.setIfInBounds_toArray, List.set_cons_zero, List.set_cons_succ]
  refine anyH_take 50 8 (.bool true) rfl rfl (by kernel_rfl) (by kernel_rfl) (by kernel_rfl) (fun _ _ _ h => h) (Or.inl ⟨by rfl, by intro w hSw; go_simp⟩) (hS) ?_
  try simp only [Act.put, List.setIfInBounds_toArray, List.set_cons_zero, List.set_cons_succ]
  refine wpAnyH_done (by kernel_rfl) ?_ _
  go_wp2
  go_ret
  exact ⟨rfl, BW.trans (hS.mono BW.size)⟩
end Go.Proofs.Ytijiihmkhlidlaa
