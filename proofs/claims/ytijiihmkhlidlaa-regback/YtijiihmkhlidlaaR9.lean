/-
  What the law RegBack returns.
-/
import Derived.Test.YtijiihmkhlidlaaR9a
namespace Go.Proofs.Ytijiihmkhlidlaa
open Go.ChangeShapes Go.WideShapes Go.ChangeAt Go.RowKit
set_option linter.unusedVariables false
set_option linter.unusedSimpArgs false
set_option maxRecDepth 100000 in
set_option maxHeartbeats 4000000 in
theorem back_err_f (v p f a b x e : Int) (w : World) (hm : mv v p f a b x a = ⟨0, 0, 0, e⟩) (he : e = 31 ∨ e = 10) : Calls Try.prog 6 #[rg v p f, .int .i64 a, .int .i64 b, .int .i64 x, .bool false] w fun e w' => e = .returned (.bool true) ∧ Below w.heap.size w w' := by
  have K1 := fun w => move_any v p f a b x a w
  simp only [hm] at K1
  clear hm
  rcases he with rfl | rfl
  all_goals
    go_enter Try.func6, Try.ntmps6
    go_wp2_with (first | (go_at_call 18; refine (K1 _).mono ?_; clear K1; rintro e w1 ⟨rfl, B1⟩; obtain ⟨a0, a1, a2, b0, b1, b2, z0⟩ := (Tri.new w (.int .i64 v) (.int .i64 p) (.int .i64 f) 23).below B1; have hB : Below w.heap.size w w1 := Below.trans (by go_grown) (B1.mono (by simp)); clear B1) | (go_at_call 17; refine (awake_any _).mono ?_; rintro e w3 ⟨rfl, B3⟩; have hB3 : Below w.heap.size w w3 := Below.trans (hB.alloc hB.size _) (B3.mono (by have := hB.size; simp; omega)); clear B3))
    go_ret
    exact ⟨rfl, hB3⟩
set_option maxRecDepth 100000 in
set_option maxHeartbeats 4000000 in
theorem back_zero_f (v p f a b : Int) (w : World) (hm : mv v p f a b 0 a = ⟨v, p, f, 0⟩) : Calls Try.prog 6 #[rg v p f, .int .i64 a, .int .i64 b, .int .i64 0, .bool false] w fun e w' => e = .returned (.bool true) ∧ Below w.heap.size w w' := by
  have K1 := fun w => move_any v p f a b 0 a w
  simp only [hm] at K1
  clear hm
  go_enter Try.func6, Try.ntmps6
  go_wp2_with (first | (go_at_call 18; refine (K1 _).mono ?_; clear K1; rintro e w1 ⟨rfl, B1⟩; obtain ⟨a0, a1, a2, b0, b1, b2, z0⟩ := (Tri.new w (.int .i64 v) (.int .i64 p) (.int .i64 f) 23).below B1; have hB : Below w.heap.size w w1 := Below.trans (by go_grown) (B1.mono (by simp)); clear B1) | (go_at_call 17; refine (awake_any _).mono ?_; rintro e w3 ⟨rfl, B3⟩; have hB3 : Below w.heap.size w w3 := Below.trans (hB.alloc hB.size _) (B3.mono (by have := hB.size; simp; omega)); clear B3))
  go_ret
  exact ⟨rfl, hB3⟩
set_option maxRecDepth 100000 in
set_option maxHeartbeats 4000000 in
theorem back_gone_f (v p f a b x : Int) (w : World) (h0 : x ≠ 0) (hg : Gone v p f a b x a) : Calls Try.prog 6 #[rg v p f, .int .i64 a, .int .i64 b, .int .i64 x, .bool false] w fun e w' => e = .returned (.bool true) ∧ Below w.heap.size w w' := by
  have hb := gone_back (r := b) hg h0 (by simp)
  have K1 := fun w => move_any v p f a b x a w
  have K2 := fun w => move_any (v + 1) a (f + alongZ x a b) b a x b w
  simp only [hg.eq] at K1
  have KF := fun w => fit_any (v + 1) a (f + alongZ x a b) a b w
  simp only [hg.fit] at KF
  have KN := fun w => newer_any (v + 1) a (f + alongZ x a b) v p f w
  simp only [hg.new] at KN
  have KY := fun w => newer_any (v + 1 + 1) b f (v + 1) a (f + alongZ x a b) w
  have KO1 := fun w => out_any (v + 1) a (f + alongZ x a b) a b w
  have KO2 := fun w => out_any v p f a b w
  have KO3 := fun w => out_any (v + 1) a (f + alongZ x a b) b a w
  have KO4 := fun w => out_any v p f b a w
  have s2 := out_sm v p f a b
  have s4 := out_sm v p f b a
  have rx := hg.rx
  have wr1 : IntKind.i64.wrap (outZ v p f a b + x) = outZ (v + 1) a (f + alongZ x a b) a b := by rw [hg.out, IntKind.wrap_i64]; omega
  have wr2 : IntKind.i64.wrap (outZ v p f b a - x) = outZ (v + 1) a (f + alongZ x a b) b a := by rw [hg.out', IntKind.wrap_i64]; omega
  have s3 := out_sm (v + 1) a (f + alongZ x a b) b a
  have wr3 : IntKind.i64.wrap (-outZ (v + 1) a (f + alongZ x a b) b a) = outZ (v + 1) a (f + alongZ x a b) a b := by rw [hg.neg, IntKind.wrap_i64]; omega
  clear s2 s3 s4 rx hg
  generalize outZ (v + 1) a (f + alongZ x a b) a b = O1 at *
  generalize outZ v p f a b = O2 at *
  generalize outZ (v + 1) a (f + alongZ x a b) b a = O3 at *
  generalize outZ v p f b a = O4 at *
  generalize f + alongZ x a b = X2 at *
  obtain ⟨X0, hX0⟩ : ∃ X0, v + 1 = X0 := ⟨_, rfl⟩
  obtain ⟨X1, hX1⟩ : ∃ X1, a = X1 := ⟨_, rfl⟩
  have hx0 : (x == 0) = false := by simpa using h0
  clear h0
  simp only [hX0] at K1 K2 KF KN KY KO1 KO3 hb
  replace K1 : ∀ w, Calls Try.prog 18 #[rg v p f, .int .i64 a, .int .i64 b, .int .i64 x, .int .i64 a] w fun e w' => e = .returned (.tuple #[rg X0 X1 X2, .int .i64 0]) ∧ Below w.heap.size w w' := by rw [← hX1]; exact K1
  replace K2 : ∀ w, Calls Try.prog 18 #[rg X0 X1 X2, .int .i64 b, .int .i64 a, .int .i64 x, .int .i64 b] w fun e w' => e = .returned (mvV (mv X0 a X2 b a x b)) ∧ Below w.heap.size w w' := by rw [← hX1]; exact K2
  replace KF : ∀ w, Calls Try.prog 8 #[rg X0 X1 X2, .int .i64 a, .int .i64 b] w fun e w' => e = .returned (.bool true) ∧ Below w.heap.size w w' := by rw [← hX1]; exact KF
  replace KN : ∀ w, Calls Try.prog 10 #[rg X0 X1 X2, rg v p f] w fun e w' => e = .returned (.bool true) ∧ Below w.heap.size w w' := by rw [← hX1]; exact KN
  replace KY : ∀ w, Calls Try.prog 10 #[rg (X0 + 1) b f, rg X0 X1 X2] w fun e w' => e = .returned (.bool (newB (X0 + 1) b X0 a)) ∧ Below w.heap.size w w' := by rw [← hX1]; exact KY
  replace KO1 : ∀ w, Calls Try.prog 15 #[rg X0 X1 X2, .int .i64 a, .int .i64 b] w fun e w' => e = .returned (.int .i64 O1) ∧ Below w.heap.size w w' := by rw [← hX1]; exact KO1
  replace KO3 : ∀ w, Calls Try.prog 15 #[rg X0 X1 X2, .int .i64 b, .int .i64 a] w fun e w' => e = .returned (.int .i64 O3) ∧ Below w.heap.size w w' := by rw [← hX1]; exact KO3
  clear hX1 hX0
  go_enter Try.func6, Try.ntmps6
  go_wp2_with (first | (go_at_call 18; refine (K1 _).mono ?_; clear K1; rintro e w1 ⟨rfl, B1⟩; obtain ⟨a0, a1, a2, b0, b1, b2, z0⟩ := (Tri.new w (.int .i64 v) (.int .i64 p) (.int .i64 f) 23).below B1; have hB : Below w.heap.size w w1 := Below.trans (by go_grown) (B1.mono (by simp)); clear B1))
  have T1 := (Tri.mk a0 a1 a2 b0 b1 b2 z0).alloc (.cells #[.int .i64 X0, .int .i64 X1, .int .i64 X2] 23)
  have T2 := Tri.new w1 (.int .i64 X0) (.int .i64 X1) (.int .i64 X2) 23
  have BW : Below w.heap.size w (w1.alloc (.cells #[.int .i64 X0, .int .i64 X1, .int .i64 X2] 23)) := hB.alloc hB.size _
  obtain ⟨W0, hW0⟩ : ∃ X, w1.alloc (.cells #[.int .i64 X0, .int .i64 X1, .int .i64 X2] 23) = X := ⟨_, rfl⟩
  rw [hW0] at T1 T2 BW ⊢
  clear hW0 a0 a1 a2 b0 b1 b2 z0 hB
  obtain ⟨FB, hFB⟩ : ∃ n, w.heap.size = n := ⟨_, rfl⟩
  obtain ⟨BB, hBB⟩ : ∃ n, w1.heap.size = n := ⟨_, rfl⟩
  rw [hFB] at T1
  rw [hBB] at T2
  simp only [hBB]
  simp only [hFB]
  have HFB : Hid (w.heap.size = FB) := hFB
  clear hFB hBB
  refine wp_region_any (by kernel_rfl) ?_
  change wpAny _ _ _ _ _ _ _ (World.drew _)
  refine wpAny_narrow (fun W' => Below W0.heap.size W0 W') _ _ _ _ ?_
  refine anyH_take 0 47 (rg X0 X1 X2) rfl rfl (by kernel_rfl) (by kernel_rfl) (by kernel_rfl) (fun _ _ _ h => h) (Or.inl ⟨by rfl, by intro w hSw; have k0 := (hSw.cell (p := ⟨BB, 0, none⟩) T2.lt).trans T2.c0; have k1 := (hSw.cell (p := ⟨BB, 1, none⟩) T2.lt).trans T2.c1; have k2 := (hSw.cell (p := ⟨BB, 2, none⟩) T2.lt).trans T2.c2; go_simp⟩) ((Below.refl _ _).drew) ?_
  try simp only [Act.put, List.setIfInBounds_toArray, List.set_cons_zero, List.set_cons_succ]
  refine anyH_take 1 48 (.int .i64 a) rfl rfl (by kernel_rfl) (by kernel_rfl) (by kernel_rfl) (fun _ _ _ h => h) (Or.inl ⟨by rfl, by intro w hSw; go_simp⟩) ((Below.refl _ _).drew) ?_
  try simp only [Act.put, List.setIfInBounds_toArray, List.set_cons_zero, List.set_cons_succ]
  refine anyH_take 2 49 (.int .i64 b) rfl rfl (by kernel_rfl) (by kernel_rfl) (by kernel_rfl) (fun _ _ _ h => h) (Or.inl ⟨by rfl, by intro w hSw; go_simp⟩) ((Below.refl _ _).drew) ?_
  try simp only [Act.put, List.setIfInBounds_toArray, List.set_cons_zero, List.set_cons_succ]
  refine wpAnyH_ready (rs := [3]) (by kernel_rfl) (by simp) ?_
  refine AllReadyH.cons rfl (fun K hK => ?_) AllReadyH.nil
  go_simp
  go_wp2_with (go_at_call 8; refine (KF _).mono ?_; rintro e w3' ⟨rfl, b3⟩)
  refine hK.out _ _ ((Below.refl _ _).drew.trans b3) (fun hS => ?_)
  clear hK
  refine anyH_take 4 51 (.bool false) rfl rfl (by kernel_rfl) (by kernel_rfl) (by kernel_rfl) (fun _ _ _ h => h) (Or.inl ⟨by rfl, by intro w hSw; go_simp⟩) (hS) ?_
  try simp only [Act.put, List.setIfInBounds_toArray, List.set_cons_zero, List.set_cons_succ]
  refine anyH_take 5 52 (.bool false) rfl rfl (by kernel_rfl) (by kernel_rfl) (by kernel_rfl) (fun _ _ _ h => h) (Or.inl ⟨by rfl, by intro w hSw; go_simp⟩) (hS) ?_
  try simp only [Act.put, List.setIfInBounds_toArray, List.set_cons_zero, List.set_cons_succ]
  refine anyH_take 6 53 (rg X0 X1 X2) rfl rfl (by kernel_rfl) (by kernel_rfl) (by kernel_rfl) (fun _ _ _ h => h) (Or.inl ⟨by rfl, by intro w hSw; have k0 := (hSw.cell (p := ⟨BB, 0, none⟩) T2.lt).trans T2.c0; have k1 := (hSw.cell (p := ⟨BB, 1, none⟩) T2.lt).trans T2.c1; have k2 := (hSw.cell (p := ⟨BB, 2, none⟩) T2.lt).trans T2.c2; go_simp⟩) (hS) ?_
  try simp only [Act.put, List.setIfInBounds_toArray, List.set_cons_zero, List.set_cons_succ]
  refine anyH_take 7 54 (rg v p f) rfl rfl (by kernel_rfl) (by kernel_rfl) (by kernel_rfl) (fun _ _ _ h => h) (Or.inl ⟨by rfl, by intro w hSw; have k0 := (hSw.cell (p := ⟨FB, 0, none⟩) T1.lt).trans T1.c0; have k1 := (hSw.cell (p := ⟨FB, 1, none⟩) T1.lt).trans T1.c1; have k2 := (hSw.cell (p := ⟨FB, 2, none⟩) T1.lt).trans T1.c2; go_simp⟩) (hS) ?_
  try simp only [Act.put, List.setIfInBounds_toArray, List.set_cons_zero, List.set_cons_succ]
  refine wpAnyH_ready (rs := [8]) (by kernel_rfl) (by simp) ?_
  refine AllReadyH.cons rfl (fun K hK => ?_) AllReadyH.nil
  go_simp
  go_wp2_with (go_at_call 10; refine (KN _).mono ?_; rintro e w8' ⟨rfl, b8⟩)
  refine hK.out _ _ (hS.trans (b8.mono hS.size)) (fun hS => ?_)
  clear hK
  clear b8
  refine anyH_take 9 56 (.bool false) rfl rfl (by kernel_rfl) (by kernel_rfl) (by kernel_rfl) (fun _ _ _ h => h) (Or.inl ⟨by rfl, by intro w hSw; go_simp⟩) (hS) ?_
  try simp only [Act.put, List.setIfInBounds_toArray, List.set_cons_zero, List.set_cons_succ]
  refine anyH_take 10 57 (.bool false) rfl rfl (by kernel_rfl) (by kernel_rfl) (by kernel_rfl) (fun _ _ _ h => h) (Or.inl ⟨by rfl, by intro w hSw; go_simp⟩) (hS) ?_
  try simp only [Act.put, List.setIfInBounds_toArray, List.set_cons_zero, List.set_cons_succ]
  refine anyH_take 11 58 (.bool false) rfl rfl (by kernel_rfl) (by kernel_rfl) (by kernel_rfl) (fun _ _ _ h => h) (Or.inl ⟨by rfl, by intro w hSw; go_simp⟩) (hS) ?_
  try simp only [Act.put, List.setIfInBounds_toArray, List.set_cons_zero, List.set_cons_succ]
  refine anyH_take 12 59 (rg X0 X1 X2) rfl rfl (by kernel_rfl) (by kernel_rfl) (by kernel_rfl) (fun _ _ _ h => h) (Or.inl ⟨by rfl, by intro w hSw; have k0 := (hSw.cell (p := ⟨BB, 0, none⟩) T2.lt).trans T2.c0; have k1 := (hSw.cell (p := ⟨BB, 1, none⟩) T2.lt).trans T2.c1; have k2 := (hSw.cell (p := ⟨BB, 2, none⟩) T2.lt).trans T2.c2; go_simp⟩) (hS) ?_
  try simp only [Act.put, List.setIfInBounds_toArray, List.set_cons_zero, List.set_cons_succ]
  refine anyH_take 13 60 (.int .i64 a) rfl rfl (by kernel_rfl) (by kernel_rfl) (by kernel_rfl) (fun _ _ _ h => h) (Or.inl ⟨by rfl, by intro w hSw; go_simp⟩) (hS) ?_
  try simp only [Act.put, List.setIfInBounds_toArray, List.set_cons_zero, List.set_cons_succ]
  refine anyH_take 14 61 (.int .i64 b) rfl rfl (by kernel_rfl) (by kernel_rfl) (by kernel_rfl) (fun _ _ _ h => h) (Or.inl ⟨by rfl, by intro w hSw; go_simp⟩) (hS) ?_
  try simp only [Act.put, List.setIfInBounds_toArray, List.set_cons_zero, List.set_cons_succ]
  refine anyH_take 16 63 (rg v p f) rfl rfl (by kernel_rfl) (by kernel_rfl) (by kernel_rfl) (fun _ _ _ h => h) (Or.inl ⟨by rfl, by intro w hSw; have k0 := (hSw.cell (p := ⟨FB, 0, none⟩) T1.lt).trans T1.c0; have k1 := (hSw.cell (p := ⟨FB, 1, none⟩) T1.lt).trans T1.c1; have k2 := (hSw.cell (p := ⟨FB, 2, none⟩) T1.lt).trans T1.c2; go_simp⟩) (hS) ?_
  try simp only [Act.put, List.setIfInBounds_toArray, List.set_cons_zero, List.set_cons_succ]
  refine anyH_take 17 64 (.int .i64 a) rfl rfl (by kernel_rfl) (by kernel_rfl) (by kernel_rfl) (fun _ _ _ h => h) (Or.inl ⟨by rfl, by intro w hSw; go_simp⟩) (hS) ?_
  try simp only [Act.put, List.setIfInBounds_toArray, List.set_cons_zero, List.set_cons_succ]
  refine anyH_take 18 65 (.int .i64 b) rfl rfl (by kernel_rfl) (by kernel_rfl) (by kernel_rfl) (fun _ _ _ h => h) (Or.inl ⟨by rfl, by intro w hSw; go_simp⟩) (hS) ?_
  try simp only [Act.put, List.setIfInBounds_toArray, List.set_cons_zero, List.set_cons_succ]
  refine anyH_take 20 67 (.int .i64 x) rfl rfl (by kernel_rfl) (by kernel_rfl) (by kernel_rfl) (fun _ _ _ h => h) (Or.inl ⟨by rfl, by intro w hSw; go_simp⟩) (hS) ?_
  try simp only [Act.put, List.setIfInBounds_toArray, List.set_cons_zero, List.set_cons_succ]
  refine wpAnyH_ready (rs := [15]) (by kernel_rfl) (by simp) ?_
  refine AllReadyH.cons rfl (fun K hK => ?_) AllReadyH.nil
  go_simp
  go_wp2_with (go_at_call 15; refine (KO1 _).mono ?_; rintro e w15' ⟨rfl, b15⟩)
  refine hK.out _ _ (hS.trans (b15.mono hS.size)) (fun hS => ?_)
  clear hK
  clear b15
  refine wpAnyH_ready (rs := [19]) (by kernel_rfl) (by simp) ?_
  refine AllReadyH.cons rfl (fun K hK => ?_) AllReadyH.nil
  go_simp
  go_wp2_with (go_at_call 15; refine (KO2 _).mono ?_; rintro e w19' ⟨rfl, b19⟩)
  refine hK.out _ _ (hS.trans (b19.mono hS.size)) (fun hS => ?_)
  clear hK
  clear b19
  refine anyH_take 21 68 (.int .i64 O1) rfl rfl (by kernel_rfl) (by kernel_rfl) (by kernel_rfl) (fun _ _ _ h => h) (Or.inl ⟨by rfl, by intro w hSw; have wr := wr1; go_simp⟩) (hS) ?_
  try simp only [Act.put, List.setIfInBounds_toArray, List.set_cons_zero, List.set_cons_succ]
  refine anyH_take 22 69 (.bool false) rfl rfl (by kernel_rfl) (by kernel_rfl) (by kernel_rfl) (fun _ _ _ h => h) (Or.inl ⟨by rfl, by intro w hSw; go_simp⟩) (hS) ?_
  try simp only [Act.put, List.setIfInBounds_toArray, List.set_cons_zero, List.set_cons_succ]
  refine anyH_take 23 70 (.bool false) rfl rfl (by kernel_rfl) (by kernel_rfl) (by kernel_rfl) (fun _ _ _ h => h) (Or.inl ⟨by rfl, by intro w hSw; go_simp⟩) (hS) ?_
  try simp only [Act.put, List.setIfInBounds_toArray, List.set_cons_zero, List.set_cons_succ]
  refine anyH_take 24 71 (.bool false) rfl rfl (by kernel_rfl) (by kernel_rfl) (by kernel_rfl) (fun _ _ _ h => h) (Or.inl ⟨by rfl, by intro w hSw; go_simp⟩) (hS) ?_
  try simp only [Act.put, List.setIfInBounds_toArray, List.set_cons_zero, List.set_cons_succ]
  refine anyH_take 25 72 (rg X0 X1 X2) rfl rfl (by kernel_rfl) (by kernel_rfl) (by kernel_rfl) (fun _ _ _ h => h) (Or.inl ⟨by rfl, by intro w hSw; have k0 := (hSw.cell (p := ⟨BB, 0, none⟩) T2.lt).trans T2.c0; have k1 := (hSw.cell (p := ⟨BB, 1, none⟩) T2.lt).trans T2.c1; have k2 := (hSw.cell (p := ⟨BB, 2, none⟩) T2.lt).trans T2.c2; go_simp⟩) (hS) ?_
  try simp only [Act.put, List.setIfInBounds_toArray, List.set_cons_zero, List.set_cons_succ]
  refine anyH_take 26 73 (.int .i64 b) rfl rfl (by kernel_rfl) (by kernel_rfl) (by kernel_rfl) (fun _ _ _ h => h) (Or.inl ⟨by rfl, by intro w hSw; go_simp⟩) (hS) ?_
  try simp only [Act.put, List.setIfInBounds_toArray, List.set_cons_zero, List.set_cons_succ]
  refine anyH_take 27 74 (.int .i64 a) rfl rfl (by kernel_rfl) (by kernel_rfl) (by kernel_rfl) (fun _ _ _ h => h) (Or.inl ⟨by rfl, by intro w hSw; go_simp⟩) (hS) ?_
  try simp only [Act.put, List.setIfInBounds_toArray, List.set_cons_zero, List.set_cons_succ]
  refine anyH_take 29 76 (rg v p f) rfl rfl (by kernel_rfl) (by kernel_rfl) (by kernel_rfl) (fun _ _ _ h => h) (Or.inl ⟨by rfl, by intro w hSw; have k0 := (hSw.cell (p := ⟨FB, 0, none⟩) T1.lt).trans T1.c0; have k1 := (hSw.cell (p := ⟨FB, 1, none⟩) T1.lt).trans T1.c1; have k2 := (hSw.cell (p := ⟨FB, 2, none⟩) T1.lt).trans T1.c2; go_simp⟩) (hS) ?_
  try simp only [Act.put, List.setIfInBounds_toArray, List.set_cons_zero, List.set_cons_succ]
  refine anyH_take 30 77 (.int .i64 b) rfl rfl (by kernel_rfl) (by kernel_rfl) (by kernel_rfl) (fun _ _ _ h => h) (Or.inl ⟨by rfl, by intro w hSw; go_simp⟩) (hS) ?_
  try simp only [Act.put, List.setIfInBounds_toArray, List.set_cons_zero, List.set_cons_succ]
  refine anyH_take 31 78 (.int .i64 a) rfl rfl (by kernel_rfl) (by kernel_rfl) (by kernel_rfl) (fun _ _ _ h => h) (Or.inl ⟨by rfl, by intro w hSw; go_simp⟩) (hS) ?_
  try simp only [Act.put, List.setIfInBounds_toArray, List.set_cons_zero, List.set_cons_succ]
  refine anyH_take 33 80 (.int .i64 x) rfl rfl (by kernel_rfl) (by kernel_rfl) (by kernel_rfl) (fun _ _ _ h => h) (Or.inl ⟨by rfl, by intro w hSw; go_simp⟩) (hS) ?_
  try simp only [Act.put, List.setIfInBounds_toArray, List.set_cons_zero, List.set_cons_succ]
  refine wpAnyH_ready (rs := [28]) (by kernel_rfl) (by simp) ?_
  refine AllReadyH.cons rfl (fun K hK => ?_) AllReadyH.nil
  go_simp
  go_wp2_with (go_at_call 15; refine (KO3 _).mono ?_; rintro e w28' ⟨rfl, b28⟩)
  refine hK.out _ _ (hS.trans (b28.mono hS.size)) (fun hS => ?_)
  clear hK
  clear b28
  refine wpAnyH_ready (rs := [32]) (by kernel_rfl) (by simp) ?_
  refine AllReadyH.cons rfl (fun K hK => ?_) AllReadyH.nil
  go_simp
  go_wp2_with (go_at_call 15; refine (KO4 _).mono ?_; rintro e w32' ⟨rfl, b32⟩)
  refine hK.out _ _ (hS.trans (b32.mono hS.size)) (fun hS => ?_)
  clear hK
  clear b32
  refine anyH_take 34 81 (.int .i64 O3) rfl rfl (by kernel_rfl) (by kernel_rfl) (by kernel_rfl) (fun _ _ _ h => h) (Or.inl ⟨by rfl, by intro w hSw; have wr := wr2; go_simp⟩) (hS) ?_
  try simp only [Act.put, List.setIfInBounds_toArray, List.set_cons_zero, List.set_cons_succ]
  refine anyH_take 35 82 (.bool false) rfl rfl (by kernel_rfl) (by kernel_rfl) (by kernel_rfl) (fun _ _ _ h => h) (Or.inl ⟨by rfl, by intro w hSw; go_simp⟩) (hS) ?_
  try simp only [Act.put, List.setIfInBounds_toArray, List.set_cons_zero, List.set_cons_succ]
  refine anyH_take 36 83 (.bool false) rfl rfl (by kernel_rfl) (by kernel_rfl) (by kernel_rfl) (fun _ _ _ h => h) (Or.inl ⟨by rfl, by intro w hSw; go_simp⟩) (hS) ?_
  try simp only [Act.put, List.setIfInBounds_toArray, List.set_cons_zero, List.set_cons_succ]
  refine anyH_take 37 84 (.bool false) rfl rfl (by kernel_rfl) (by kernel_rfl) (by kernel_rfl) (fun _ _ _ h => h) (Or.inl ⟨by rfl, by intro w hSw; go_simp⟩) (hS) ?_
  try simp only [Act.put, List.setIfInBounds_toArray, List.set_cons_zero, List.set_cons_succ]
  refine anyH_take 38 85 (rg X0 X1 X2) rfl rfl (by kernel_rfl) (by kernel_rfl) (by kernel_rfl) (fun _ _ _ h => h) (Or.inl ⟨by rfl, by intro w hSw; have k0 := (hSw.cell (p := ⟨BB, 0, none⟩) T2.lt).trans T2.c0; have k1 := (hSw.cell (p := ⟨BB, 1, none⟩) T2.lt).trans T2.c1; have k2 := (hSw.cell (p := ⟨BB, 2, none⟩) T2.lt).trans T2.c2; go_simp⟩) (hS) ?_
  try simp only [Act.put, List.setIfInBounds_toArray, List.set_cons_zero, List.set_cons_succ]
  refine anyH_take 39 86 (.int .i64 a) rfl rfl (by kernel_rfl) (by kernel_rfl) (by kernel_rfl) (fun _ _ _ h => h) (Or.inl ⟨by rfl, by intro w hSw; go_simp⟩) (hS) ?_
  try simp only [Act.put, List.setIfInBounds_toArray, List.set_cons_zero, List.set_cons_succ]
  refine anyH_take 40 87 (.int .i64 b) rfl rfl (by kernel_rfl) (by kernel_rfl) (by kernel_rfl) (fun _ _ _ h => h) (Or.inl ⟨by rfl, by intro w hSw; go_simp⟩) (hS) ?_
  try simp only [Act.put, List.setIfInBounds_toArray, List.set_cons_zero, List.set_cons_succ]
  refine anyH_take 42 89 (rg X0 X1 X2) rfl rfl (by kernel_rfl) (by kernel_rfl) (by kernel_rfl) (fun _ _ _ h => h) (Or.inl ⟨by rfl, by intro w hSw; have k0 := (hSw.cell (p := ⟨BB, 0, none⟩) T2.lt).trans T2.c0; have k1 := (hSw.cell (p := ⟨BB, 1, none⟩) T2.lt).trans T2.c1; have k2 := (hSw.cell (p := ⟨BB, 2, none⟩) T2.lt).trans T2.c2; go_simp⟩) (hS) ?_
  try simp only [Act.put, List.setIfInBounds_toArray, List.set_cons_zero, List.set_cons_succ]
  refine anyH_take 43 90 (.int .i64 b) rfl rfl (by kernel_rfl) (by kernel_rfl) (by kernel_rfl) (fun _ _ _ h => h) (Or.inl ⟨by rfl, by intro w hSw; go_simp⟩) (hS) ?_
  try simp only [Act.put, List.setIfInBounds_toArray, List.set_cons_zero, List.set_cons_succ]
  refine anyH_take 44 91 (.int .i64 a) rfl rfl (by kernel_rfl) (by kernel_rfl) (by kernel_rfl) (fun _ _ _ h => h) (Or.inl ⟨by rfl, by intro w hSw; go_simp⟩) (hS) ?_
  try simp only [Act.put, List.setIfInBounds_toArray, List.set_cons_zero, List.set_cons_succ]
  refine wpAnyH_ready (rs := [41]) (by kernel_rfl) (by simp) ?_
  refine AllReadyH.cons rfl (fun K hK => ?_) AllReadyH.nil
  go_simp
  go_wp2_with (go_at_call 15; refine (KO1 _).mono ?_; rintro e w41' ⟨rfl, b41⟩)
  refine hK.out _ _ (hS.trans (b41.mono hS.size)) (fun hS => ?_)
  clear hK
  clear b41
  refine wpAnyH_ready (rs := [45]) (by kernel_rfl) (by simp) ?_
  refine AllReadyH.cons rfl (fun K hK => ?_) AllReadyH.nil
  go_simp
  go_wp2_with (go_at_call 15; refine (KO3 _).mono ?_; rintro e w45' ⟨rfl, b45⟩)
  refine hK.out _ _ (hS.trans (b45.mono hS.size)) (fun hS => ?_)
  clear hK
  clear b45
  refine anyH_take 46 93 (.int .i64 O1) rfl rfl (by kernel_rfl) (by kernel_rfl) (by kernel_rfl) (fun _ _ _ h => h) (Or.inl ⟨by rfl, by intro w hSw; have wr := wr3; go_simp⟩) (hS) ?_
  try simp only [Act.put, List.setIfInBounds_toArray, List.set_cons_zero, List.set_cons_succ]
  refine anyH_take 47 94 (.bool false) rfl rfl (by kernel_rfl) (by kernel_rfl) (by kernel_rfl) (fun _ _ _ h => h) (Or.inl ⟨by rfl, by intro w hSw; go_simp⟩) (hS) ?_
  try simp only [Act.put, List.setIfInBounds_toArray, List.set_cons_zero, List.set_cons_succ]
  refine anyH_take 48 95 (.bool false) rfl rfl (by kernel_rfl) (by kernel_rfl) (by kernel_rfl) (fun _ _ _ h => h) (Or.inl ⟨by rfl, by intro w hSw; go_simp⟩) (hS) ?_
  try simp only [Act.put, List.setIfInBounds_toArray, List.set_cons_zero, List.set_cons_succ]
  refine wpAnyH_done (by kernel_rfl) ?_ _
  have hS' := hS
  have BX : Below w.heap.size w _ := BW.trans (hS.mono BW.size)
  obtain ⟨a0, a1, a2, b0, b1, b2, z0⟩ := T1.below hS
  obtain ⟨c0, c1, c2, d0, d1, d2, z1⟩ := T2.below hS
  clear hS hS'
  rcases hb with ⟨h1, h2⟩ | ⟨h2, h3⟩
  · rw [h2] at K2
    have hX0 : (X0 == 1099511627776) = true := by simp [h1]
    clear h2 h1
    go_wp2_with (first
      | (go_at_call 18; refine (K2 _).mono ?_; clear K2; rintro e w5 ⟨rfl, B5⟩; obtain ⟨g0, g1, g2, k0, k1, k2, z2⟩ := (Tri.mk c0 c1 c2 d0 d1 d2 z1).below B5; have hB5 : Below w.heap.size w w5 := BX.trans (B5.mono BX.size); clear B5)
      | (go_at_call 17; refine (awake_any _).mono ?_; rintro e w6 ⟨rfl, B6⟩; have hB6 : Below w.heap.size w w6 := Below.trans (hB5.alloc hB5.size _) (B6.mono (by have := hB5.size; simp; omega)); clear B6))
    go_ret
    exact ⟨rfl, hB6⟩
  · rw [h2] at K2
    rw [h3] at KY
    clear h2 h3
    go_wp2_with (first
      | (go_at_call 18; refine (K2 _).mono ?_; clear K2; rintro e w5 ⟨rfl, B5⟩; obtain ⟨g0, g1, g2, k0, k1, k2, z2⟩ := (Tri.mk c0 c1 c2 d0 d1 d2 z1).below B5; obtain ⟨l0, l1, l2, n0, n1, n2, z3⟩ := (Tri.mk a0 a1 a2 b0 b1 b2 z0).below B5; have hB5 : Below w.heap.size w w5 := BX.trans (B5.mono BX.size); clear B5)
      | (go_at_call 10; refine (KY _).mono ?_; clear KY; rintro e w7 ⟨rfl, B7⟩; have hB7 : Below w.heap.size w w7 := Below.trans (hB5.alloc hB5.size _) (B7.mono (by have := hB5.size; simp; omega)); clear B7)
      | (go_at_call 17; refine (awake_any _).mono ?_; rintro e w6 ⟨rfl, B6⟩; have hB6 : Below w.heap.size w w6 := Below.trans hB7 (B6.mono hB7.size); clear B6))
    go_ret
    exact ⟨rfl, hB6⟩
set_option maxRecDepth 100000 in
set_option maxHeartbeats 4000000 in
theorem back_err_t (v p f a b x e : Int) (w : World) (hm : mv v p f a b x b = ⟨0, 0, 0, e⟩) (he : e = 31 ∨ e = 10) : Calls Try.prog 6 #[rg v p f, .int .i64 a, .int .i64 b, .int .i64 x, .bool true] w fun e w' => e = .returned (.bool true) ∧ Below w.heap.size w w' := by
  have K1 := fun w => move_any v p f a b x b w
  simp only [hm] at K1
  clear hm
  rcases he with rfl | rfl
  all_goals
    go_enter Try.func6, Try.ntmps6
    go_wp2_with (first | (go_at_call 18; refine (K1 _).mono ?_; clear K1; rintro e w1 ⟨rfl, B1⟩; obtain ⟨a0, a1, a2, b0, b1, b2, z0⟩ := (Tri.new w (.int .i64 v) (.int .i64 p) (.int .i64 f) 23).below B1; have hB : Below w.heap.size w w1 := Below.trans (by go_grown) (B1.mono (by simp)); clear B1) | (go_at_call 17; refine (awake_any _).mono ?_; rintro e w3 ⟨rfl, B3⟩; have hB3 : Below w.heap.size w w3 := Below.trans (hB.alloc hB.size _) (B3.mono (by have := hB.size; simp; omega)); clear B3))
    go_ret
    exact ⟨rfl, hB3⟩
set_option maxRecDepth 100000 in
set_option maxHeartbeats 4000000 in
theorem back_zero_t (v p f a b : Int) (w : World) (hm : mv v p f a b 0 b = ⟨v, p, f, 0⟩) : Calls Try.prog 6 #[rg v p f, .int .i64 a, .int .i64 b, .int .i64 0, .bool true] w fun e w' => e = .returned (.bool true) ∧ Below w.heap.size w w' := by
  have K1 := fun w => move_any v p f a b 0 b w
  simp only [hm] at K1
  clear hm
  go_enter Try.func6, Try.ntmps6
  go_wp2_with (first | (go_at_call 18; refine (K1 _).mono ?_; clear K1; rintro e w1 ⟨rfl, B1⟩; obtain ⟨a0, a1, a2, b0, b1, b2, z0⟩ := (Tri.new w (.int .i64 v) (.int .i64 p) (.int .i64 f) 23).below B1; have hB : Below w.heap.size w w1 := Below.trans (by go_grown) (B1.mono (by simp)); clear B1) | (go_at_call 17; refine (awake_any _).mono ?_; rintro e w3 ⟨rfl, B3⟩; have hB3 : Below w.heap.size w w3 := Below.trans (hB.alloc hB.size _) (B3.mono (by have := hB.size; simp; omega)); clear B3))
  go_ret
  exact ⟨rfl, hB3⟩
set_option maxRecDepth 100000 in
set_option maxHeartbeats 4000000 in
theorem back_gone_t (v p f a b x : Int) (w : World) (h0 : x ≠ 0) (hg : Gone v p f a b x b) : Calls Try.prog 6 #[rg v p f, .int .i64 a, .int .i64 b, .int .i64 x, .bool true] w fun e w' => e = .returned (.bool true) ∧ Below w.heap.size w w' := by
  have hb := gone_back (r := a) hg h0 (by simp)
  have K1 := fun w => move_any v p f a b x b w
  have K2 := fun w => move_any (v + 1) b (f + alongZ x a b) b a x a w
  simp only [hg.eq] at K1
  have KF := fun w => fit_any (v + 1) b (f + alongZ x a b) a b w
  simp only [hg.fit] at KF
  have KN := fun w => newer_any (v + 1) b (f + alongZ x a b) v p f w
  simp only [hg.new] at KN
  have KY := fun w => newer_any (v + 1 + 1) a f (v + 1) b (f + alongZ x a b) w
  have KO1 := fun w => out_any (v + 1) b (f + alongZ x a b) a b w
  have KO2 := fun w => out_any v p f a b w
  have KO3 := fun w => out_any (v + 1) b (f + alongZ x a b) b a w
  have KO4 := fun w => out_any v p f b a w
  have s2 := out_sm v p f a b
  have s4 := out_sm v p f b a
  have rx := hg.rx
  have wr1 : IntKind.i64.wrap (outZ v p f a b + x) = outZ (v + 1) b (f + alongZ x a b) a b := by rw [hg.out, IntKind.wrap_i64]; omega
  have wr2 : IntKind.i64.wrap (outZ v p f b a - x) = outZ (v + 1) b (f + alongZ x a b) b a := by rw [hg.out', IntKind.wrap_i64]; omega
  have s3 := out_sm (v + 1) b (f + alongZ x a b) b a
  have wr3 : IntKind.i64.wrap (-outZ (v + 1) b (f + alongZ x a b) b a) = outZ (v + 1) b (f + alongZ x a b) a b := by rw [hg.neg, IntKind.wrap_i64]; omega
  clear s2 s3 s4 rx hg
  generalize outZ (v + 1) b (f + alongZ x a b) a b = O1 at *
  generalize outZ v p f a b = O2 at *
  generalize outZ (v + 1) b (f + alongZ x a b) b a = O3 at *
  generalize outZ v p f b a = O4 at *
  generalize f + alongZ x a b = X2 at *
  obtain ⟨X0, hX0⟩ : ∃ X0, v + 1 = X0 := ⟨_, rfl⟩
  obtain ⟨X1, hX1⟩ : ∃ X1, b = X1 := ⟨_, rfl⟩
  have hx0 : (x == 0) = false := by simpa using h0
  clear h0
  simp only [hX0] at K1 K2 KF KN KY KO1 KO3 hb
  replace K1 : ∀ w, Calls Try.prog 18 #[rg v p f, .int .i64 a, .int .i64 b, .int .i64 x, .int .i64 b] w fun e w' => e = .returned (.tuple #[rg X0 X1 X2, .int .i64 0]) ∧ Below w.heap.size w w' := by rw [← hX1]; exact K1
  replace K2 : ∀ w, Calls Try.prog 18 #[rg X0 X1 X2, .int .i64 b, .int .i64 a, .int .i64 x, .int .i64 a] w fun e w' => e = .returned (mvV (mv X0 b X2 b a x a)) ∧ Below w.heap.size w w' := by rw [← hX1]; exact K2
  replace KF : ∀ w, Calls Try.prog 8 #[rg X0 X1 X2, .int .i64 a, .int .i64 b] w fun e w' => e = .returned (.bool true) ∧ Below w.heap.size w w' := by rw [← hX1]; exact KF
  replace KN : ∀ w, Calls Try.prog 10 #[rg X0 X1 X2, rg v p f] w fun e w' => e = .returned (.bool true) ∧ Below w.heap.size w w' := by rw [← hX1]; exact KN
  replace KY : ∀ w, Calls Try.prog 10 #[rg (X0 + 1) a f, rg X0 X1 X2] w fun e w' => e = .returned (.bool (newB (X0 + 1) a X0 b)) ∧ Below w.heap.size w w' := by rw [← hX1]; exact KY
  replace KO1 : ∀ w, Calls Try.prog 15 #[rg X0 X1 X2, .int .i64 a, .int .i64 b] w fun e w' => e = .returned (.int .i64 O1) ∧ Below w.heap.size w w' := by rw [← hX1]; exact KO1
  replace KO3 : ∀ w, Calls Try.prog 15 #[rg X0 X1 X2, .int .i64 b, .int .i64 a] w fun e w' => e = .returned (.int .i64 O3) ∧ Below w.heap.size w w' := by rw [← hX1]; exact KO3
  clear hX1 hX0
  go_enter Try.func6, Try.ntmps6
  go_wp2_with (first | (go_at_call 18; refine (K1 _).mono ?_; clear K1; rintro e w1 ⟨rfl, B1⟩; obtain ⟨a0, a1, a2, b0, b1, b2, z0⟩ := (Tri.new w (.int .i64 v) (.int .i64 p) (.int .i64 f) 23).below B1; have hB : Below w.heap.size w w1 := Below.trans (by go_grown) (B1.mono (by simp)); clear B1))
  have T1 := (Tri.mk a0 a1 a2 b0 b1 b2 z0).alloc (.cells #[.int .i64 X0, .int .i64 X1, .int .i64 X2] 23)
  have T2 := Tri.new w1 (.int .i64 X0) (.int .i64 X1) (.int .i64 X2) 23
  have BW : Below w.heap.size w (w1.alloc (.cells #[.int .i64 X0, .int .i64 X1, .int .i64 X2] 23)) := hB.alloc hB.size _
  obtain ⟨W0, hW0⟩ : ∃ X, w1.alloc (.cells #[.int .i64 X0, .int .i64 X1, .int .i64 X2] 23) = X := ⟨_, rfl⟩
  rw [hW0] at T1 T2 BW ⊢
  clear hW0 a0 a1 a2 b0 b1 b2 z0 hB
  obtain ⟨FB, hFB⟩ : ∃ n, w.heap.size = n := ⟨_, rfl⟩
  obtain ⟨BB, hBB⟩ : ∃ n, w1.heap.size = n := ⟨_, rfl⟩
  rw [hFB] at T1
  rw [hBB] at T2
  simp only [hBB]
  simp only [hFB]
  have HFB : Hid (w.heap.size = FB) := hFB
  clear hFB hBB
  refine wp_region_any (by kernel_rfl) ?_
  change wpAny _ _ _ _ _ _ _ (World.drew _)
  refine wpAny_narrow (fun W' => Below W0.heap.size W0 W') _ _ _ _ ?_
  refine anyH_take 0 47 (rg X0 X1 X2) rfl rfl (by kernel_rfl) (by kernel_rfl) (by kernel_rfl) (fun _ _ _ h => h) (Or.inl ⟨by rfl, by intro w hSw; have k0 := (hSw.cell (p := ⟨BB, 0, none⟩) T2.lt).trans T2.c0; have k1 := (hSw.cell (p := ⟨BB, 1, none⟩) T2.lt).trans T2.c1; have k2 := (hSw.cell (p := ⟨BB, 2, none⟩) T2.lt).trans T2.c2; go_simp⟩) ((Below.refl _ _).drew) ?_
  try simp only [Act.put, List.setIfInBounds_toArray, List.set_cons_zero, List.set_cons_succ]
  refine anyH_take 1 48 (.int .i64 a) rfl rfl (by kernel_rfl) (by kernel_rfl) (by kernel_rfl) (fun _ _ _ h => h) (Or.inl ⟨by rfl, by intro w hSw; go_simp⟩) ((Below.refl _ _).drew) ?_
  try simp only [Act.put, List.setIfInBounds_toArray, List.set_cons_zero, List.set_cons_succ]
  refine anyH_take 2 49 (.int .i64 b) rfl rfl (by kernel_rfl) (by kernel_rfl) (by kernel_rfl) (fun _ _ _ h => h) (Or.inl ⟨by rfl, by intro w hSw; go_simp⟩) ((Below.refl _ _).drew) ?_
  try simp only [Act.put, List.setIfInBounds_toArray, List.set_cons_zero, List.set_cons_succ]
  refine wpAnyH_ready (rs := [3]) (by kernel_rfl) (by simp) ?_
  refine AllReadyH.cons rfl (fun K hK => ?_) AllReadyH.nil
  go_simp
  go_wp2_with (go_at_call 8; refine (KF _).mono ?_; rintro e w3' ⟨rfl, b3⟩)
  refine hK.out _ _ ((Below.refl _ _).drew.trans b3) (fun hS => ?_)
  clear hK
  refine anyH_take 4 51 (.bool false) rfl rfl (by kernel_rfl) (by kernel_rfl) (by kernel_rfl) (fun _ _ _ h => h) (Or.inl ⟨by rfl, by intro w hSw; go_simp⟩) (hS) ?_
  try simp only [Act.put, List.setIfInBounds_toArray, List.set_cons_zero, List.set_cons_succ]
  refine anyH_take 5 52 (.bool false) rfl rfl (by kernel_rfl) (by kernel_rfl) (by kernel_rfl) (fun _ _ _ h => h) (Or.inl ⟨by rfl, by intro w hSw; go_simp⟩) (hS) ?_
  try simp only [Act.put, List.setIfInBounds_toArray, List.set_cons_zero, List.set_cons_succ]
  refine anyH_take 6 53 (rg X0 X1 X2) rfl rfl (by kernel_rfl) (by kernel_rfl) (by kernel_rfl) (fun _ _ _ h => h) (Or.inl ⟨by rfl, by intro w hSw; have k0 := (hSw.cell (p := ⟨BB, 0, none⟩) T2.lt).trans T2.c0; have k1 := (hSw.cell (p := ⟨BB, 1, none⟩) T2.lt).trans T2.c1; have k2 := (hSw.cell (p := ⟨BB, 2, none⟩) T2.lt).trans T2.c2; go_simp⟩) (hS) ?_
  try simp only [Act.put, List.setIfInBounds_toArray, List.set_cons_zero, List.set_cons_succ]
  refine anyH_take 7 54 (rg v p f) rfl rfl (by kernel_rfl) (by kernel_rfl) (by kernel_rfl) (fun _ _ _ h => h) (Or.inl ⟨by rfl, by intro w hSw; have k0 := (hSw.cell (p := ⟨FB, 0, none⟩) T1.lt).trans T1.c0; have k1 := (hSw.cell (p := ⟨FB, 1, none⟩) T1.lt).trans T1.c1; have k2 := (hSw.cell (p := ⟨FB, 2, none⟩) T1.lt).trans T1.c2; go_simp⟩) (hS) ?_
  try simp only [Act.put, List.setIfInBounds_toArray, List.set_cons_zero, List.set_cons_succ]
  refine wpAnyH_ready (rs := [8]) (by kernel_rfl) (by simp) ?_
  refine AllReadyH.cons rfl (fun K hK => ?_) AllReadyH.nil
  go_simp
  go_wp2_with (go_at_call 10; refine (KN _).mono ?_; rintro e w8' ⟨rfl, b8⟩)
  refine hK.out _ _ (hS.trans (b8.mono hS.size)) (fun hS => ?_)
  clear hK
  clear b8
  refine anyH_take 9 56 (.bool false) rfl rfl (by kernel_rfl) (by kernel_rfl) (by kernel_rfl) (fun _ _ _ h => h) (Or.inl ⟨by rfl, by intro w hSw; go_simp⟩) (hS) ?_
  try simp only [Act.put, List.setIfInBounds_toArray, List.set_cons_zero, List.set_cons_succ]
  refine anyH_take 10 57 (.bool false) rfl rfl (by kernel_rfl) (by kernel_rfl) (by kernel_rfl) (fun _ _ _ h => h) (Or.inl ⟨by rfl, by intro w hSw; go_simp⟩) (hS) ?_
  try simp only [Act.put, List.setIfInBounds_toArray, List.set_cons_zero, List.set_cons_succ]
  refine anyH_take 11 58 (.bool false) rfl rfl (by kernel_rfl) (by kernel_rfl) (by kernel_rfl) (fun _ _ _ h => h) (Or.inl ⟨by rfl, by intro w hSw; go_simp⟩) (hS) ?_
  try simp only [Act.put, List.setIfInBounds_toArray, List.set_cons_zero, List.set_cons_succ]
  refine anyH_take 12 59 (rg X0 X1 X2) rfl rfl (by kernel_rfl) (by kernel_rfl) (by kernel_rfl) (fun _ _ _ h => h) (Or.inl ⟨by rfl, by intro w hSw; have k0 := (hSw.cell (p := ⟨BB, 0, none⟩) T2.lt).trans T2.c0; have k1 := (hSw.cell (p := ⟨BB, 1, none⟩) T2.lt).trans T2.c1; have k2 := (hSw.cell (p := ⟨BB, 2, none⟩) T2.lt).trans T2.c2; go_simp⟩) (hS) ?_
  try simp only [Act.put, List.setIfInBounds_toArray, List.set_cons_zero, List.set_cons_succ]
  refine anyH_take 13 60 (.int .i64 a) rfl rfl (by kernel_rfl) (by kernel_rfl) (by kernel_rfl) (fun _ _ _ h => h) (Or.inl ⟨by rfl, by intro w hSw; go_simp⟩) (hS) ?_
  try simp only [Act.put, List.setIfInBounds_toArray, List.set_cons_zero, List.set_cons_succ]
  refine anyH_take 14 61 (.int .i64 b) rfl rfl (by kernel_rfl) (by kernel_rfl) (by kernel_rfl) (fun _ _ _ h => h) (Or.inl ⟨by rfl, by intro w hSw; go_simp⟩) (hS) ?_
  try simp only [Act.put, List.setIfInBounds_toArray, List.set_cons_zero, List.set_cons_succ]
  refine anyH_take 16 63 (rg v p f) rfl rfl (by kernel_rfl) (by kernel_rfl) (by kernel_rfl) (fun _ _ _ h => h) (Or.inl ⟨by rfl, by intro w hSw; have k0 := (hSw.cell (p := ⟨FB, 0, none⟩) T1.lt).trans T1.c0; have k1 := (hSw.cell (p := ⟨FB, 1, none⟩) T1.lt).trans T1.c1; have k2 := (hSw.cell (p := ⟨FB, 2, none⟩) T1.lt).trans T1.c2; go_simp⟩) (hS) ?_
  try simp only [Act.put, List.setIfInBounds_toArray, List.set_cons_zero, List.set_cons_succ]
  refine anyH_take 17 64 (.int .i64 a) rfl rfl (by kernel_rfl) (by kernel_rfl) (by kernel_rfl) (fun _ _ _ h => h) (Or.inl ⟨by rfl, by intro w hSw; go_simp⟩) (hS) ?_
  try simp only [Act.put, List.setIfInBounds_toArray, List.set_cons_zero, List.set_cons_succ]
  refine anyH_take 18 65 (.int .i64 b) rfl rfl (by kernel_rfl) (by kernel_rfl) (by kernel_rfl) (fun _ _ _ h => h) (Or.inl ⟨by rfl, by intro w hSw; go_simp⟩) (hS) ?_
  try simp only [Act.put, List.setIfInBounds_toArray, List.set_cons_zero, List.set_cons_succ]
  refine anyH_take 20 67 (.int .i64 x) rfl rfl (by kernel_rfl) (by kernel_rfl) (by kernel_rfl) (fun _ _ _ h => h) (Or.inl ⟨by rfl, by intro w hSw; go_simp⟩) (hS) ?_
  try simp only [Act.put, List.setIfInBounds_toArray, List.set_cons_zero, List.set_cons_succ]
  refine wpAnyH_ready (rs := [15]) (by kernel_rfl) (by simp) ?_
  refine AllReadyH.cons rfl (fun K hK => ?_) AllReadyH.nil
  go_simp
  go_wp2_with (go_at_call 15; refine (KO1 _).mono ?_; rintro e w15' ⟨rfl, b15⟩)
  refine hK.out _ _ (hS.trans (b15.mono hS.size)) (fun hS => ?_)
  clear hK
  clear b15
  refine wpAnyH_ready (rs := [19]) (by kernel_rfl) (by simp) ?_
  refine AllReadyH.cons rfl (fun K hK => ?_) AllReadyH.nil
  go_simp
  go_wp2_with (go_at_call 15; refine (KO2 _).mono ?_; rintro e w19' ⟨rfl, b19⟩)
  refine hK.out _ _ (hS.trans (b19.mono hS.size)) (fun hS => ?_)
  clear hK
  clear b19
  refine anyH_take 21 68 (.int .i64 O1) rfl rfl (by kernel_rfl) (by kernel_rfl) (by kernel_rfl) (fun _ _ _ h => h) (Or.inl ⟨by rfl, by intro w hSw; have wr := wr1; go_simp⟩) (hS) ?_
  try simp only [Act.put, List.setIfInBounds_toArray, List.set_cons_zero, List.set_cons_succ]
  refine anyH_take 22 69 (.bool false) rfl rfl (by kernel_rfl) (by kernel_rfl) (by kernel_rfl) (fun _ _ _ h => h) (Or.inl ⟨by rfl, by intro w hSw; go_simp⟩) (hS) ?_
  try simp only [Act.put, List.setIfInBounds_toArray, List.set_cons_zero, List.set_cons_succ]
  refine anyH_take 23 70 (.bool false) rfl rfl (by kernel_rfl) (by kernel_rfl) (by kernel_rfl) (fun _ _ _ h => h) (Or.inl ⟨by rfl, by intro w hSw; go_simp⟩) (hS) ?_
  try simp only [Act.put, List.setIfInBounds_toArray, List.set_cons_zero, List.set_cons_succ]
  refine anyH_take 24 71 (.bool false) rfl rfl (by kernel_rfl) (by kernel_rfl) (by kernel_rfl) (fun _ _ _ h => h) (Or.inl ⟨by rfl, by intro w hSw; go_simp⟩) (hS) ?_
  try simp only [Act.put, List.setIfInBounds_toArray, List.set_cons_zero, List.set_cons_succ]
  refine anyH_take 25 72 (rg X0 X1 X2) rfl rfl (by kernel_rfl) (by kernel_rfl) (by kernel_rfl) (fun _ _ _ h => h) (Or.inl ⟨by rfl, by intro w hSw; have k0 := (hSw.cell (p := ⟨BB, 0, none⟩) T2.lt).trans T2.c0; have k1 := (hSw.cell (p := ⟨BB, 1, none⟩) T2.lt).trans T2.c1; have k2 := (hSw.cell (p := ⟨BB, 2, none⟩) T2.lt).trans T2.c2; go_simp⟩) (hS) ?_
  try simp only [Act.put, List.setIfInBounds_toArray, List.set_cons_zero, List.set_cons_succ]
  refine anyH_take 26 73 (.int .i64 b) rfl rfl (by kernel_rfl) (by kernel_rfl) (by kernel_rfl) (fun _ _ _ h => h) (Or.inl ⟨by rfl, by intro w hSw; go_simp⟩) (hS) ?_
  try simp only [Act.put, List.setIfInBounds_toArray, List.set_cons_zero, List.set_cons_succ]
  refine anyH_take 27 74 (.int .i64 a) rfl rfl (by kernel_rfl) (by kernel_rfl) (by kernel_rfl) (fun _ _ _ h => h) (Or.inl ⟨by rfl, by intro w hSw; go_simp⟩) (hS) ?_
  try simp only [Act.put, List.setIfInBounds_toArray, List.set_cons_zero, List.set_cons_succ]
  refine anyH_take 29 76 (rg v p f) rfl rfl (by kernel_rfl) (by kernel_rfl) (by kernel_rfl) (fun _ _ _ h => h) (Or.inl ⟨by rfl, by intro w hSw; have k0 := (hSw.cell (p := ⟨FB, 0, none⟩) T1.lt).trans T1.c0; have k1 := (hSw.cell (p := ⟨FB, 1, none⟩) T1.lt).trans T1.c1; have k2 := (hSw.cell (p := ⟨FB, 2, none⟩) T1.lt).trans T1.c2; go_simp⟩) (hS) ?_
  try simp only [Act.put, List.setIfInBounds_toArray, List.set_cons_zero, List.set_cons_succ]
  refine anyH_take 30 77 (.int .i64 b) rfl rfl (by kernel_rfl) (by kernel_rfl) (by kernel_rfl) (fun _ _ _ h => h) (Or.inl ⟨by rfl, by intro w hSw; go_simp⟩) (hS) ?_
  try simp only [Act.put, List.setIfInBounds_toArray, List.set_cons_zero, List.set_cons_succ]
  refine anyH_take 31 78 (.int .i64 a) rfl rfl (by kernel_rfl) (by kernel_rfl) (by kernel_rfl) (fun _ _ _ h => h) (Or.inl ⟨by rfl, by intro w hSw; go_simp⟩) (hS) ?_
  try simp only [Act.put, List.setIfInBounds_toArray, List.set_cons_zero, List.set_cons_succ]
  refine anyH_take 33 80 (.int .i64 x) rfl rfl (by kernel_rfl) (by kernel_rfl) (by kernel_rfl) (fun _ _ _ h => h) (Or.inl ⟨by rfl, by intro w hSw; go_simp⟩) (hS) ?_
  try simp only [Act.put, List.setIfInBounds_toArray, List.set_cons_zero, List.set_cons_succ]
  refine wpAnyH_ready (rs := [28]) (by kernel_rfl) (by simp) ?_
  refine AllReadyH.cons rfl (fun K hK => ?_) AllReadyH.nil
  go_simp
  go_wp2_with (go_at_call 15; refine (KO3 _).mono ?_; rintro e w28' ⟨rfl, b28⟩)
  refine hK.out _ _ (hS.trans (b28.mono hS.size)) (fun hS => ?_)
  clear hK
  clear b28
  refine wpAnyH_ready (rs := [32]) (by kernel_rfl) (by simp) ?_
  refine AllReadyH.cons rfl (fun K hK => ?_) AllReadyH.nil
  go_simp
  go_wp2_with (go_at_call 15; refine (KO4 _).mono ?_; rintro e w32' ⟨rfl, b32⟩)
  refine hK.out _ _ (hS.trans (b32.mono hS.size)) (fun hS => ?_)
  clear hK
  clear b32
  refine anyH_take 34 81 (.int .i64 O3) rfl rfl (by kernel_rfl) (by kernel_rfl) (by kernel_rfl) (fun _ _ _ h => h) (Or.inl ⟨by rfl, by intro w hSw; have wr := wr2; go_simp⟩) (hS) ?_
  try simp only [Act.put, List.setIfInBounds_toArray, List.set_cons_zero, List.set_cons_succ]
  refine anyH_take 35 82 (.bool false) rfl rfl (by kernel_rfl) (by kernel_rfl) (by kernel_rfl) (fun _ _ _ h => h) (Or.inl ⟨by rfl, by intro w hSw; go_simp⟩) (hS) ?_
  try simp only [Act.put, List.setIfInBounds_toArray, List.set_cons_zero, List.set_cons_succ]
  refine anyH_take 36 83 (.bool false) rfl rfl (by kernel_rfl) (by kernel_rfl) (by kernel_rfl) (fun _ _ _ h => h) (Or.inl ⟨by rfl, by intro w hSw; go_simp⟩) (hS) ?_
  try simp only [Act.put, List.setIfInBounds_toArray, List.set_cons_zero, List.set_cons_succ]
  refine anyH_take 37 84 (.bool false) rfl rfl (by kernel_rfl) (by kernel_rfl) (by kernel_rfl) (fun _ _ _ h => h) (Or.inl ⟨by rfl, by intro w hSw; go_simp⟩) (hS) ?_
  try simp only [Act.put, List.setIfInBounds_toArray, List.set_cons_zero, List.set_cons_succ]
  refine anyH_take 38 85 (rg X0 X1 X2) rfl rfl (by kernel_rfl) (by kernel_rfl) (by kernel_rfl) (fun _ _ _ h => h) (Or.inl ⟨by rfl, by intro w hSw; have k0 := (hSw.cell (p := ⟨BB, 0, none⟩) T2.lt).trans T2.c0; have k1 := (hSw.cell (p := ⟨BB, 1, none⟩) T2.lt).trans T2.c1; have k2 := (hSw.cell (p := ⟨BB, 2, none⟩) T2.lt).trans T2.c2; go_simp⟩) (hS) ?_
  try simp only [Act.put, List.setIfInBounds_toArray, List.set_cons_zero, List.set_cons_succ]
  refine anyH_take 39 86 (.int .i64 a) rfl rfl (by kernel_rfl) (by kernel_rfl) (by kernel_rfl) (fun _ _ _ h => h) (Or.inl ⟨by rfl, by intro w hSw; go_simp⟩) (hS) ?_
  try simp only [Act.put, List.setIfInBounds_toArray, List.set_cons_zero, List.set_cons_succ]
  refine anyH_take 40 87 (.int .i64 b) rfl rfl (by kernel_rfl) (by kernel_rfl) (by kernel_rfl) (fun _ _ _ h => h) (Or.inl ⟨by rfl, by intro w hSw; go_simp⟩) (hS) ?_
  try simp only [Act.put, List.setIfInBounds_toArray, List.set_cons_zero, List.set_cons_succ]
  refine anyH_take 42 89 (rg X0 X1 X2) rfl rfl (by kernel_rfl) (by kernel_rfl) (by kernel_rfl) (fun _ _ _ h => h) (Or.inl ⟨by rfl, by intro w hSw; have k0 := (hSw.cell (p := ⟨BB, 0, none⟩) T2.lt).trans T2.c0; have k1 := (hSw.cell (p := ⟨BB, 1, none⟩) T2.lt).trans T2.c1; have k2 := (hSw.cell (p := ⟨BB, 2, none⟩) T2.lt).trans T2.c2; go_simp⟩) (hS) ?_
  try simp only [Act.put, List.setIfInBounds_toArray, List.set_cons_zero, List.set_cons_succ]
  refine anyH_take 43 90 (.int .i64 b) rfl rfl (by kernel_rfl) (by kernel_rfl) (by kernel_rfl) (fun _ _ _ h => h) (Or.inl ⟨by rfl, by intro w hSw; go_simp⟩) (hS) ?_
  try simp only [Act.put, List.setIfInBounds_toArray, List.set_cons_zero, List.set_cons_succ]
  refine anyH_take 44 91 (.int .i64 a) rfl rfl (by kernel_rfl) (by kernel_rfl) (by kernel_rfl) (fun _ _ _ h => h) (Or.inl ⟨by rfl, by intro w hSw; go_simp⟩) (hS) ?_
  try simp only [Act.put, List.setIfInBounds_toArray, List.set_cons_zero, List.set_cons_succ]
  refine wpAnyH_ready (rs := [41]) (by kernel_rfl) (by simp) ?_
  refine AllReadyH.cons rfl (fun K hK => ?_) AllReadyH.nil
  go_simp
  go_wp2_with (go_at_call 15; refine (KO1 _).mono ?_; rintro e w41' ⟨rfl, b41⟩)
  refine hK.out _ _ (hS.trans (b41.mono hS.size)) (fun hS => ?_)
  clear hK
  clear b41
  refine wpAnyH_ready (rs := [45]) (by kernel_rfl) (by simp) ?_
  refine AllReadyH.cons rfl (fun K hK => ?_) AllReadyH.nil
  go_simp
  go_wp2_with (go_at_call 15; refine (KO3 _).mono ?_; rintro e w45' ⟨rfl, b45⟩)
  refine hK.out _ _ (hS.trans (b45.mono hS.size)) (fun hS => ?_)
  clear hK
  clear b45
  refine anyH_take 46 93 (.int .i64 O1) rfl rfl (by kernel_rfl) (by kernel_rfl) (by kernel_rfl) (fun _ _ _ h => h) (Or.inl ⟨by rfl, by intro w hSw; have wr := wr3; go_simp⟩) (hS) ?_
  try simp only [Act.put, List.setIfInBounds_toArray, List.set_cons_zero, List.set_cons_succ]
  refine anyH_take 47 94 (.bool false) rfl rfl (by kernel_rfl) (by kernel_rfl) (by kernel_rfl) (fun _ _ _ h => h) (Or.inl ⟨by rfl, by intro w hSw; go_simp⟩) (hS) ?_
  try simp only [Act.put, List.setIfInBounds_toArray, List.set_cons_zero, List.set_cons_succ]
  refine anyH_take 48 95 (.bool false) rfl rfl (by kernel_rfl) (by kernel_rfl) (by kernel_rfl) (fun _ _ _ h => h) (Or.inl ⟨by rfl, by intro w hSw; go_simp⟩) (hS) ?_
  try simp only [Act.put, List.setIfInBounds_toArray, List.set_cons_zero, List.set_cons_succ]
  refine wpAnyH_done (by kernel_rfl) ?_ _
  have hS' := hS
  have BX : Below w.heap.size w _ := BW.trans (hS.mono BW.size)
  obtain ⟨a0, a1, a2, b0, b1, b2, z0⟩ := T1.below hS
  obtain ⟨c0, c1, c2, d0, d1, d2, z1⟩ := T2.below hS
  clear hS hS'
  rcases hb with ⟨h1, h2⟩ | ⟨h2, h3⟩
  · rw [h2] at K2
    have hX0 : (X0 == 1099511627776) = true := by simp [h1]
    clear h2 h1
    go_wp2_with (first
      | (go_at_call 18; refine (K2 _).mono ?_; clear K2; rintro e w5 ⟨rfl, B5⟩; obtain ⟨g0, g1, g2, k0, k1, k2, z2⟩ := (Tri.mk c0 c1 c2 d0 d1 d2 z1).below B5; have hB5 : Below w.heap.size w w5 := BX.trans (B5.mono BX.size); clear B5)
      | (go_at_call 17; refine (awake_any _).mono ?_; rintro e w6 ⟨rfl, B6⟩; have hB6 : Below w.heap.size w w6 := Below.trans (hB5.alloc hB5.size _) (B6.mono (by have := hB5.size; simp; omega)); clear B6))
    go_ret
    exact ⟨rfl, hB6⟩
  · rw [h2] at K2
    rw [h3] at KY
    clear h2 h3
    go_wp2_with (first
      | (go_at_call 18; refine (K2 _).mono ?_; clear K2; rintro e w5 ⟨rfl, B5⟩; obtain ⟨g0, g1, g2, k0, k1, k2, z2⟩ := (Tri.mk c0 c1 c2 d0 d1 d2 z1).below B5; obtain ⟨l0, l1, l2, n0, n1, n2, z3⟩ := (Tri.mk a0 a1 a2 b0 b1 b2 z0).below B5; have hB5 : Below w.heap.size w w5 := BX.trans (B5.mono BX.size); clear B5)
      | (go_at_call 10; refine (KY _).mono ?_; clear KY; rintro e w7 ⟨rfl, B7⟩; have hB7 : Below w.heap.size w w7 := Below.trans (hB5.alloc hB5.size _) (B7.mono (by have := hB5.size; simp; omega)); clear B7)
      | (go_at_call 17; refine (awake_any _).mono ?_; rintro e w6 ⟨rfl, B6⟩; have hB6 : Below w.heap.size w w6 := Below.trans hB7 (B6.mono hB7.size); clear B6))
    go_ret
    exact ⟨rfl, hB6⟩
theorem back_walk (v p f a b x : Int) (o : Bool) (w : World) : Calls Try.prog 6 #[rg v p f, .int .i64 a, .int .i64 b, .int .i64 x, .bool o] w fun e w' => e = .returned (.bool true) ∧ Below w.heap.size w w' := by
  cases o with
  | false =>
    rcases mv_cases v p f a b x a with ⟨e, hm, he⟩ | ⟨rfl, hm⟩ | ⟨h0, hg⟩
    · exact back_err_f v p f a b x e w hm he
    · exact back_zero_f v p f a b w hm
    · exact back_gone_f v p f a b x w h0 hg
  | true =>
    rcases mv_cases v p f a b x b with ⟨e, hm, he⟩ | ⟨rfl, hm⟩ | ⟨h0, hg⟩
    · exact back_err_t v p f a b x e w hm he
    · exact back_zero_t v p f a b w hm
    · exact back_gone_t v p f a b x w h0 hg
end Go.Proofs.Ytijiihmkhlidlaa
