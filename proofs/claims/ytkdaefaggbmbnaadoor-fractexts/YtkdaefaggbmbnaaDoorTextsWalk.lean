/-
  What the law FracTexts returns.
-/
import Derived.Test.YtkdaefaggbmbnaaDoorRParse
import Derived.Test.YtkdaefaggbmbnaaDoorEnv
import Derived.Test.YtkdaefaggbmbnaaDoorHeld
import Derived.Deep.DeepCutAuto
namespace Go.Proofs.YtkdaefaggbmbnaaDoor
open Go.ChangeShapes Go.WideShapes Go.ChangeAt Go.RowKit
set_option linter.unusedVariables false
set_option linter.unusedSimpArgs false

set_option maxRecDepth 100000 in
set_option maxHeartbeats 1000000 in
theorem texts_not (a b : Int) (s : ByteArray) (p q : Int) (g : Bool) (w : World) (ha : I64 a) (hb : I64 b) (ht : Tab w) (hS : Sent w)
    (HP : ∀ W, Tab W → Sent W → Calls Tryd.prog 6 #[.string s] W fun e w' => e = .returned (.tuple #[fr p q, .bool g]) ∧ Below W.heap.size W w')
    (HR : ∀ W, Tab W → Calls Tryd.prog 7 #[.string s] W fun e w' => e = .returned (.tuple #[fr p q, .bool g]) ∧ Below W.heap.size W w') (hv : validB a b = false) :
    Calls Tryd.prog 3 #[fr a b, .string s] w fun e w' => e = .returned (.bool true) ∧ Below w.heap.size w w' := by
  have HV := fun W => rvalid_any a b W ha.1 ha.2 hb.1 hb.2
  rw [hv] at HV
  clear hv
  go_enter Tryd.func3, Tryd.ntmps3
  go_wp2_with (first
    | (go_at_call 6; refine (HP _ (ht.below (by go_grown)) (hS.below (by go_grown))).mono ?_; rintro e w1 ⟨rfl, hb1⟩; have E1 := ((Env.start ht).push a b).below hb1; clear hb1 HP; obtain ⟨q0, q1, _, _, z⟩ := E1.two (w.heap.size, a, b) (by simp))
    | (go_at_call 7; refine (HR _ (E1.push p q).tab).mono ?_; rintro e w2 ⟨rfl, hb2⟩; have E2 := (E1.push p q).below hb2; clear hb2 HR q0 q1 z E1; obtain ⟨q0, q1, _, _, z⟩ := E2.two (w.heap.size, a, b) (by simp); obtain ⟨g0, g1, _, _, y⟩ := E2.two (w1.heap.size, p, q) (by simp))
    | (go_at_call 8; refine (HV _).mono ?_; rintro e w3 ⟨rfl, hb3⟩; have E3 := (E2.push p q).below hb3; clear hb3 HV q0 q1 z g0 g1 y E2; obtain ⟨q0, q1, _, _, z⟩ := E3.two (w.heap.size, a, b) (by simp))
    | (go_at_call 9; refine (awake_any _ E3.tab).mono ?_; rintro e w4 ⟨rfl, hb4⟩; have E4 := E3.below hb4))
  go_ret
  exact ⟨rfl, E4.old⟩
set_option maxRecDepth 100000 in
set_option maxHeartbeats 1000000 in
theorem texts_is (a b : Int) (s : ByteArray) (p q : Int) (g : Bool) (w : World) (ha : I64 a) (hb : I64 b) (ht : Tab w) (hS : Sent w)
    (HP : ∀ W, Tab W → Sent W → Calls Tryd.prog 6 #[.string s] W fun e w' => e = .returned (.tuple #[fr p q, .bool g]) ∧ Below W.heap.size W w')
    (HR : ∀ W, Tab W → Calls Tryd.prog 7 #[.string s] W fun e w' => e = .returned (.tuple #[fr p q, .bool g]) ∧ Below W.heap.size W w') (hv : validB a b = true) (x : ByteArray) (hx : txt a b = x) (HQ : ∀ W, Tab W → Sent W → Calls Tryd.prog 6 #[.string x] W fun e w' => e = .returned (.tuple #[fr a b, .bool true]) ∧ Below W.heap.size W w') :
    Calls Tryd.prog 3 #[fr a b, .string s] w fun e w' => e = .returned (.bool true) ∧ Below w.heap.size w w' := by
  have HV := fun W => rvalid_any a b W ha.1 ha.2 hb.1 hb.2
  have HX := fun W h => text_any a b W ha hb h
  have HY := fun W h => rtext_any a b W ha hb h
  rw [hv] at HV
  rw [hx] at HX HY
  clear hv hx
  go_enter Tryd.func3, Tryd.ntmps3
  go_wp2_with (first
    | (go_at_call 6; refine (HP _ (ht.below (by go_grown)) (hS.below (by go_grown))).mono ?_; rintro e w1 ⟨rfl, hb1⟩; have E1 := ((Env.start ht).push a b).below hb1; clear hb1 HP; obtain ⟨q0, q1, _, _, z⟩ := E1.two (w.heap.size, a, b) (by simp))
    | (go_at_call 7; refine (HR _ (E1.push p q).tab).mono ?_; rintro e w2 ⟨rfl, hb2⟩; have E2 := (E1.push p q).below hb2; clear hb2 HR q0 q1 z E1; obtain ⟨q0, q1, _, _, z⟩ := E2.two (w.heap.size, a, b) (by simp); obtain ⟨g0, g1, _, _, y⟩ := E2.two (w1.heap.size, p, q) (by simp))
    | (go_at_call 8; refine (HV _).mono ?_; rintro e w3 ⟨rfl, hb3⟩; have E3 := (E2.push p q).below hb3; clear hb3 HV q0 q1 z g0 g1 y E2; obtain ⟨q0, q1, _, _, z⟩ := E3.two (w.heap.size, a, b) (by simp))
    | (go_at_call 10; refine (HX _ E3.tab).mono ?_; rintro e w4 ⟨rfl, hb4⟩; have E4 := E3.below hb4; clear hb4 q0 q1 z E3; obtain ⟨q0, q1, _, _, z⟩ := E4.two (w.heap.size, a, b) (by simp))
    | (go_at_call 6; refine (HQ _ E4.tab (hS.below E4.old)).mono ?_; rintro e w5 ⟨rfl, hb5⟩; have E5 := E4.below hb5; clear hb5 HQ q0 q1 z E4; obtain ⟨q0, q1, _, _, z⟩ := E5.two (w.heap.size, a, b) (by simp)))
  have E6 := E5.push a b
  have F0 := E6.two (w.heap.size, a, b) (by simp)
  have B0 := E6.two (w5.heap.size, a, b) (by simp)
  obtain ⟨W0, hW0⟩ : ∃ X, w5.alloc (.cells #[.int .i64 a, .int .i64 b] 23) = X := ⟨_, rfl⟩
  rw [hW0] at E6 F0 B0 ⊢
  simp only at F0 B0
  obtain ⟨FB, hFB⟩ : ∃ n, w.heap.size = n := ⟨_, rfl⟩
  obtain ⟨BB, hBB⟩ : ∃ n, w5.heap.size = n := ⟨_, rfl⟩
  rw [hFB] at F0
  rw [hBB] at B0
  simp only [hFB, hBB]
  have hOld := E6.old
  clear hW0 q0 q1 z E5 hFB hBB
  refine wp_region_any (by kernel_rfl) ?_
  change wpAny _ _ _ _ _ _ _ (World.drew _)
  refine wpAny_narrow (fun W' => Below W0.heap.size W0 W') _ _ _ _ ?_
  refine anyH_take 0 39 (.agg #[.int .i64 a, .int .i64 b]) rfl rfl (by kernel_rfl) (by kernel_rfl) (by kernel_rfl) (fun _ _ _ h => h) (Or.inl ⟨by rfl, by intro w hSw; have k0 := (hSw.cell (p := ⟨FB, 0, none⟩) F0.2.2.2.2).trans F0.1; have k1 := (hSw.cell (p := ⟨FB, 1, none⟩) F0.2.2.2.2).trans F0.2.1; go_simp⟩) ((Below.refl _ _).drew) ?_
  try simp only [Act.put, List.setIfInBounds_toArray, List.set_cons_zero, List.set_cons_succ]
  refine anyH_take 2 41 (.agg #[.int .i64 a, .int .i64 b]) rfl rfl (by kernel_rfl) (by kernel_rfl) (by kernel_rfl) (fun _ _ _ h => h) (Or.inl ⟨by rfl, by intro w hSw; have k0 := (hSw.cell (p := ⟨FB, 0, none⟩) F0.2.2.2.2).trans F0.1; have k1 := (hSw.cell (p := ⟨FB, 1, none⟩) F0.2.2.2.2).trans F0.2.1; go_simp⟩) ((Below.refl _ _).drew) ?_
  try simp only [Act.put, List.setIfInBounds_toArray, List.set_cons_zero, List.set_cons_succ]
  refine wpAnyH_ready (rs := [1]) (by kernel_rfl) (by simp) ?_
  refine AllReadyH.cons rfl (fun K hK => ?_) AllReadyH.nil
  go_simp
  go_wp2_with (go_at_call 10; refine (HX _ E6.drew.tab).mono ?_; rintro e w6 ⟨rfl, b6⟩; have E7 := E6.drew.below b6)
  refine hK.out _ _ ((Below.refl _ _).drew.trans b6) (fun hS => ?_)
  clear hK
  refine wpAnyH_ready (rs := [3]) (by kernel_rfl) (by simp) ?_
  refine AllReadyH.cons rfl (fun K hK => ?_) AllReadyH.nil
  go_simp
  go_wp2_with (go_at_call 11; refine (HY _ E7.tab).mono ?_; rintro e w7 ⟨rfl, b7⟩; have E8 := E7.below b7)
  refine hK.out _ _ (hS.trans (b7.mono hS.size)) (fun hS => ?_)
  clear hK
  refine anyH_take 4 43 (.bool true) rfl rfl (by kernel_rfl) (by kernel_rfl) (by kernel_rfl) (fun _ _ _ h => h) (Or.inl ⟨by rfl, by intro w hSw; go_simp⟩) (hS) ?_
  try simp only [Act.put, List.setIfInBounds_toArray, List.set_cons_zero, List.set_cons_succ]
  refine anyH_take 5 44 (.bool true) rfl rfl (by kernel_rfl) (by kernel_rfl) (by kernel_rfl) (fun _ _ _ h => h) (Or.inl ⟨by rfl, by intro w hSw; go_simp⟩) (hS) ?_
  try simp only [Act.put, List.setIfInBounds_toArray, List.set_cons_zero, List.set_cons_succ]
  refine anyH_take 6 45 (.bool true) rfl rfl (by kernel_rfl) (by kernel_rfl) (by kernel_rfl) (fun _ _ _ h => h) (Or.inl ⟨by rfl, by intro w hSw; go_simp⟩) (hS) ?_
  try simp only [Act.put, List.setIfInBounds_toArray, List.set_cons_zero, List.set_cons_succ]
  refine anyH_take 7 46 (.bool true) rfl rfl (by kernel_rfl) (by kernel_rfl) (by kernel_rfl) (fun _ _ _ h => h) (Or.inl ⟨by rfl, by intro w hSw; go_simp⟩) (hS) ?_
  try simp only [Act.put, List.setIfInBounds_toArray, List.set_cons_zero, List.set_cons_succ]
  refine anyH_take 8 47 (.bool true) rfl rfl (by kernel_rfl) (by kernel_rfl) (by kernel_rfl) (fun _ _ _ h => h) (Or.inl ⟨by rfl, by intro w hSw; go_simp⟩) (hS) ?_
  try simp only [Act.put, List.setIfInBounds_toArray, List.set_cons_zero, List.set_cons_succ]
  refine anyH_take 9 48 (.agg #[.int .i64 a, .int .i64 b]) rfl rfl (by kernel_rfl) (by kernel_rfl) (by kernel_rfl) (fun _ _ _ h => h) (Or.inl ⟨by rfl, by intro w hSw; have k0 := (hSw.cell (p := ⟨BB, 0, none⟩) B0.2.2.2.2).trans B0.1; have k1 := (hSw.cell (p := ⟨BB, 1, none⟩) B0.2.2.2.2).trans B0.2.1; go_simp⟩) (hS) ?_
  try simp only [Act.put, List.setIfInBounds_toArray, List.set_cons_zero, List.set_cons_succ]
  refine anyH_take 10 49 (.agg #[.int .i64 a, .int .i64 b]) rfl rfl (by kernel_rfl) (by kernel_rfl) (by kernel_rfl) (fun _ _ _ h => h) (Or.inl ⟨by rfl, by intro w hSw; have k0 := (hSw.cell (p := ⟨FB, 0, none⟩) F0.2.2.2.2).trans F0.1; have k1 := (hSw.cell (p := ⟨FB, 1, none⟩) F0.2.2.2.2).trans F0.2.1; go_simp⟩) (hS) ?_
  try simp only [Act.put, List.setIfInBounds_toArray, List.set_cons_zero, List.set_cons_succ]
  refine anyH_take 11 50 (.bool true) rfl rfl (by kernel_rfl) (by kernel_rfl) (by kernel_rfl) (fun _ _ _ h => h) (Or.inl ⟨by rfl, by intro w hSw; go_simp⟩) (hS) ?_
  try simp only [Act.put, List.setIfInBounds_toArray, List.set_cons_zero, List.set_cons_succ]
  refine anyH_take 12 51 (.bool true) rfl rfl (by kernel_rfl) (by kernel_rfl) (by kernel_rfl) (fun _ _ _ h => h) (Or.inl ⟨by rfl, by intro w hSw; go_simp⟩) (hS) ?_
  try simp only [Act.put, List.setIfInBounds_toArray, List.set_cons_zero, List.set_cons_succ]
  refine anyH_take 13 52 (.bool true) rfl rfl (by kernel_rfl) (by kernel_rfl) (by kernel_rfl) (fun _ _ _ h => h) (Or.inl ⟨by rfl, by intro w hSw; go_simp⟩) (hS) ?_
  try simp only [Act.put, List.setIfInBounds_toArray, List.set_cons_zero, List.set_cons_succ]
  refine wpAnyH_ready (rs := [14]) (by kernel_rfl) (by simp) ?_
  refine AllReadyH.cons rfl (fun K hK => ?_) AllReadyH.nil
  go_simp
  go_wp2_with (go_at_call 9; refine (awake_any _ E8.tab).mono ?_; rintro e w8 ⟨rfl, b8⟩; have E9 := E8.below b8)
  refine hK.out _ _ (hS.trans (b8.mono hS.size)) (fun hS => ?_)
  clear hK
  refine anyH_take 15 54 (.bool true) rfl rfl (by kernel_rfl) (by kernel_rfl) (by kernel_rfl) (fun _ _ _ h => h) (Or.inl ⟨by rfl, by intro w hSw; go_simp⟩) (hS) ?_
  try simp only [Act.put, List.setIfInBounds_toArray, List.set_cons_zero, List.set_cons_succ]
  refine anyH_take 16 4 (.bool true) rfl rfl (by kernel_rfl) (by kernel_rfl) (by kernel_rfl) (fun _ _ _ h => h) (Or.inl ⟨by rfl, by intro w hSw; go_simp⟩) (hS) ?_
  try simp only [Act.put, List.setIfInBounds_toArray, List.set_cons_zero, List.set_cons_succ]
  refine wpAnyH_done (by kernel_rfl) ?_ _
  go_wp2
  go_ret
  exact ⟨rfl, E9.old⟩

end Go.Proofs.YtkdaefaggbmbnaaDoor
