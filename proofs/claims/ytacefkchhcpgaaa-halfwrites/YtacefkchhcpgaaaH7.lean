/-
  What the law HalfFits returns.
-/
import Derived.Test.YtacefkchhcpgaaaH3
import Derived.Test.YtacefkchhcpgaaaH5
import Derived.Test.YtacefkchhcpgaaaH6
namespace Go.Proofs.Ytacefkchhcpgaaa
open Go.ChangeShapes Go.WideShapes Go.ChangeAt Go.RowKit
set_option linter.unusedVariables false
set_option linter.unusedSimpArgs false

theorem eqL_self (a : LS) : eqL a a = true := by unfold eqL eqN sameB; simp
theorem eqLs_self (a : List LS) : eqLs a a = true := eqLs_yes rfl fun j _ => eqL_self _
theorem eq1_self (a : HS) : a.eq1 a = true := by unfold HS.eq1; rw [eqLs_self]; simp
theorem eqHs_self (a : List HS) : eqHs a a = true := by
  unfold eqHs
  rw [List.all_eq_true.2 fun i _ => eq1_self _]
  simp
set_option maxRecDepth 100000 in
set_option maxHeartbeats 8000000 in
theorem fits_walk (id : Int) (h : HS) (a : Option Addr) (c : Nat) (la : Option Addr) (lc : Nat) (hs : List HS) (ma : Option Addr) (mc : Nat) (ks : List HS) (w : World) (R0 : RdO w h a c) (P0 : Hs w la hs.length lc hs) (Q0 : Hs w ma ks.length mc ks) : Calls Try.prog 3 #[.int .i64 id, (h.on a c).val, .slice la hs.length lc, .slice ma ks.length mc] w fun e w' => e = .returned (.bool true) ∧ Below w.heap.size w w' := by
  obtain ⟨W0, hW0⟩ : ∃ X, w.alloc (.cells #[.int .i64 h.peer, .int .i64 h.boot, .int .i64 h.life, .slice a h.ls.length c, .bool h.pend, .int .i64 h.miss] 24) = X := ⟨_, rfl⟩
  have BW : Below w.heap.size w W0 := by rw [← hW0]; exact (Below.refl _ _).alloc (Nat.le_refl _) _
  have T : W0.heap[w.heap.size]? = some (.cells (h.on a c).cells.toArray 24 (0, 0)) := by rw [← hW0]; exact heap_new rfl
  have R : RdO W0 h a c := RdL.below R0 BW
  have P := P0.below BW
  have Q := Q0.below BW
  obtain ⟨B1, hB1⟩ : ∃ B1, h.fit id = B1 := ⟨_, rfl⟩
  obtain ⟨B2, hB2⟩ : ∃ B2, fitsB id hs = B2 := ⟨_, rfl⟩
  obtain ⟨B3, hB3⟩ : ∃ B3, eqHs hs ks = B3 := ⟨_, rfl⟩
  have K8 := fun W (b : Below W0.heap.size W0 W) => hfit_any id h a c W (RdL.below R b)
  have K9 := fun W (b : Below W0.heap.size W0 W) => dfit_any id h a c W (RdL.below R b)
  have K10 := fun W (b : Below W0.heap.size W0 W) => fits_any id la lc hs W (P.below b)
  have K11 := fun W (b : Below W0.heap.size W0 W) => rfits_any id la lc hs W (P.below b)
  have K12 := fun W (b : Below W0.heap.size W0 W) => hsame_any la ma lc mc hs ks W (P.below b) (Q.below b)
  have K13 := fun W (b : Below W0.heap.size W0 W) => rsame_any la ma lc mc hs ks W (P.below b) (Q.below b)
  simp only [hB1] at K8 K9
  simp only [hB2] at K10 K11
  simp only [hB3] at K12 K13
  have HW : Hid (w.alloc (.cells #[.int .i64 h.peer, .int .i64 h.boot, .int .i64 h.life, .slice a h.ls.length c, .bool h.pend, .int .i64 h.miss] 24) = W0) := hW0
  clear hB1 hB2 hB3 hW0 R0 P0 Q0
  rw [show (h.on a c).val = .agg #[.int .i64 h.peer, .int .i64 h.boot, .int .i64 h.life, .slice a h.ls.length c, .bool h.pend, .int .i64 h.miss] from rfl]
  go_enter Try.func3, Try.ntmps3
  go_wp2
  rw [HW.out]
  clear HW
  refine wp_region_any (by kernel_rfl) ?_
  change wpAny _ _ _ _ _ _ _ (World.drew _)
  refine wpAny_narrow (fun W' => Below W0.heap.size W0 W') _ _ _ _ ?_
  refine anyH_take 0 9 (.int .i64 id) rfl rfl (by kernel_rfl) (by kernel_rfl) (by kernel_rfl) (fun _ _ _ h => h) (Or.inl ⟨by rfl, by intro w hSw; go_simp⟩) ((Below.refl _ _).drew) ?_
  try simp only [Act.put, List.setIfInBounds_toArray, List.set_cons_zero, List.set_cons_succ]
  refine anyH_take 1 10 ((h.on a c).val) rfl rfl (by kernel_rfl) (by kernel_rfl) (by kernel_rfl) (fun _ _ _ h => h) (Or.inl ⟨by rfl, fun X hSw => exec_load24 rfl w.heap.size 0 (h.on a c) rfl (range_rowH ((hSw.block _ (row_lt T)).trans T))⟩) ((Below.refl _ _).drew) ?_
  try simp only [Act.put, List.setIfInBounds_toArray, List.set_cons_zero, List.set_cons_succ]
  refine anyH_take 3 12 (.int .i64 id) rfl rfl (by kernel_rfl) (by kernel_rfl) (by kernel_rfl) (fun _ _ _ h => h) (Or.inl ⟨by rfl, by intro w hSw; go_simp⟩) ((Below.refl _ _).drew) ?_
  try simp only [Act.put, List.setIfInBounds_toArray, List.set_cons_zero, List.set_cons_succ]
  refine anyH_take 4 13 ((h.on a c).val) rfl rfl (by kernel_rfl) (by kernel_rfl) (by kernel_rfl) (fun _ _ _ h => h) (Or.inl ⟨by rfl, fun X hSw => exec_load24 rfl w.heap.size 0 (h.on a c) rfl (range_rowH ((hSw.block _ (row_lt T)).trans T))⟩) ((Below.refl _ _).drew) ?_
  try simp only [Act.put, List.setIfInBounds_toArray, List.set_cons_zero, List.set_cons_succ]
  refine wpAnyH_ready (rs := [2]) (by kernel_rfl) (by simp) ?_
  refine AllReadyH.cons rfl (fun K hK => ?_) AllReadyH.nil
  go_simp
  go_wp2_with (go_at_call 8; refine (K8 _ (Below.refl _ _).drew).mono ?_; rintro e w2 ⟨rfl, b2⟩)
  refine hK.out _ _ ((Below.refl _ _).drew.trans b2) (fun hS => ?_)
  clear hK
  refine wpAnyH_ready (rs := [5]) (by kernel_rfl) (by simp) ?_
  refine AllReadyH.cons rfl (fun K hK => ?_) AllReadyH.nil
  go_simp
  go_wp2_with (go_at_call 9; refine (K9 _ hS).mono ?_; rintro e w5 ⟨rfl, b5⟩)
  refine hK.out _ _ (hS.trans (b5.mono hS.size)) (fun hS => ?_)
  clear hK
  clear b5
  refine anyH_take 6 15 (.bool true) rfl rfl (by kernel_rfl) (by kernel_rfl) (by kernel_rfl) (fun _ _ _ h => h) (Or.inl ⟨by rfl, by intro w hSw; go_simp⟩) (hS) ?_
  try simp only [Act.put, List.setIfInBounds_toArray, List.set_cons_zero, List.set_cons_succ]
  refine anyH_take 7 16 (.bool true) rfl rfl (by kernel_rfl) (by kernel_rfl) (by kernel_rfl) (fun _ _ _ h => h) (Or.inl ⟨by rfl, by intro w hSw; go_simp⟩) (hS) ?_
  try simp only [Act.put, List.setIfInBounds_toArray, List.set_cons_zero, List.set_cons_succ]
  refine anyH_take 8 17 (.int .i64 id) rfl rfl (by kernel_rfl) (by kernel_rfl) (by kernel_rfl) (fun _ _ _ h => h) (Or.inl ⟨by rfl, by intro w hSw; go_simp⟩) (hS) ?_
  try simp only [Act.put, List.setIfInBounds_toArray, List.set_cons_zero, List.set_cons_succ]
  refine anyH_take 9 18 (.slice la hs.length lc) rfl rfl (by kernel_rfl) (by kernel_rfl) (by kernel_rfl) (fun _ _ _ h => h) (Or.inl ⟨by rfl, by intro w hSw; go_simp⟩) (hS) ?_
  try simp only [Act.put, List.setIfInBounds_toArray, List.set_cons_zero, List.set_cons_succ]
  refine anyH_take 11 20 (.int .i64 id) rfl rfl (by kernel_rfl) (by kernel_rfl) (by kernel_rfl) (fun _ _ _ h => h) (Or.inl ⟨by rfl, by intro w hSw; go_simp⟩) (hS) ?_
  try simp only [Act.put, List.setIfInBounds_toArray, List.set_cons_zero, List.set_cons_succ]
  refine anyH_take 12 21 (.slice la hs.length lc) rfl rfl (by kernel_rfl) (by kernel_rfl) (by kernel_rfl) (fun _ _ _ h => h) (Or.inl ⟨by rfl, by intro w hSw; go_simp⟩) (hS) ?_
  try simp only [Act.put, List.setIfInBounds_toArray, List.set_cons_zero, List.set_cons_succ]
  refine wpAnyH_ready (rs := [10]) (by kernel_rfl) (by simp) ?_
  refine AllReadyH.cons rfl (fun K hK => ?_) AllReadyH.nil
  go_simp
  go_wp2_with (go_at_call 10; refine (K10 _ hS).mono ?_; rintro e w10 ⟨rfl, b10⟩)
  refine hK.out _ _ (hS.trans (b10.mono hS.size)) (fun hS => ?_)
  clear hK
  clear b10
  refine wpAnyH_ready (rs := [13]) (by kernel_rfl) (by simp) ?_
  refine AllReadyH.cons rfl (fun K hK => ?_) AllReadyH.nil
  go_simp
  go_wp2_with (go_at_call 11; refine (K11 _ hS).mono ?_; rintro e w13 ⟨rfl, b13⟩)
  refine hK.out _ _ (hS.trans (b13.mono hS.size)) (fun hS => ?_)
  clear hK
  clear b13
  refine anyH_take 14 23 (.bool true) rfl rfl (by kernel_rfl) (by kernel_rfl) (by kernel_rfl) (fun _ _ _ h => h) (Or.inl ⟨by rfl, by intro w hSw; go_simp⟩) (hS) ?_
  try simp only [Act.put, List.setIfInBounds_toArray, List.set_cons_zero, List.set_cons_succ]
  refine anyH_take 15 24 (.bool true) rfl rfl (by kernel_rfl) (by kernel_rfl) (by kernel_rfl) (fun _ _ _ h => h) (Or.inl ⟨by rfl, by intro w hSw; go_simp⟩) (hS) ?_
  try simp only [Act.put, List.setIfInBounds_toArray, List.set_cons_zero, List.set_cons_succ]
  refine anyH_take 16 25 (.bool true) rfl rfl (by kernel_rfl) (by kernel_rfl) (by kernel_rfl) (fun _ _ _ h => h) (Or.inl ⟨by rfl, by intro w hSw; go_simp⟩) (hS) ?_
  try simp only [Act.put, List.setIfInBounds_toArray, List.set_cons_zero, List.set_cons_succ]
  refine anyH_take 17 26 (.slice la hs.length lc) rfl rfl (by kernel_rfl) (by kernel_rfl) (by kernel_rfl) (fun _ _ _ h => h) (Or.inl ⟨by rfl, by intro w hSw; go_simp⟩) (hS) ?_
  try simp only [Act.put, List.setIfInBounds_toArray, List.set_cons_zero, List.set_cons_succ]
  refine anyH_take 18 27 (.slice ma ks.length mc) rfl rfl (by kernel_rfl) (by kernel_rfl) (by kernel_rfl) (fun _ _ _ h => h) (Or.inl ⟨by rfl, by intro w hSw; go_simp⟩) (hS) ?_
  try simp only [Act.put, List.setIfInBounds_toArray, List.set_cons_zero, List.set_cons_succ]
  refine anyH_take 20 29 (.slice la hs.length lc) rfl rfl (by kernel_rfl) (by kernel_rfl) (by kernel_rfl) (fun _ _ _ h => h) (Or.inl ⟨by rfl, by intro w hSw; go_simp⟩) (hS) ?_
  try simp only [Act.put, List.setIfInBounds_toArray, List.set_cons_zero, List.set_cons_succ]
  refine anyH_take 21 30 (.slice ma ks.length mc) rfl rfl (by kernel_rfl) (by kernel_rfl) (by kernel_rfl) (fun _ _ _ h => h) (Or.inl ⟨by rfl, by intro w hSw; go_simp⟩) (hS) ?_
  try simp only [Act.put, List.setIfInBounds_toArray, List.set_cons_zero, List.set_cons_succ]
  refine wpAnyH_ready (rs := [19]) (by kernel_rfl) (by simp) ?_
  refine AllReadyH.cons rfl (fun K hK => ?_) AllReadyH.nil
  go_simp
  go_wp2_with (go_at_call 12; refine (K12 _ hS).mono ?_; rintro e w19 ⟨rfl, b19⟩)
  refine hK.out _ _ (hS.trans (b19.mono hS.size)) (fun hS => ?_)
  clear hK
  clear b19
  refine wpAnyH_ready (rs := [22]) (by kernel_rfl) (by simp) ?_
  refine AllReadyH.cons rfl (fun K hK => ?_) AllReadyH.nil
  go_simp
  go_wp2_with (go_at_call 13; refine (K13 _ hS).mono ?_; rintro e w22 ⟨rfl, b22⟩)
  refine hK.out _ _ (hS.trans (b22.mono hS.size)) (fun hS => ?_)
  clear hK
  clear b22
  refine anyH_take 23 32 (.bool true) rfl rfl (by kernel_rfl) (by kernel_rfl) (by kernel_rfl) (fun _ _ _ h => h) (Or.inl ⟨by rfl, by intro w hSw; go_simp⟩) (hS) ?_
  try simp only [Act.put, List.setIfInBounds_toArray, List.set_cons_zero, List.set_cons_succ]
  refine anyH_take 24 33 (.bool true) rfl rfl (by kernel_rfl) (by kernel_rfl) (by kernel_rfl) (fun _ _ _ h => h) (Or.inl ⟨by rfl, by intro w hSw; go_simp⟩) (hS) ?_
  try simp only [Act.put, List.setIfInBounds_toArray, List.set_cons_zero, List.set_cons_succ]
  refine anyH_take 25 34 (.bool true) rfl rfl (by kernel_rfl) (by kernel_rfl) (by kernel_rfl) (fun _ _ _ h => h) (Or.inl ⟨by rfl, by intro w hSw; go_simp⟩) (hS) ?_
  try simp only [Act.put, List.setIfInBounds_toArray, List.set_cons_zero, List.set_cons_succ]
  refine anyH_take 26 35 (.slice la hs.length lc) rfl rfl (by kernel_rfl) (by kernel_rfl) (by kernel_rfl) (fun _ _ _ h => h) (Or.inl ⟨by rfl, by intro w hSw; go_simp⟩) (hS) ?_
  try simp only [Act.put, List.setIfInBounds_toArray, List.set_cons_zero, List.set_cons_succ]
  refine anyH_take 27 36 (.slice la hs.length lc) rfl rfl (by kernel_rfl) (by kernel_rfl) (by kernel_rfl) (fun _ _ _ h => h) (Or.inl ⟨by rfl, by intro w hSw; go_simp⟩) (hS) ?_
  try simp only [Act.put, List.setIfInBounds_toArray, List.set_cons_zero, List.set_cons_succ]
  refine wpAnyH_ready (rs := [28]) (by kernel_rfl) (by simp) ?_
  refine AllReadyH.cons rfl (fun K hK => ?_) AllReadyH.nil
  go_simp
  go_wp2_with (go_at_call 14; refine (rcopy_any la lc hs _ (P.below hS)).mono ?_; rintro e w28 ⟨⟨a', c', rfl, H28⟩, b28⟩)
  refine hK.out _ _ (hS.trans (b28.mono hS.size)) (fun hS => ?_)
  clear hK
  clear b28
  refine wpAnyH_ready (rs := [29]) (by kernel_rfl) (by simp) ?_
  refine AllReadyH.cons rfl (fun K hK => ?_) AllReadyH.nil
  go_simp
  go_wp2_with (go_at_call 12; refine (hsame_any la a' lc c' hs hs _ (P.below hS) H28).mono ?_; rintro e w29 ⟨rfl, b29⟩; rw [eqHs_self])
  refine hK.out _ _ (hS.trans (b29.mono hS.size)) (fun hS => ?_)
  clear hK
  clear b29
  refine anyH_take 30 39 (.bool true) rfl rfl (by kernel_rfl) (by kernel_rfl) (by kernel_rfl) (fun _ _ _ h => h) (Or.inl ⟨by rfl, by intro w hSw; go_simp⟩) (hS) ?_
  try simp only [Act.put, List.setIfInBounds_toArray, List.set_cons_zero, List.set_cons_succ]
  refine anyH_take 31 40 (.bool true) rfl rfl (by kernel_rfl) (by kernel_rfl) (by kernel_rfl) (fun _ _ _ h => h) (Or.inl ⟨by rfl, by intro w hSw; go_simp⟩) (hS) ?_
  try simp only [Act.put, List.setIfInBounds_toArray, List.set_cons_zero, List.set_cons_succ]
  refine wpAnyH_ready (rs := [32]) (by kernel_rfl) (by simp) ?_
  refine AllReadyH.cons rfl (fun K hK => ?_) AllReadyH.nil
  go_simp
  go_wp2_with (go_at_call 15; refine (awake_any _).mono ?_; rintro e w32 ⟨rfl, b32⟩)
  refine hK.out _ _ (hS.trans (b32.mono hS.size)) (fun hS => ?_)
  clear hK
  refine anyH_take 33 42 (.bool true) rfl rfl (by kernel_rfl) (by kernel_rfl) (by kernel_rfl) (fun _ _ _ h => h) (Or.inl ⟨by rfl, by intro w hSw; go_simp⟩) (hS) ?_
  try simp only [Act.put, List.setIfInBounds_toArray, List.set_cons_zero, List.set_cons_succ]
  refine anyH_take 34 8 (.bool true) rfl rfl (by kernel_rfl) (by kernel_rfl) (by kernel_rfl) (fun _ _ _ h => h) (Or.inl ⟨by rfl, by intro w hSw; go_simp⟩) (hS) ?_
  try simp only [Act.put, List.setIfInBounds_toArray, List.set_cons_zero, List.set_cons_succ]
  refine wpAnyH_done (by kernel_rfl) ?_ _
  go_wp2
  go_ret
  exact ⟨rfl, BW.trans (hS.mono BW.size)⟩
end Go.Proofs.Ytacefkchhcpgaaa
