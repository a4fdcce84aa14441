/-
  What the law MissTells comes to.
-/
import Derived.Test.YtifkkkfejbgifaaW4
namespace Go.Proofs.Ytifkkkfejbgifaa
open Go.ChangeShapes Go.WideShapes Go.ChangeAt Go.RowKit
set_option linter.unusedVariables false
set_option linter.unusedSimpArgs false
attribute [local go_sem] Oper.semAt_some

set_option maxRecDepth 100000 in
set_option maxHeartbeats 16000000 in
theorem tells_fit (id : Int) (h : HS) (a : Option Addr) (c : Nat) (w : World) (R : RdO w h a c) (hf : h.fit id = true) : Calls Try.prog 3 #[.int .i64 id, (h.on a c).val] w fun e w' => e = .returned (.bool true) ∧ Below w.heap.size w w' := by
  have kf := (okF_fit hf).1
  have HLN0 : Hid (h.ls.length * 40 ≤ 140737488355328) := R.few
  obtain ⟨peer, boot, life, ls, pend, miss⟩ := h
  have C0 := (Bx.nil w).add rfl (.cells #[.int .i64 peer, .int .i64 boot, .int .i64 life, .slice a ls.length c, .bool pend, .int .i64 miss] 24)
  have R1 : RdO _ (HS.mk peer boot life ls pend miss) a c := R.below C0.below
  have K1 := lfit_any id (HS.mk peer boot life ls pend miss) a c _ R1
  rw [hf] at K1
  have K9 := fun a c W r => mturn_any (HS.mk peer boot life ls pend miss) a c W r kf
  have K10 := fun a c W r => rturn_any (HS.mk peer boot life ls pend miss) a c W r kf
  have KL := fun a c W => left_any (HS.mk peer boot life ls pend miss) a c W kf
  have KR := fun a c W => rleft_any (HS.mk peer boot life ls pend miss) a c W kf
  have HLY0 := Nat.mul_le_mul_right 40 (tn_lines (HS.mk peer boot life ls pend miss))
  obtain ⟨Y, hY⟩ : ∃ Y, tnH (HS.mk peer boot life ls pend miss) = Y := ⟨_, rfl⟩
  obtain ⟨z, hz⟩ : ∃ z, tnW (HS.mk peer boot life ls pend miss) = z := ⟨_, rfl⟩
  obtain ⟨y, hy⟩ : ∃ y, lfH (HS.mk peer boot life ls pend miss) = y := ⟨_, rfl⟩
  simp only [hY, hz] at K9 K10
  rw [hY] at HLY0
  simp only [hy] at KL KR
  have HLY : Hid (Y.ls.length * 40 ≤ 140737488355328) := Nat.le_trans HLY0 HLN0.out
  obtain ⟨H0, hH0⟩ : ∃ H0, (HS.mk peer boot life ls pend miss) = H0 := ⟨_, rfl⟩
  have HLN : Hid (H0.ls.length * 40 ≤ 140737488355328) := by rw [← hH0]; exact HLN0.out
  have HON : Hid (∀ a c, HS.on H0 a c = ⟨peer, boot, life, a, ls.length, c, pend, miss⟩) := fun a c => by rw [← hH0]; rfl
  have RW : RdO w H0 a c := by rw [← hH0]; exact R
  have HRL : Hid (∀ W a c, LstL W a ls.length c ls → RdO W H0 a c) := fun W a c L => by rw [← hH0]; exact L.rd HLN0.out
  simp only [hH0] at K9 K10 KL KR
  clear hf kf R1 hY hz hy HLY0 hH0 HLN0
  dsimp only [HS.on, HR.val] at K1 ⊢
  go_enter Try.func3, Try.ntmps3
  go_wp2_with (first
    | (go_at_call 7; refine K1.mono ?_; clear K1; rintro e w1 ⟨rfl, b1⟩; have B1 := C0.below.trans (b1.mono C0.below.size); have XH : w1.heap[w.heap.size]? = some (.cells #[.int .i64 peer, .int .i64 boot, .int .i64 life, .slice a ls.length c, .bool pend, .int .i64 miss] 24 (0, 0)) := (b1.block _ (row_lt (C0.at0 _ rfl))).trans (C0.at0 _ rfl); have ⟨q0, q1, q2, q3, q4, q5⟩ := cel6 XH; clear b1)
    | ((with_reducible show wpList _ _ _ (Oper.mk _ (Op.store 24 (Operand.tmp 5) _) _ _ _ _ :: _) _ _); refine wpList_put24 rfl _ _ rfl ⟨peer, boot, life, a, ls.length, c, pend, miss⟩ (g := w1.heap.size) (cs := z6) (heap_new rfl) rfl rfl rfl ?_; intro w2 T2 o2 z2; clear z2; have b2 := below_put o2; have hne : w.heap.size ≠ w1.heap.size := Nat.ne_of_lt (row_lt XH); have XH := (b2.block _ (row_lt XH)).trans XH; have B2 := B1.trans (b2.mono B1.size); have on3 : Only (at1 w1.heap.size) w2 (w2.setCell ⟨w1.heap.size, 3, none⟩ (.slice none 0 0)) := (Only.refl _ _).set 3 (.slice none 0 0); have B3 := B2.trans (on3.below B2.size (fun q hq => by cases hq; exact B1.size)); have R3 := R.below B3; have XH := set_far XH hne 3 (.slice none 0 0); have q3 := row_cell XH 3 (.slice a ls.length c) rfl; have ⟨p0, p1, p2, p3, p4, p5⟩ := cel6 T2; have ⟨f0, f1, f2, f3, f4, f5⟩ := fre6 T2)
    | ((with_reducible show wpList _ _ _ (Oper.mk _ (Op.call { callee := Callee.builtin Builtin.append, args := _, argTypes := #[22, 22] }) _ _ _ _ :: _) _ _); go_must (refine wpList_copy_lstL rfl _ _ rfl rfl rfl R3 ?_; intro a5 c5 w3 L5 n5 b3; have T3 := (b3.block _ (row_lt (set_row T2 3 (.slice none 0 0)))).trans (set_row T2 3 (.slice none 0 0)); have XH := (b3.block _ (row_lt XH)).trans XH; have B3' := B3.trans (b3.mono B3.size); have ⟨f0, f1, f2, f3, f4, f5⟩ := fre6 T3; have ⟨p0, p1, p2, p3, p4, p5⟩ := cel6 T3; have on4 : Only (at1 w1.heap.size) w3 (w3.setCell ⟨w1.heap.size, 3, none⟩ (.slice a5 ls.length c5)) := (Only.refl _ _).set 3 (.slice a5 ls.length c5); have B4 := B3'.trans (on4.below B3'.size (fun q hq => by cases hq; exact B1.size)); have L4 := L5.of_block (W' := w3.setCell ⟨w1.heap.size, 3, none⟩ (.slice a5 ls.length c5)) (fun g off e => on4.block g (L5.lt' e) (by intro hq; subst e; exact L5.ne_cells T3 (by decide) hq)); have V5 : Vr _ w1.heap.size H0 a5 c5 := ⟨(set_row T3 3 (.slice a5 ls.length c5)).trans (by rw [HON.out]; rfl), HRL.out _ _ _ L4⟩; have VH : Vr _ w.heap.size H0 a c := ⟨(set_far XH hne 3 (.slice a5 ls.length c5)).trans (by rw [HON.out]; rfl), RdL.below RW B4⟩))
    | ((with_reducible show wpList _ _ _ (Oper.mk _ (Op.load 24 (Operand.tmp 5)) _ _ _ _ :: _) _ _); refine wpList_load24 rfl _ rfl w1.heap.size 0 (H0.on a5 c5) rfl (range_rowH V5.at_) ?_)
    | (go_at_call 9; refine (K9 a5 c5 _ V5.rd).mono ?_; clear K9; rintro e w5 ⟨a6, c6, rfl, O6, b5⟩; have V5 := V5.later b5; have VH := VH.later b5; have B5 := B4.trans (b5.mono B4.size))
    | ((with_reducible show wpList _ _ _ (Oper.mk _ (Op.store 24 (Operand.tmp 6) _) _ _ _ _ :: _) _ _); refine wpList_put24 rfl _ _ rfl (Y.on a6 c6) (g := w5.heap.size) (cs := z6) (heap_new rfl) rfl rfl rfl ?_; intro w6 T6 o6 z6; clear z6; have b6 := below_put o6; have V5 := V5.later b6; have VH := VH.later b6; have B6 := B5.trans (b6.mono B5.size); have V6 : Vr w6 w5.heap.size Y a6 c6 := ⟨T6, RdL.below (O6.rd HLY.out) b6⟩)
    | ((with_reducible show wpList _ _ _ (Oper.mk _ (Op.load 24 (Operand.tmp 3)) _ _ _ _ :: _) _ _); refine wpList_load24 rfl _ rfl w.heap.size 0 (H0.on a c) rfl (range_rowH VH.at_) ?_)
    | (go_at_call 10; refine (K10 a c _ VH.rd).mono ?_; clear K10; rintro e w7 ⟨a8, c8, rfl, O8, b7⟩; have V5 := V5.later b7; have VH := VH.later b7; have V6 := V6.later b7; have B7 := B6.trans (b7.mono B6.size))
    | ((with_reducible show wpList _ _ _ (Oper.mk _ (Op.store 24 (Operand.tmp 8) _) _ _ _ _ :: _) _ _); refine wpList_put24 rfl _ _ rfl (Y.on a8 c8) (g := w7.heap.size) (cs := z6) (heap_new rfl) rfl rfl rfl ?_; intro w8 T8 o8 z8; clear z8; have b8 := below_put o8; have V5 := V5.later b8; have VH := VH.later b8; have V6 := V6.later b8; have B8 := B7.trans (b8.mono B7.size); have V8 : Vr w8 w7.heap.size Y a8 c8 := ⟨T8, RdL.below (O8.rd HLY.out) b8⟩))
  obtain ⟨g5, hg5⟩ : ∃ g, w1.heap.size = g := ⟨_, rfl⟩
  obtain ⟨g6, hg6⟩ : ∃ g, w5.heap.size = g := ⟨_, rfl⟩
  obtain ⟨g8, hg8⟩ : ∃ g, w7.heap.size = g := ⟨_, rfl⟩
  have V5' : Vr w8 g5 H0 a5 c5 := by rw [← hg5]; exact V5
  have V6' : Vr w8 g6 Y a6 c6 := by rw [← hg6]; exact V6
  have V8' : Vr w8 g8 Y a8 c8 := by rw [← hg8]; exact V8
  have HV5 : Hid (Vr w8 g5 H0 a5 c5) := V5'
  have HV6 : Hid (Vr w8 g6 Y a6 c6) := V6'
  have HV8 : Hid (Vr w8 g8 Y a8 c8) := V8'
  have HVH : Hid (Vr w8 w.heap.size H0 a c) := VH
  have HB8 : Hid (Below w.heap.size w w8) := B8
  simp only [hg5, hg6, hg8]
  clear V5 V6 V8 VH V5' V6' V8' B8
  have V5 := HV5.out
  have V6 := HV6.out
  have V8 := HV8.out
  have VH := HVH.out
  clear HV5 HV6 HV8 HVH
  refine wp_region_any (by kernel_rfl) ?_
  change wpAny _ _ _ _ _ _ _ (World.drew _)
  refine wpAny_narrow (fun W' => Below w8.heap.size w8 W') _ _ _ _ ?_
  refine anyH_take 0 35 ((Y.on a6 c6).val) rfl rfl (by kernel_rfl) (by kernel_rfl) (by kernel_rfl) (fun _ _ _ h => h) (Or.inl ⟨by rfl, fun X hSw => exec_load24 rfl g6 0 (Y.on a6 c6) rfl (range_rowH (V6.later hSw).at_)⟩) ((Below.refl _ _).drew) ?_
  try simp only [Act.put, List.setIfInBounds_toArray, List.set_cons_zero, List.set_cons_succ]
  refine anyH_take 1 36 ((Y.on a8 c8).val) rfl rfl (by kernel_rfl) (by kernel_rfl) (by kernel_rfl) (fun _ _ _ h => h) (Or.inl ⟨by rfl, fun X hSw => exec_load24 rfl g8 0 (Y.on a8 c8) rfl (range_rowH (V8.later hSw).at_)⟩) ((Below.refl _ _).drew) ?_
  try simp only [Act.put, List.setIfInBounds_toArray, List.set_cons_zero, List.set_cons_succ]
  refine wpAnyH_ready (rs := [2]) (by kernel_rfl) (by simp) ?_
  refine AllReadyH.cons rfl (fun K hK => ?_) AllReadyH.nil
  go_simp
  go_wp2_with (go_at_call 11; refine (same_self Y a6 a8 c6 c8 _ (V6.later ((Below.refl _ _).drew)).rd (V8.later ((Below.refl _ _).drew)).rd).mono ?_; rintro e w9 ⟨rfl, b9⟩)
  refine hK.out _ _ (((Below.refl _ _).drew).trans b9) (fun hS => ?_)
  clear hK
  refine anyH_take 3 38 (.bool false) rfl rfl (by kernel_rfl) (by kernel_rfl) (by kernel_rfl) (fun _ _ _ h => h) (Or.inl ⟨by rfl, by intro w hSw; go_simp⟩) (hS) ?_
  try simp only [Act.put, List.setIfInBounds_toArray, List.set_cons_zero, List.set_cons_succ]
  refine anyH_take 4 39 (.bool false) rfl rfl (by kernel_rfl) (by kernel_rfl) (by kernel_rfl) (fun _ _ _ h => h) (Or.inl ⟨by rfl, by intro w hSw; go_simp⟩) (hS) ?_
  try simp only [Act.put, List.setIfInBounds_toArray, List.set_cons_zero, List.set_cons_succ]
  refine anyH_take 5 40 (.int .i64 z) rfl rfl (by kernel_rfl) (by kernel_rfl) (by kernel_rfl) (fun _ _ _ h => h) (Or.inl ⟨by rfl, by intro w hSw; go_simp⟩) (hS) ?_
  try simp only [Act.put, List.setIfInBounds_toArray, List.set_cons_zero, List.set_cons_succ]
  refine anyH_take 6 41 (.int .i64 z) rfl rfl (by kernel_rfl) (by kernel_rfl) (by kernel_rfl) (fun _ _ _ h => h) (Or.inl ⟨by rfl, by intro w hSw; go_simp⟩) (hS) ?_
  try simp only [Act.put, List.setIfInBounds_toArray, List.set_cons_zero, List.set_cons_succ]
  refine anyH_take 7 42 (.bool false) rfl rfl (by kernel_rfl) (by kernel_rfl) (by kernel_rfl) (fun _ _ _ h => h) (Or.inl ⟨by rfl, by intro w hSw; go_simp⟩) (hS) ?_
  try simp only [Act.put, List.setIfInBounds_toArray, List.set_cons_zero, List.set_cons_succ]
  refine anyH_take 8 43 (.bool false) rfl rfl (by kernel_rfl) (by kernel_rfl) (by kernel_rfl) (fun _ _ _ h => h) (Or.inl ⟨by rfl, by intro w hSw; go_simp⟩) (hS) ?_
  try simp only [Act.put, List.setIfInBounds_toArray, List.set_cons_zero, List.set_cons_succ]
  refine anyH_take 9 44 (.bool false) rfl rfl (by kernel_rfl) (by kernel_rfl) (by kernel_rfl) (fun _ _ _ h => h) (Or.inl ⟨by rfl, by intro w hSw; go_simp⟩) (hS) ?_
  try simp only [Act.put, List.setIfInBounds_toArray, List.set_cons_zero, List.set_cons_succ]
  refine anyH_take 10 45 ((H0.on a5 c5).val) rfl rfl (by kernel_rfl) (by kernel_rfl) (by kernel_rfl) (fun _ _ _ h => h) (Or.inl ⟨by rfl, fun X hSw => exec_load24 rfl g5 0 (H0.on a5 c5) rfl (range_rowH (V5.later hSw).at_)⟩) (hS) ?_
  try simp only [Act.put, List.setIfInBounds_toArray, List.set_cons_zero, List.set_cons_succ]
  refine anyH_take 12 47 ((H0.on a c).val) rfl rfl (by kernel_rfl) (by kernel_rfl) (by kernel_rfl) (fun _ _ _ h => h) (Or.inl ⟨by rfl, fun X hSw => exec_load24 rfl w.heap.size 0 (H0.on a c) rfl (range_rowH (VH.later hSw).at_)⟩) (hS) ?_
  try simp only [Act.put, List.setIfInBounds_toArray, List.set_cons_zero, List.set_cons_succ]
  refine wpAnyH_ready (rs := [11]) (by kernel_rfl) (by simp) ?_
  refine AllReadyH.cons rfl (fun K hK => ?_) AllReadyH.nil
  go_simp
  go_wp2_with (go_at_call 12; refine (KL a5 c5 _).mono ?_; rintro e w10 ⟨rfl, b10⟩)
  refine hK.out _ _ (hS.trans (b10.mono hS.size)) (fun hS => ?_)
  clear hK
  refine wpAnyH_ready (rs := [13]) (by kernel_rfl) (by simp) ?_
  refine AllReadyH.cons rfl (fun K hK => ?_) AllReadyH.nil
  go_simp
  go_wp2_with (go_at_call 13; refine (KR a c _).mono ?_; rintro e w11 ⟨rfl, b11⟩)
  refine hK.out _ _ (hS.trans (b11.mono hS.size)) (fun hS => ?_)
  clear hK
  refine anyH_take 14 49 (.bool false) rfl rfl (by kernel_rfl) (by kernel_rfl) (by kernel_rfl) (fun _ _ _ h => h) (Or.inl ⟨by rfl, by intro w hSw; go_simp⟩) (hS) ?_
  try simp only [Act.put, List.setIfInBounds_toArray, List.set_cons_zero, List.set_cons_succ]
  refine anyH_take 15 50 (.bool false) rfl rfl (by kernel_rfl) (by kernel_rfl) (by kernel_rfl) (fun _ _ _ h => h) (Or.inl ⟨by rfl, by intro w hSw; go_simp⟩) (hS) ?_
  try simp only [Act.put, List.setIfInBounds_toArray, List.set_cons_zero, List.set_cons_succ]
  refine wpAnyH_done (by kernel_rfl) ?_ _
  go_wp2
  refine wp_region_any (by kernel_rfl) ?_
  change wpAny _ _ _ _ _ _ _ (World.drew _)
  refine wpAny_narrow (fun W' => Below w8.heap.size w8 W') _ _ _ _ ?_
  refine anyH_take 0 51 ((H0.on a5 c5).val) rfl rfl (by kernel_rfl) (by kernel_rfl) (by kernel_rfl) (fun _ _ _ h => h) (Or.inl ⟨by rfl, fun X hSw => exec_load24 rfl g5 0 (H0.on a5 c5) rfl (range_rowH (V5.later hSw).at_)⟩) (hS.drew) ?_
  try simp only [Act.put, List.setIfInBounds_toArray, List.set_cons_zero, List.set_cons_succ]
  refine anyH_take 2 53 ((H0.on a c).val) rfl rfl (by kernel_rfl) (by kernel_rfl) (by kernel_rfl) (fun _ _ _ h => h) (Or.inl ⟨by rfl, fun X hSw => exec_load24 rfl w.heap.size 0 (H0.on a c) rfl (range_rowH (VH.later hSw).at_)⟩) (hS.drew) ?_
  try simp only [Act.put, List.setIfInBounds_toArray, List.set_cons_zero, List.set_cons_succ]
  refine wpAnyH_ready (rs := [1]) (by kernel_rfl) (by simp) ?_
  refine AllReadyH.cons rfl (fun K hK => ?_) AllReadyH.nil
  go_simp
  go_wp2_with (go_at_call 14; refine (masked_any H0 a5 c5 _ (V5.later hS.drew).rd).mono ?_; rintro e w12 ⟨a12, c12, rfl, O12, b12⟩)
  refine hK.out _ _ (hS.drew.trans (b12.mono hS.drew.size)) (fun hS => ?_)
  clear hK
  refine wpAnyH_ready (rs := [3]) (by kernel_rfl) (by simp) ?_
  refine AllReadyH.cons rfl (fun K hK => ?_) AllReadyH.nil
  go_simp
  go_wp2_with (go_at_call 15; refine (rasked_any H0 a c _ (VH.later hS).rd).mono ?_; rintro e w13 ⟨a13, c13, rfl, O13, b13⟩)
  refine hK.out _ _ (hS.trans (b13.mono hS.size)) (fun hS => ?_)
  clear hK
  refine wpAnyH_ready (rs := [4]) (by kernel_rfl) (by simp) ?_
  refine AllReadyH.cons rfl (fun K hK => ?_) AllReadyH.nil
  go_simp
  go_wp2_with (go_at_call 11; refine (same_self (asH H0) a12 a13 c12 c13 _ (RdL.below (O12.rd HLN.out) b13) (O13.rd HLN.out)).mono ?_; rintro e w14 ⟨rfl, b14⟩)
  refine hK.out _ _ (hS.trans (b14.mono hS.size)) (fun hS => ?_)
  clear hK
  refine anyH_take 5 56 (.bool false) rfl rfl (by kernel_rfl) (by kernel_rfl) (by kernel_rfl) (fun _ _ _ h => h) (Or.inl ⟨by rfl, by intro w hSw; go_simp⟩) (hS) ?_
  try simp only [Act.put, List.setIfInBounds_toArray, List.set_cons_zero, List.set_cons_succ]
  refine anyH_take 6 57 (.bool false) rfl rfl (by kernel_rfl) (by kernel_rfl) (by kernel_rfl) (fun _ _ _ h => h) (Or.inl ⟨by rfl, by intro w hSw; go_simp⟩) (hS) ?_
  try simp only [Act.put, List.setIfInBounds_toArray, List.set_cons_zero, List.set_cons_succ]
  refine anyH_take 7 58 ((H0.on a5 c5).val) rfl rfl (by kernel_rfl) (by kernel_rfl) (by kernel_rfl) (fun _ _ _ h => h) (Or.inl ⟨by rfl, fun X hSw => exec_load24 rfl g5 0 (H0.on a5 c5) rfl (range_rowH (V5.later hSw).at_)⟩) (hS) ?_
  try simp only [Act.put, List.setIfInBounds_toArray, List.set_cons_zero, List.set_cons_succ]
  refine anyH_take 9 60 ((H0.on a c).val) rfl rfl (by kernel_rfl) (by kernel_rfl) (by kernel_rfl) (fun _ _ _ h => h) (Or.inl ⟨by rfl, fun X hSw => exec_load24 rfl w.heap.size 0 (H0.on a c) rfl (range_rowH (VH.later hSw).at_)⟩) (hS) ?_
  try simp only [Act.put, List.setIfInBounds_toArray, List.set_cons_zero, List.set_cons_succ]
  refine wpAnyH_ready (rs := [8]) (by kernel_rfl) (by simp) ?_
  refine AllReadyH.cons rfl (fun K hK => ?_) AllReadyH.nil
  go_simp
  go_wp2_with (go_at_call 16; refine (mheard_any H0 a5 c5 _ (V5.later hS).rd).mono ?_; rintro e w15 ⟨a15, c15, rfl, O15, b15⟩)
  refine hK.out _ _ (hS.trans (b15.mono hS.size)) (fun hS => ?_)
  clear hK
  refine wpAnyH_ready (rs := [10]) (by kernel_rfl) (by simp) ?_
  refine AllReadyH.cons rfl (fun K hK => ?_) AllReadyH.nil
  go_simp
  go_wp2_with (go_at_call 17; refine (rheard_any H0 a c _ (VH.later hS).rd).mono ?_; rintro e w16 ⟨a16, c16, rfl, O16, b16⟩)
  refine hK.out _ _ (hS.trans (b16.mono hS.size)) (fun hS => ?_)
  clear hK
  refine wpAnyH_ready (rs := [11]) (by kernel_rfl) (by simp) ?_
  refine AllReadyH.cons rfl (fun K hK => ?_) AllReadyH.nil
  go_simp
  go_wp2_with (go_at_call 11; refine (same_self (heH H0) a15 a16 c15 c16 _ (RdL.below (O15.rd HLN.out) b16) (O16.rd HLN.out)).mono ?_; rintro e w17 ⟨rfl, b17⟩)
  refine hK.out _ _ (hS.trans (b17.mono hS.size)) (fun hS => ?_)
  clear hK
  refine anyH_take 12 63 (.bool false) rfl rfl (by kernel_rfl) (by kernel_rfl) (by kernel_rfl) (fun _ _ _ h => h) (Or.inl ⟨by rfl, by intro w hSw; go_simp⟩) (hS) ?_
  try simp only [Act.put, List.setIfInBounds_toArray, List.set_cons_zero, List.set_cons_succ]
  refine anyH_take 13 64 (.bool false) rfl rfl (by kernel_rfl) (by kernel_rfl) (by kernel_rfl) (fun _ _ _ h => h) (Or.inl ⟨by rfl, by intro w hSw; go_simp⟩) (hS) ?_
  try simp only [Act.put, List.setIfInBounds_toArray, List.set_cons_zero, List.set_cons_succ]
  refine wpAnyH_done (by kernel_rfl) ?_ _
  have HS17 : Hid (Below w8.heap.size w8 w17) := hS
  have HV5 : Hid (Vr w17 g5 H0 a5 c5) := V5.later hS
  have HVH : Hid (Vr w17 w.heap.size H0 a c) := VH.later hS
  have HB17 : Hid (Below w.heap.size w w17) := HB8.out.trans (hS.mono HB8.out.size)
  clear hS V5 VH V6 V8
  have V5 := HV5.out
  have VH := HVH.out
  have K18 := manswered_any H0 a5 c5 _ V5.rd
  go_wp2_with (first
    | ((with_reducible show wpList _ _ _ (Oper.mk _ (Op.load 24 (Operand.tmp 5)) _ _ _ _ :: _) _ _); refine wpList_load24 rfl _ rfl g5 0 (H0.on a5 c5) rfl (range_rowH V5.at_) ?_)
    | (go_at_call 18; refine K18.mono ?_; clear K18; rintro e w18 ⟨a18, c18, rfl, O18, b18⟩; have VH := VH.later b18)
    | ((with_reducible show wpList _ _ _ (Oper.mk _ (Op.store 24 (Operand.tmp 10) _) _ _ _ _ :: _) _ _); refine wpList_put24 rfl _ _ rfl ((anH H0).on a18 c18) (g := w18.heap.size) (cs := z6) (heap_new rfl) rfl rfl rfl ?_; intro w19 T10 o19 z19; clear z19; have b19 := below_put o19; have VH9 := VH.later b19; have V10 : Vr w19 w18.heap.size (anH H0) a18 c18 := ⟨T10, RdL.below (O18.rd HLN.out) b19⟩))
  obtain ⟨g10, hg10⟩ : ∃ g, w18.heap.size = g := ⟨_, rfl⟩
  have HO19 : Hid (Own w17.heap.size w19 (anH H0) a18 c18) := O18.below b19
  have HB19 : Hid (Below w17.heap.size w17 w19) := b18.trans (b19.mono b18.size)
  have HV10 : Hid (Vr w19 g10 (anH H0) a18 c18) := by rw [← hg10]; exact V10
  have HVH9 : Hid (Vr w19 w.heap.size H0 a c) := VH9
  simp only [hg10]
  clear V10 VH9 V5 VH
  have V10 := HV10.out
  have VH9 := HVH9.out
  refine wp_region_any (by kernel_rfl) ?_
  change wpAny _ _ _ _ _ _ _ (World.drew _)
  refine wpAny_narrow (fun W' => Below w19.heap.size w19 W') _ _ _ _ ?_
  refine anyH_take 0 67 (((anH H0).on a18 c18).val) rfl rfl (by kernel_rfl) (by kernel_rfl) (by kernel_rfl) (fun _ _ _ h => h) (Or.inl ⟨by rfl, fun X hSw => exec_load24 rfl g10 0 ((anH H0).on a18 c18) rfl (range_rowH (V10.later hSw).at_)⟩) ((Below.refl _ _).drew) ?_
  try simp only [Act.put, List.setIfInBounds_toArray, List.set_cons_zero, List.set_cons_succ]
  refine anyH_take 1 68 ((H0.on a c).val) rfl rfl (by kernel_rfl) (by kernel_rfl) (by kernel_rfl) (fun _ _ _ h => h) (Or.inl ⟨by rfl, fun X hSw => exec_load24 rfl w.heap.size 0 (H0.on a c) rfl (range_rowH (VH9.later hSw).at_)⟩) ((Below.refl _ _).drew) ?_
  try simp only [Act.put, List.setIfInBounds_toArray, List.set_cons_zero, List.set_cons_succ]
  refine wpAnyH_ready (rs := [2]) (by kernel_rfl) (by simp) ?_
  refine AllReadyH.cons rfl (fun K hK => ?_) AllReadyH.nil
  go_simp
  go_wp2_with (go_at_call 19; refine (ranswered_any H0 a c _ (VH9.later ((Below.refl _ _).drew)).rd).mono ?_; rintro e w20 ⟨a20, c20, rfl, O20, b20⟩)
  refine hK.out _ _ (((Below.refl _ _).drew).trans b20) (fun hS => ?_)
  clear hK
  refine wpAnyH_ready (rs := [3]) (by kernel_rfl) (by simp) ?_
  refine AllReadyH.cons rfl (fun K hK => ?_) AllReadyH.nil
  go_simp
  go_wp2_with (go_at_call 11; refine (same_self (anH H0) a18 a20 c18 c20 _ (V10.later hS).rd (O20.rd HLN.out)).mono ?_; rintro e w21 ⟨rfl, b21⟩)
  refine hK.out _ _ (hS.trans (b21.mono hS.size)) (fun hS => ?_)
  clear hK
  refine anyH_take 4 71 (.bool false) rfl rfl (by kernel_rfl) (by kernel_rfl) (by kernel_rfl) (fun _ _ _ h => h) (Or.inl ⟨by rfl, by intro w hSw; go_simp⟩) (hS) ?_
  try simp only [Act.put, List.setIfInBounds_toArray, List.set_cons_zero, List.set_cons_succ]
  refine wpAnyH_done (by kernel_rfl) ?_ _
  have HS0 : Hid (Spo w17.heap.size w17 g10 (anH H0) a18 c18 w21) := Spo.start (HB19.out.trans (hS.mono HB19.out.size)) (V10.later hS).at_ (HO19.out.below hS)
  have p3 := row_cell (V10.later hS).at_ 3 (.slice a18 H0.ls.length c18) rfl
  clear hS V10 VH9 HO19 HB19 HV10 HVH9
  go_wp2
  go_loopg [75] H0.ls.length (fun gk v75 wr => ∃ j : Nat, v75 = .int .i64 (j : Int) ∧ j + gk = H0.ls.length ∧ Spo w17.heap.size w17 g10 (anH H0) a18 c18 wr)
  case atStart => exact ⟨0, by first | rfl | go_num, by omega, HS0.out⟩
  case round =>
    obtain ⟨j, rfl, hgj, Sj⟩ := hrel
    clear HS0 p3
    have rP : wr.cell? ⟨g10, 3, none⟩ = some (.slice a18 H0.ls.length c18) := row_cell Sj.tb_ 3 _ rfl
    by_cases hj : j < H0.ls.length
    case pos =>
      have hjI : (j : Int) < (H0.ls.length : Int) := by omega
      have hwj : IntKind.i64.wrap ((j : Int) + 1) = (j : Int) + 1 := by rw [IntKind.wrap_i64]; have := HLN.out; omega
      rcases Sj.ls with h0 | ⟨g2, o2, cur, e1, e2, e3, e4⟩
      · replace h0 : H0.ls.length = 0 := h0
        omega
      · subst e1
        replace e4 : o2 + 4 * H0.ls.length ≤ cur.size := e4
        have hlt : o2 + j * 4 < cur.size := by omega
        have c9' : wr.cell? ⟨g2, o2 + j * 4, none⟩ = some (cur[o2 + j * 4]'hlt) := row_cell e3 _ _ (Array.getElem?_eq_getElem hlt)
        have f9 : wr.frozen? ⟨g2, o2 + j * 4, none⟩ = false := row_free e3 _
        have S9 := Sj.set e2 e3 (o2 + j * 4) (.string { data := #[111, 116, 104, 101, 114] })
        clear e4 e3
        go_wp2
        go_roundg (gk - 1)
        case measure => omega
        case rel => exact ⟨j + 1, by first | rfl | go_num, by omega, S9⟩
    case neg =>
      have hjI : ¬ (j : Int) < (H0.ls.length : Int) := by omega
      have V5 := HV5.out.later Sj.below
      have VH := HVH.out.later Sj.below
      have BX := HB17.out.trans (Sj.below.mono HB17.out.size)
      clear Sj
      go_wp2_with (first
        | ((with_reducible show wpList _ _ _ (Oper.mk _ (Op.load 24 (Operand.tmp 5)) _ _ _ _ :: _) _ _); refine wpList_load24 rfl _ rfl g5 0 (H0.on a5 c5) rfl (range_rowH V5.at_) ?_)
        | ((with_reducible show wpList _ _ _ (Oper.mk _ (Op.load 24 (Operand.tmp 3)) _ _ _ _ :: _) _ _); refine wpList_load24 rfl _ rfl w.heap.size 0 (H0.on a c) rfl (range_rowH VH.at_) ?_)
        | (go_at_call 11; refine (same_self H0 a5 a c5 c _ V5.rd VH.rd).mono ?_; rintro e w25 ⟨rfl, b25⟩; have B25 := BX.trans (b25.mono BX.size))
        | (go_at_call 8; refine (awake_any _).mono ?_; rintro e w26 ⟨rfl, b26⟩; have B26 := B25.trans (b26.mono B25.size)))
      go_ret
      exact ⟨rfl, B26⟩
theorem tells_walk (id : Int) (h : HS) (a : Option Addr) (c : Nat) (w : World) (R : RdO w h a c) : Calls Try.prog 3 #[.int .i64 id, (h.on a c).val] w fun e w' => e = .returned (.bool true) ∧ Below w.heap.size w w' := by
  cases hf : h.fit id with
  | true => exact tells_fit id h a c w R hf
  | false => exact tells_unfit id h a c w R hf
end Go.Proofs.Ytifkkkfejbgifaa
