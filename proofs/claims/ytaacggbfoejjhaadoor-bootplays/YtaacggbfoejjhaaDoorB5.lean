/-
  Package boot: the number that stands in a record.
-/
import Derived.Test.YtaacggbfoejjhaaDoorB4
namespace Go.Proofs.YtaacggbfoejjhaaDoor
open Go.ChangeShapes Go.WideShapes Go.ChangeAt Go.RowKit
open D
set_option linter.unusedVariables false
set_option linter.unusedSimpArgs false

theorem wrap_fit (t : Nat) (h : t < 18446744073709551616) : (decide (1 ≤ IntKind.i64.wrap (t : Int)) && decide (IntKind.i64.wrap (t : Int) ≤ 1099511627776)) = fitB t := by
  unfold fitB
  rw [Bool.eq_iff_iff]
  simp only [Bool.and_eq_true, decide_eq_true_eq, IntKind.wrap_i64]
  omega
theorem wrap_is (t : Nat) (h : fitB t = true) : IntKind.i64.wrap (t : Int) = (t : Int) := by
  unfold fitB at h
  simp only [Bool.and_eq_true, decide_eq_true_eq] at h
  rw [IntKind.wrap_i64]
  omega
theorem stand_no {zs : List Int} (h : fitB (tell (zs.take 8)) = false) : stand zs = 0 := by
  unfold stand
  rw [if_neg (by rintro ⟨h1, _⟩; rw [h] at h1; cases h1)]
theorem stand_ne {zs : List Int} (h : (zs == recd (tell (zs.take 8))) = false) : stand zs = 0 := by
  unfold stand
  rw [if_neg (by rintro ⟨_, h1⟩; rw [beq_eq_false_iff_ne] at h; exact h h1)]
theorem stand_eq {zs : List Int} (hf : fitB (tell (zs.take 8)) = true) (h : (zs == recd (tell (zs.take 8))) = true) : stand zs = tell (zs.take 8) := by
  unfold stand
  rw [if_pos ⟨hf, beq_iff_eq.1 h⟩]
set_option maxHeartbeats 4000000 in
theorem number_no (zs : List Int) (w : World) (hz : zs.length = 32) (hb : Byt zs) (ht : S.Tab w) (hf : fitB (tell (zs.take 8)) = false) : Calls Tryd.prog 44 #[vb zs] w fun e w' => e = .returned (.int .i64 (0)) ∧ Below w.heap.size w w' := by
  have htl := tell_lt (zs.take 8) (fun c hc => hb c (List.mem_of_mem_take hc))
  rw [List.length_take, Nat.min_eq_left (by omega)] at htl
  have hwf := wrap_fit (tell (zs.take 8)) htl
  rw [hf] at hwf
  obtain ⟨t, HT⟩ : ∃ t, Hid (tell (zs.take 8) = t) := ⟨_, rfl⟩
  rw [HT.out] at hwf htl
  obtain ⟨x, HX⟩ : ∃ x, IntKind.i64.wrap (t : Int) = x := ⟨_, rfl⟩
  rw [HX] at hwf
  have HX2 : wrap64 (t : Int) = x := by rw [← HX, IntKind.wrap_i64]; unfold wrap64; with_reducible rfl
  clear HX
  go_enter Tryd.func44, Tryd.ntmps44
  go_wp2_with (first
    | ((with_reducible show wpList _ _ _ (Oper.mk _ (Op.box 54 _) _ _ _ _ :: _) _ _); refine wpList_boxB rfl 54 _ rfl zs rfl ?_; intro w1 N1; have R1 := N1.blk.row hb 0 8 16 (by omega) (by omega); rw [List.drop_zero] at R1)
    | (go_at_call 51; refine (told_any _ 8 16 _ w1 R1 (by omega)).mono ?_; rintro e w2 ⟨rfl, hw⟩; rw [hw, HT.out]; clear hw))
  obtain ⟨wd, hwd⟩ : ∃ wd, World.drew w1 = wd := ⟨_, rfl⟩
  refine wp_region_any (by kernel_rfl) ?_
  change wpAny _ _ _ _ _ _ _ (World.drew _)
  rw [hwd]
  have Bd : Blk wd w.heap.size 54 zs := by rw [← hwd]; exact N1.blk
  have Od : Below w.heap.size w wd := by rw [← hwd]; exact N1.below.drew
  have Td : S.Tab wd := by rw [← hwd]; exact (ht.below N1.below).drew
  clear hwd N1 R1
  refine wpAny_narrow (fun X => Below wd.heap.size wd X) _ _ _ _ ?_
  refine anyH_take 0 8 (.int .i64 x) rfl rfl (by kernel_rfl) (by kernel_rfl) (by kernel_rfl) (fun _ _ _ h => h) (Or.inl ⟨by rfl, by intro X hSw; go_simp⟩) (Below.refl _ _) ?_
  try simp only [Act.put, List.setIfInBounds_toArray, List.set_cons_zero, List.set_cons_succ]
  refine wpAnyH_ready (rs := [1]) (by kernel_rfl) (by simp) ?_
  refine AllReadyH.cons rfl (fun K hK => ?_) AllReadyH.nil
  go_simp
  go_wp2_with (go_at_call 37; refine (fit_any x wd).mono ?_; rintro e w3 ⟨rfl, hw⟩; rw [hw, hwf]; clear hw)
  refine hK.out _ _ (Below.refl _ _) (fun hS => ?_)
  clear hK hS
  refine anyH_take 2 10 (.bool true) rfl rfl (by kernel_rfl) (by kernel_rfl) (by kernel_rfl) (fun _ _ _ h => h) (Or.inl ⟨by rfl, by intro X hSw; go_simp⟩) (Below.refl _ _) ?_
  try simp only [Act.put, List.setIfInBounds_toArray, List.set_cons_zero, List.set_cons_succ]
  refine anyH_take 3 11 (.bool true) rfl rfl (by kernel_rfl) (by kernel_rfl) (by kernel_rfl) (fun _ _ _ h => h) (Or.inl ⟨by rfl, by intro X hSw; go_simp⟩) (Below.refl _ _) ?_
  try simp only [Act.put, List.setIfInBounds_toArray, List.set_cons_zero, List.set_cons_succ]
  refine anyH_take 4 12 (undef) rfl rfl (by kernel_rfl) (by kernel_rfl) (by kernel_rfl) (fun _ _ _ h => h) (Or.inr ⟨by rfl, rfl⟩) (Below.refl _ _) ?_
  try simp only [Act.put, List.setIfInBounds_toArray, List.set_cons_zero, List.set_cons_succ]
  refine anyH_take 5 13 (undef) rfl rfl (by kernel_rfl) (by kernel_rfl) (by kernel_rfl) (fun _ _ _ h => h) (Or.inr ⟨by rfl, rfl⟩) (Below.refl _ _) ?_
  try simp only [Act.put, List.setIfInBounds_toArray, List.set_cons_zero, List.set_cons_succ]
  refine anyH_take 6 14 (undef) rfl rfl (by kernel_rfl) (by kernel_rfl) (by kernel_rfl) (fun _ _ _ h => h) (Or.inr ⟨by rfl, rfl⟩) (Below.refl _ _) ?_
  try simp only [Act.put, List.setIfInBounds_toArray, List.set_cons_zero, List.set_cons_succ]
  refine anyH_take 7 15 (undef) rfl rfl (by kernel_rfl) (by kernel_rfl) (by kernel_rfl) (fun _ _ _ h => h) (Or.inr ⟨by rfl, rfl⟩) (Below.refl _ _) ?_
  try simp only [Act.put, List.setIfInBounds_toArray, List.set_cons_zero, List.set_cons_succ]
  refine anyH_take 8 16 (.bool true) rfl rfl (by kernel_rfl) (by kernel_rfl) (by kernel_rfl) (fun _ _ _ h => h) (Or.inl ⟨by rfl, by intro X hSw; go_simp⟩) (Below.refl _ _) ?_
  try simp only [Act.put, List.setIfInBounds_toArray, List.set_cons_zero, List.set_cons_succ]
  refine wpAnyH_done (by kernel_rfl) ?_ _
  go_wp2
  go_ret
  exact ⟨rfl, Od⟩
set_option maxHeartbeats 4000000 in
theorem number_ne (zs : List Int) (w : World) (hz : zs.length = 32) (hb : Byt zs) (ht : S.Tab w) (hf : fitB (tell (zs.take 8)) = true) (hq : (zs == recd (tell (zs.take 8))) = false) : Calls Tryd.prog 44 #[vb zs] w fun e w' => e = .returned (.int .i64 (0)) ∧ Below w.heap.size w w' := by
  have htl := tell_lt (zs.take 8) (fun c hc => hb c (List.mem_of_mem_take hc))
  rw [List.length_take, Nat.min_eq_left (by omega)] at htl
  have hwf := wrap_fit (tell (zs.take 8)) htl
  have hwi := wrap_is _ hf
  rw [hf] at hwf
  obtain ⟨t, HT⟩ : ∃ t, Hid (tell (zs.take 8) = t) := ⟨_, rfl⟩
  rw [HT.out] at hwf htl hwi hf hq
  rw [hwi] at hwf
  go_enter Tryd.func44, Tryd.ntmps44
  go_wp2_with (first
    | ((with_reducible show wpList _ _ _ (Oper.mk _ (Op.box 54 _) _ _ _ _ :: _) _ _); refine wpList_boxB rfl 54 _ rfl zs rfl ?_; intro w1 N1; have R1 := N1.blk.row hb 0 8 16 (by omega) (by omega); rw [List.drop_zero] at R1)
    | (go_at_call 51; refine (told_any _ 8 16 _ w1 R1 (by omega)).mono ?_; rintro e w2 ⟨rfl, hw⟩; rw [hw, HT.out]; clear hw))
  obtain ⟨wd, hwd⟩ : ∃ wd, World.drew w1 = wd := ⟨_, rfl⟩
  refine wp_region_any (by kernel_rfl) ?_
  change wpAny _ _ _ _ _ _ _ (World.drew _)
  rw [hwd]
  have Bd : Blk wd w.heap.size 54 zs := by rw [← hwd]; exact N1.blk
  have Od : Below w.heap.size w wd := by rw [← hwd]; exact N1.below.drew
  have Td : S.Tab wd := by rw [← hwd]; exact (ht.below N1.below).drew
  clear hwd N1 R1
  refine wpAny_narrow (fun X => Below wd.heap.size wd X) _ _ _ _ ?_
  refine anyH_take 0 8 (.int .i64 (t : Int)) rfl rfl (by kernel_rfl) (by kernel_rfl) (by kernel_rfl) (fun _ _ _ h => h) (Or.inl ⟨by rfl, by intro X hSw; go_simp⟩) (Below.refl _ _) ?_
  try simp only [Act.put, List.setIfInBounds_toArray, List.set_cons_zero, List.set_cons_succ]
  refine wpAnyH_ready (rs := [1]) (by kernel_rfl) (by simp) ?_
  refine AllReadyH.cons rfl (fun K hK => ?_) AllReadyH.nil
  go_simp
  go_wp2_with (go_at_call 37; refine (fit_any (t : Int) wd).mono ?_; rintro e w3 ⟨rfl, hw⟩; rw [hw, hwf]; clear hw)
  refine hK.out _ _ (Below.refl _ _) (fun hS => ?_)
  clear hK hS
  refine anyH_take 2 10 (.bool false) rfl rfl (by kernel_rfl) (by kernel_rfl) (by kernel_rfl) (fun _ _ _ h => h) (Or.inl ⟨by rfl, by intro X hSw; go_simp⟩) (Below.refl _ _) ?_
  try simp only [Act.put, List.setIfInBounds_toArray, List.set_cons_zero, List.set_cons_succ]
  refine anyH_take 3 11 (.bool false) rfl rfl (by kernel_rfl) (by kernel_rfl) (by kernel_rfl) (fun _ _ _ h => h) (Or.inl ⟨by rfl, by intro X hSw; go_simp⟩) (Below.refl _ _) ?_
  try simp only [Act.put, List.setIfInBounds_toArray, List.set_cons_zero, List.set_cons_succ]
  refine anyH_take 4 12 (vb zs) rfl rfl (by kernel_rfl) (by kernel_rfl) (by kernel_rfl) (fun _ _ _ h => h) (Or.inl ⟨by rfl, fun X hSw => exec_loadB 54 32 arr54 rfl rfl (Bd.below hSw).whole hz⟩) (Below.refl _ _) ?_
  try simp only [Act.put, List.setIfInBounds_toArray, List.set_cons_zero, List.set_cons_succ]
  refine anyH_take 5 13 (.int .i64 (t : Int)) rfl rfl (by kernel_rfl) (by kernel_rfl) (by kernel_rfl) (fun _ _ _ h => h) (Or.inl ⟨by rfl, by intro X hSw; go_simp⟩) (Below.refl _ _) ?_
  try simp only [Act.put, List.setIfInBounds_toArray, List.set_cons_zero, List.set_cons_succ]
  refine wpAnyH_ready (rs := [6]) (by kernel_rfl) (by simp) ?_
  refine AllReadyH.cons rfl (fun K hK => ?_) AllReadyH.nil
  go_simp
  go_wp2_with (go_at_call 29; refine (recordOf_any t wd (by simp [fitB] at hf; omega) Td).mono ?_; rintro e w4 ⟨rfl, b4⟩)
  refine hK.out _ _ (b4) (fun hS => ?_)
  clear hK hS
  refine wpAnyH_narrow (fun X => Below w4.heap.size w4 X) (fun X hX => b4.trans (hX.mono b4.size)) _ _ _ _ ?_
  refine anyH_take 7 15 (.bool true) rfl rfl (by kernel_rfl) (by kernel_rfl) (by kernel_rfl) (fun _ _ _ h => h) (Or.inl ⟨by rfl, fun X hSw => (exec_neq54 rfl rfl rfl hz (rec_len t)).trans (by rw [hq]; rfl)⟩) (Below.refl _ _) ?_
  try simp only [Act.put, List.setIfInBounds_toArray, List.set_cons_zero, List.set_cons_succ]
  refine anyH_take 8 16 (.bool true) rfl rfl (by kernel_rfl) (by kernel_rfl) (by kernel_rfl) (fun _ _ _ h => h) (Or.inl ⟨by rfl, by intro X hSw; go_simp⟩) (Below.refl _ _) ?_
  try simp only [Act.put, List.setIfInBounds_toArray, List.set_cons_zero, List.set_cons_succ]
  refine wpAnyH_done (by kernel_rfl) ?_ _
  go_wp2
  go_ret
  exact ⟨rfl, Od.trans (b4.mono Od.size)⟩
set_option maxHeartbeats 4000000 in
theorem number_eq (zs : List Int) (w : World) (hz : zs.length = 32) (hb : Byt zs) (ht : S.Tab w) (hf : fitB (tell (zs.take 8)) = true) (hq : (zs == recd (tell (zs.take 8))) = true) : Calls Tryd.prog 44 #[vb zs] w fun e w' => e = .returned (.int .i64 (((tell (zs.take 8) : Nat) : Int))) ∧ Below w.heap.size w w' := by
  have htl := tell_lt (zs.take 8) (fun c hc => hb c (List.mem_of_mem_take hc))
  rw [List.length_take, Nat.min_eq_left (by omega)] at htl
  have hwf := wrap_fit (tell (zs.take 8)) htl
  have hwi := wrap_is _ hf
  rw [hf] at hwf
  obtain ⟨t, HT⟩ : ∃ t, Hid (tell (zs.take 8) = t) := ⟨_, rfl⟩
  rw [HT.out] at hwf htl hwi hf hq ⊢
  rw [hwi] at hwf
  go_enter Tryd.func44, Tryd.ntmps44
  go_wp2_with (first
    | ((with_reducible show wpList _ _ _ (Oper.mk _ (Op.box 54 _) _ _ _ _ :: _) _ _); refine wpList_boxB rfl 54 _ rfl zs rfl ?_; intro w1 N1; have R1 := N1.blk.row hb 0 8 16 (by omega) (by omega); rw [List.drop_zero] at R1)
    | (go_at_call 51; refine (told_any _ 8 16 _ w1 R1 (by omega)).mono ?_; rintro e w2 ⟨rfl, hw⟩; rw [hw, HT.out]; clear hw))
  obtain ⟨wd, hwd⟩ : ∃ wd, World.drew w1 = wd := ⟨_, rfl⟩
  refine wp_region_any (by kernel_rfl) ?_
  change wpAny _ _ _ _ _ _ _ (World.drew _)
  rw [hwd]
  have Bd : Blk wd w.heap.size 54 zs := by rw [← hwd]; exact N1.blk
  have Od : Below w.heap.size w wd := by rw [← hwd]; exact N1.below.drew
  have Td : S.Tab wd := by rw [← hwd]; exact (ht.below N1.below).drew
  clear hwd N1 R1
  refine wpAny_narrow (fun X => Below wd.heap.size wd X) _ _ _ _ ?_
  refine anyH_take 0 8 (.int .i64 (t : Int)) rfl rfl (by kernel_rfl) (by kernel_rfl) (by kernel_rfl) (fun _ _ _ h => h) (Or.inl ⟨by rfl, by intro X hSw; go_simp⟩) (Below.refl _ _) ?_
  try simp only [Act.put, List.setIfInBounds_toArray, List.set_cons_zero, List.set_cons_succ]
  refine wpAnyH_ready (rs := [1]) (by kernel_rfl) (by simp) ?_
  refine AllReadyH.cons rfl (fun K hK => ?_) AllReadyH.nil
  go_simp
  go_wp2_with (go_at_call 37; refine (fit_any (t : Int) wd).mono ?_; rintro e w3 ⟨rfl, hw⟩; rw [hw, hwf]; clear hw)
  refine hK.out _ _ (Below.refl _ _) (fun hS => ?_)
  clear hK hS
  refine anyH_take 2 10 (.bool false) rfl rfl (by kernel_rfl) (by kernel_rfl) (by kernel_rfl) (fun _ _ _ h => h) (Or.inl ⟨by rfl, by intro X hSw; go_simp⟩) (Below.refl _ _) ?_
  try simp only [Act.put, List.setIfInBounds_toArray, List.set_cons_zero, List.set_cons_succ]
  refine anyH_take 3 11 (.bool false) rfl rfl (by kernel_rfl) (by kernel_rfl) (by kernel_rfl) (fun _ _ _ h => h) (Or.inl ⟨by rfl, by intro X hSw; go_simp⟩) (Below.refl _ _) ?_
  try simp only [Act.put, List.setIfInBounds_toArray, List.set_cons_zero, List.set_cons_succ]
  refine anyH_take 4 12 (vb zs) rfl rfl (by kernel_rfl) (by kernel_rfl) (by kernel_rfl) (fun _ _ _ h => h) (Or.inl ⟨by rfl, fun X hSw => exec_loadB 54 32 arr54 rfl rfl (Bd.below hSw).whole hz⟩) (Below.refl _ _) ?_
  try simp only [Act.put, List.setIfInBounds_toArray, List.set_cons_zero, List.set_cons_succ]
  refine anyH_take 5 13 (.int .i64 (t : Int)) rfl rfl (by kernel_rfl) (by kernel_rfl) (by kernel_rfl) (fun _ _ _ h => h) (Or.inl ⟨by rfl, by intro X hSw; go_simp⟩) (Below.refl _ _) ?_
  try simp only [Act.put, List.setIfInBounds_toArray, List.set_cons_zero, List.set_cons_succ]
  refine wpAnyH_ready (rs := [6]) (by kernel_rfl) (by simp) ?_
  refine AllReadyH.cons rfl (fun K hK => ?_) AllReadyH.nil
  go_simp
  go_wp2_with (go_at_call 29; refine (recordOf_any t wd (by simp [fitB] at hf; omega) Td).mono ?_; rintro e w4 ⟨rfl, b4⟩)
  refine hK.out _ _ (b4) (fun hS => ?_)
  clear hK hS
  refine wpAnyH_narrow (fun X => Below w4.heap.size w4 X) (fun X hX => b4.trans (hX.mono b4.size)) _ _ _ _ ?_
  refine anyH_take 7 15 (.bool false) rfl rfl (by kernel_rfl) (by kernel_rfl) (by kernel_rfl) (fun _ _ _ h => h) (Or.inl ⟨by rfl, fun X hSw => (exec_neq54 rfl rfl rfl hz (rec_len t)).trans (by rw [hq]; rfl)⟩) (Below.refl _ _) ?_
  try simp only [Act.put, List.setIfInBounds_toArray, List.set_cons_zero, List.set_cons_succ]
  refine anyH_take 8 16 (.bool false) rfl rfl (by kernel_rfl) (by kernel_rfl) (by kernel_rfl) (fun _ _ _ h => h) (Or.inl ⟨by rfl, by intro X hSw; go_simp⟩) (Below.refl _ _) ?_
  try simp only [Act.put, List.setIfInBounds_toArray, List.set_cons_zero, List.set_cons_succ]
  refine wpAnyH_done (by kernel_rfl) ?_ _
  go_wp2
  go_ret
  exact ⟨rfl, Od.trans (b4.mono Od.size)⟩
theorem number_any (zs : List Int) (w : World) (hz : zs.length = 32) (hb : Byt zs) (ht : S.Tab w) : Calls Tryd.prog 44 #[vb zs] w fun e w' => e = .returned (.int .i64 ((stand zs : Nat) : Int)) ∧ Below w.heap.size w w' := by
  cases hf : fitB (tell (zs.take 8)) with
  | false => rw [stand_no hf]; exact number_no zs w hz hb ht hf
  | true =>
    cases hq : (zs == recd (tell (zs.take 8))) with
    | false => rw [stand_ne hq]; exact number_ne zs w hz hb ht hf hq
    | true => rw [stand_eq hf hq]; exact number_eq zs w hz hb ht hf hq
end Go.Proofs.YtaacggbfoejjhaaDoor
