/-
  The law's helper 'both': a call, on both sides: what is seen is the same (Read, where a sector is handed out).
-/
import Derived.Test.YtoecgldpmmclgaaBoA
import Derived.Test.YtoecgldpmmclgaaEx
namespace Go.Proofs.Ytoecgldpmmclgaa
open Go.ChangeShapes Go.WideShapes Go.ChangeAt Go.RowKit
set_option linter.unusedVariables false
set_option linter.unusedSimpArgs false

set_option maxRecDepth 100000 in
set_option maxHeartbeats 8000000 in
theorem both_rdok (d l r m : Nat) (S0 T0 : DS) (i : Nat) (a : Option Addr) (len cap : Nat) (w : World) (B : Bth w d l r m S0 T0) (hg : S0.gone = false) (hi : i < S0.n) :
    Calls Try.prog 10 (bothArgs d r 1 (i : Int) a len cap) w fun e w' => e = .returned (.bool true) ∧ Now w d l r m w' := by
  have X0 : (w.alloc (actO 1 (i : Int) a len cap)).heap[w.heap.size]? = some (actO 1 (i : Int) a len cap) := World.alloc_heap_new _ _
  have B0 : Below w.heap.size w (w.alloc (actO 1 (i : Int) a len cap)) := (Below.refl _ _).alloc (Nat.le_refl _) _
  have Bb := B.below B0
  have hlt := B.lt
  obtain ⟨x0, x1, x2⟩ := act_at X0
  have hgT : T0.gone = false := by rw [← B.sim.gone]; exact hg
  have hiT : i < T0.n := by rw [← B.sim.n]; exact hi
  have HBS0 : Hid (T0.bs = S0.bs) := B.sim.bs.symm
  have hsb := sec_byt B.p.ok i
  have hsl := sec_len B.p.ok hi
  go_enter Try.func10, Try.ntmps10
  go_wp2_with (first
    | (go_at_call 20; refine (read_ok d l S0 i _ Bb.p hg hi).mono ?_; rintro e w1 ⟨g, rfl, hgn, hh1, b1⟩; obtain ⟨y0, y1, y2⟩ := act_at ((b1.block _ (row_lt X0)).trans X0))
    | (go_at_call 22; refine (rread_ok r m T0 i _ (Bb.q.below b1) hgT hiT).mono ?_; rintro e w2 ⟨v2, rfl, O2, b2⟩; rw [HBS0.out] at O2; obtain ⟨a2, n2, c2, rfl, R2, hn2, _, _⟩ := O2.row hsb; clear hn2; have hh2 := (b2.block _ (row_lt hh1)).trans hh1; have cv1 := conv_row (row_of hh2 hsb 16 16 hsl.symm (Nat.le_refl _)); have cv2 := conv_row R2; have cg := row_cell hh2 0 _ (bv_at _ 0 (by omega)); have fg := row_free hh2 0; obtain ⟨z, hz⟩ : ∃ z, (sec S0.bs i).getD 0 0 = z := ⟨_, rfl⟩; rw [hz] at cg))
  have hgw : w.heap.size < g := by have := hgn; simp at this; omega
  have Bq := (Bb.below b1).below b2
  have oq : Only (in4 d l r m) w w2 := (Only.of_below B0).trans ((Only.of_below b1).trans (Only.of_below b2))
  clear cv1 cv2 cg fg hh1 hh2 R2 O2 hsb hsl x0 x1 x2 y0 y1 y2 Bb b1 b2 B0 X0 HBS0 hgT hiT hgn
  refine wp_region_any (by kernel_rfl) ?_
  change wpAny _ _ _ _ _ _ _ (World.drew _)
  generalize hwd : World.drew _ = wd
  have Bd := Bth.drewn (S := S0) (T := T0) (Bq.setNew (fun q hq => Nat.lt_trans (hlt q hq) hgw) _ _) hwd
  have od := Only.drewn (C := in4 d l r m) (w0 := w) (oq.setNew (Nat.le_of_lt hgw) _ _) hwd
  clear hwd
  generalize S0 = S at Bd
  generalize T0 = T at Bd
  have e1 : ((S.n : Int) == (T.n : Int)) = true := by rw [Bd.sim.n]; simp
  have e2 : (S.gone == T.gone) = true := by rw [Bd.sim.gone]; simp
  have e3 : (S.done == T.done) = true := by rw [Bd.sim.done]; simp
  have HBS : Hid (T.bs = S.bs) := Bd.sim.bs.symm
  refine wpAny_narrow (fun X => Below wd.heap.size wd X) _ _ _ _ ?_
  refine anyH_take 0 96 (.bool true) rfl rfl (by kernel_rfl) (by kernel_rfl) (by kernel_rfl) (fun _ _ _ h => h) (Or.inl ⟨by rfl, by intro X hSw; go_simp⟩) (Below.refl _ _) ?_
  try simp only [Act.put, List.setIfInBounds_toArray, List.set_cons_zero, List.set_cons_succ]
  refine anyH_take 1 97 (.bool true) rfl rfl (by kernel_rfl) (by kernel_rfl) (by kernel_rfl) (fun _ _ _ h => h) (Or.inl ⟨by rfl, by intro X hSw; go_simp⟩) (Below.refl _ _) ?_
  try simp only [Act.put, List.setIfInBounds_toArray, List.set_cons_zero, List.set_cons_succ]
  refine anyH_take 2 98 (.pointer (some ⟨d, 0, none⟩)) rfl rfl (by kernel_rfl) (by kernel_rfl) (by kernel_rfl) (fun _ _ _ h => h) (Or.inl ⟨by rfl, by intro X hSw; go_simp⟩) (Below.refl _ _) ?_
  try simp only [Act.put, List.setIfInBounds_toArray, List.set_cons_zero, List.set_cons_succ]
  refine anyH_take 4 100 (.pointer (some ⟨r, 0, none⟩)) rfl rfl (by kernel_rfl) (by kernel_rfl) (by kernel_rfl) (fun _ _ _ h => h) (Or.inl ⟨by rfl, by intro X hSw; go_simp⟩) (Below.refl _ _) ?_
  try simp only [Act.put, List.setIfInBounds_toArray, List.set_cons_zero, List.set_cons_succ]
  refine wpAnyH_ready (rs := [3]) (by kernel_rfl) (by simp) ?_
  refine AllReadyH.cons rfl (fun K hK => ?_) AllReadyH.nil
  rw [if_pos (by rfl)]
  simp only [List.getElem_toArray, List.getElem_cons_succ, List.getElem_cons_zero]
  go_wp2_with (go_at_call 21; refine (sectors_any d l S wd Bd.p).mono ?_; rintro e w1 ⟨rfl, hw⟩; rw [hw]; clear hw)
  refine hK.out _ _ (Below.refl _ _) (fun hS => ?_)
  clear hK hS
  refine wpAnyH_ready (rs := [5]) (by kernel_rfl) (by simp) ?_
  refine AllReadyH.cons rfl (fun K hK => ?_) AllReadyH.nil
  rw [if_pos (by rfl)]
  simp only [List.getElem_toArray, List.getElem_cons_succ, List.getElem_cons_zero]
  go_wp2_with (go_at_call 26; refine (rsectors_any r m T wd Bd.q).mono ?_; rintro e w1 ⟨rfl, hw⟩; rw [hw]; clear hw)
  refine hK.out _ _ (Below.refl _ _) (fun hS => ?_)
  clear hK hS
  refine anyH_take 6 102 (.bool true) rfl rfl (by kernel_rfl) (by kernel_rfl) (by kernel_rfl) (fun _ _ _ h => h) (Or.inl ⟨by rfl, by intro X hSw; go_simp⟩) (Below.refl _ _) ?_
  try simp only [Act.put, List.setIfInBounds_toArray, List.set_cons_zero, List.set_cons_succ]
  refine anyH_take 7 103 (.bool true) rfl rfl (by kernel_rfl) (by kernel_rfl) (by kernel_rfl) (fun _ _ _ h => h) (Or.inl ⟨by rfl, by intro X hSw; go_simp⟩) (Below.refl _ _) ?_
  try simp only [Act.put, List.setIfInBounds_toArray, List.set_cons_zero, List.set_cons_succ]
  refine anyH_take 8 104 (.bool true) rfl rfl (by kernel_rfl) (by kernel_rfl) (by kernel_rfl) (fun _ _ _ h => h) (Or.inl ⟨by rfl, by intro X hSw; go_simp⟩) (Below.refl _ _) ?_
  try simp only [Act.put, List.setIfInBounds_toArray, List.set_cons_zero, List.set_cons_succ]
  refine anyH_take 9 105 (.pointer (some ⟨d, 0, none⟩)) rfl rfl (by kernel_rfl) (by kernel_rfl) (by kernel_rfl) (fun _ _ _ h => h) (Or.inl ⟨by rfl, by intro X hSw; go_simp⟩) (Below.refl _ _) ?_
  try simp only [Act.put, List.setIfInBounds_toArray, List.set_cons_zero, List.set_cons_succ]
  refine anyH_take 11 107 (.pointer (some ⟨r, 0, none⟩)) rfl rfl (by kernel_rfl) (by kernel_rfl) (by kernel_rfl) (fun _ _ _ h => h) (Or.inl ⟨by rfl, by intro X hSw; go_simp⟩) (Below.refl _ _) ?_
  try simp only [Act.put, List.setIfInBounds_toArray, List.set_cons_zero, List.set_cons_succ]
  refine wpAnyH_ready (rs := [10]) (by kernel_rfl) (by simp) ?_
  refine AllReadyH.cons rfl (fun K hK => ?_) AllReadyH.nil
  rw [if_pos (by rfl)]
  simp only [List.getElem_toArray, List.getElem_cons_succ, List.getElem_cons_zero]
  go_wp2_with (go_at_call 15; refine (dead_any d l S wd Bd.p).mono ?_; rintro e w1 ⟨rfl, hw⟩; rw [hw]; clear hw)
  refine hK.out _ _ (Below.refl _ _) (fun hS => ?_)
  clear hK hS
  refine wpAnyH_ready (rs := [12]) (by kernel_rfl) (by simp) ?_
  refine AllReadyH.cons rfl (fun K hK => ?_) AllReadyH.nil
  rw [if_pos (by rfl)]
  simp only [List.getElem_toArray, List.getElem_cons_succ, List.getElem_cons_zero]
  go_wp2_with (go_at_call 27; refine (rdead_any r m T wd Bd.q).mono ?_; rintro e w1 ⟨rfl, hw⟩; rw [hw]; clear hw)
  refine hK.out _ _ (Below.refl _ _) (fun hS => ?_)
  clear hK hS
  refine anyH_take 13 109 (.bool true) rfl rfl (by kernel_rfl) (by kernel_rfl) (by kernel_rfl) (fun _ _ _ h => h) (Or.inl ⟨by rfl, by intro X hSw; go_simp⟩) (Below.refl _ _) ?_
  try simp only [Act.put, List.setIfInBounds_toArray, List.set_cons_zero, List.set_cons_succ]
  refine anyH_take 14 110 (.bool true) rfl rfl (by kernel_rfl) (by kernel_rfl) (by kernel_rfl) (fun _ _ _ h => h) (Or.inl ⟨by rfl, by intro X hSw; go_simp⟩) (Below.refl _ _) ?_
  try simp only [Act.put, List.setIfInBounds_toArray, List.set_cons_zero, List.set_cons_succ]
  refine anyH_take 15 111 (.bool true) rfl rfl (by kernel_rfl) (by kernel_rfl) (by kernel_rfl) (fun _ _ _ h => h) (Or.inl ⟨by rfl, by intro X hSw; go_simp⟩) (Below.refl _ _) ?_
  try simp only [Act.put, List.setIfInBounds_toArray, List.set_cons_zero, List.set_cons_succ]
  refine anyH_take 16 112 (.pointer (some ⟨d, 0, none⟩)) rfl rfl (by kernel_rfl) (by kernel_rfl) (by kernel_rfl) (fun _ _ _ h => h) (Or.inl ⟨by rfl, by intro X hSw; go_simp⟩) (Below.refl _ _) ?_
  try simp only [Act.put, List.setIfInBounds_toArray, List.set_cons_zero, List.set_cons_succ]
  refine anyH_take 18 114 (.pointer (some ⟨r, 0, none⟩)) rfl rfl (by kernel_rfl) (by kernel_rfl) (by kernel_rfl) (fun _ _ _ h => h) (Or.inl ⟨by rfl, by intro X hSw; go_simp⟩) (Below.refl _ _) ?_
  try simp only [Act.put, List.setIfInBounds_toArray, List.set_cons_zero, List.set_cons_succ]
  refine wpAnyH_ready (rs := [17]) (by kernel_rfl) (by simp) ?_
  refine AllReadyH.cons rfl (fun K hK => ?_) AllReadyH.nil
  rw [if_pos (by rfl)]
  simp only [List.getElem_toArray, List.getElem_cons_succ, List.getElem_cons_zero]
  go_wp2_with (go_at_call 16; refine (writes_any d l S wd Bd.p).mono ?_; rintro e w1 ⟨rfl, hw⟩; rw [hw]; clear hw)
  refine hK.out _ _ (Below.refl _ _) (fun hS => ?_)
  clear hK hS
  refine wpAnyH_ready (rs := [19]) (by kernel_rfl) (by simp) ?_
  refine AllReadyH.cons rfl (fun K hK => ?_) AllReadyH.nil
  rw [if_pos (by rfl)]
  simp only [List.getElem_toArray, List.getElem_cons_succ, List.getElem_cons_zero]
  go_wp2_with (go_at_call 28; refine (rwrites_any r m T wd Bd.q).mono ?_; rintro e w1 ⟨rfl, hw⟩; rw [hw]; clear hw)
  refine hK.out _ _ (Below.refl _ _) (fun hS => ?_)
  clear hK hS
  refine anyH_take 20 116 (.bool true) rfl rfl (by kernel_rfl) (by kernel_rfl) (by kernel_rfl) (fun _ _ _ h => h) (Or.inl ⟨by rfl, by intro X hSw; go_simp⟩) (Below.refl _ _) ?_
  try simp only [Act.put, List.setIfInBounds_toArray, List.set_cons_zero, List.set_cons_succ]
  refine anyH_take 21 117 (.bool true) rfl rfl (by kernel_rfl) (by kernel_rfl) (by kernel_rfl) (fun _ _ _ h => h) (Or.inl ⟨by rfl, by intro X hSw; go_simp⟩) (Below.refl _ _) ?_
  try simp only [Act.put, List.setIfInBounds_toArray, List.set_cons_zero, List.set_cons_succ]
  refine anyH_take 22 118 (.bool true) rfl rfl (by kernel_rfl) (by kernel_rfl) (by kernel_rfl) (fun _ _ _ h => h) (Or.inl ⟨by rfl, by intro X hSw; go_simp⟩) (Below.refl _ _) ?_
  try simp only [Act.put, List.setIfInBounds_toArray, List.set_cons_zero, List.set_cons_succ]
  refine anyH_take 23 119 (.pointer (some ⟨d, 0, none⟩)) rfl rfl (by kernel_rfl) (by kernel_rfl) (by kernel_rfl) (fun _ _ _ h => h) (Or.inl ⟨by rfl, by intro X hSw; go_simp⟩) (Below.refl _ _) ?_
  try simp only [Act.put, List.setIfInBounds_toArray, List.set_cons_zero, List.set_cons_succ]
  refine anyH_take 26 122 (.pointer (some ⟨r, 0, none⟩)) rfl rfl (by kernel_rfl) (by kernel_rfl) (by kernel_rfl) (fun _ _ _ h => h) (Or.inl ⟨by rfl, by intro X hSw; go_simp⟩) (Below.refl _ _) ?_
  try simp only [Act.put, List.setIfInBounds_toArray, List.set_cons_zero, List.set_cons_succ]
  refine wpAnyH_ready (rs := [24]) (by kernel_rfl) (by simp) ?_
  refine AllReadyH.cons rfl (fun K hK => ?_) AllReadyH.nil
  rw [if_pos (by rfl)]
  simp only [List.getElem_toArray, List.getElem_cons_succ, List.getElem_cons_zero]
  go_wp2_with (go_at_call 13; refine (image_any d l S wd Bd.p).mono ?_; rintro e w1 ⟨v1, rfl, O1, b1⟩; obtain ⟨a1, n1, c1, rfl, R1, hn1, _, _⟩ := O1.row Bd.p.ok.byt; clear hn1; have q1 := Bd.q.below b1)
  refine hK.out _ _ (b1) (fun hS => ?_)
  clear hK hS
  refine wpAnyH_narrow (fun X => Below w1.heap.size w1 X) (fun X hX => b1.trans (hX.mono b1.size)) _ _ _ _ ?_
  refine anyH_take 25 121 (.string (strOfNums S.bs)) rfl rfl (by kernel_rfl) (by kernel_rfl) (by kernel_rfl) (fun _ _ _ h => h) (Or.inl ⟨by rfl, by intro X hSw; have q := conv_row (R1.below hSw); go_simp⟩) (Below.refl _ _) ?_
  try simp only [Act.put, List.setIfInBounds_toArray, List.set_cons_zero, List.set_cons_succ]
  refine wpAnyH_ready (rs := [27]) (by kernel_rfl) (by simp) ?_
  refine AllReadyH.cons rfl (fun K hK => ?_) AllReadyH.nil
  rw [if_pos (by rfl)]
  simp only [List.getElem_toArray, List.getElem_cons_succ, List.getElem_cons_zero]
  go_wp2_with (go_at_call 14; refine (rimage_any r m T w1 q1).mono ?_; rintro e w2 ⟨v2, rfl, O2, b2⟩; rw [HBS.out] at O2; obtain ⟨a2, n2, c2, rfl, R2, hn2, _, _⟩ := O2.row Bd.p.ok.byt; clear hn2)
  refine hK.out _ _ (b2) (fun hS => ?_)
  clear hK hS
  refine wpAnyH_narrow (fun X => Below w2.heap.size w2 X) (fun X hX => b2.trans (hX.mono b2.size)) _ _ _ _ ?_
  refine anyH_take 28 124 (.string (strOfNums S.bs)) rfl rfl (by kernel_rfl) (by kernel_rfl) (by kernel_rfl) (fun _ _ _ h => h) (Or.inl ⟨by rfl, by intro X hSw; have q := conv_row (R2.below hSw); go_simp⟩) (Below.refl _ _) ?_
  try simp only [Act.put, List.setIfInBounds_toArray, List.set_cons_zero, List.set_cons_succ]
  refine anyH_take 29 125 (.bool true) rfl rfl (by kernel_rfl) (by kernel_rfl) (by kernel_rfl) (fun _ _ _ h => h) (Or.inl ⟨by rfl, fun X hSw => exec_eqs rfl rfl rfl⟩) (Below.refl _ _) ?_
  try simp only [Act.put, List.setIfInBounds_toArray, List.set_cons_zero, List.set_cons_succ]
  refine anyH_take 30 126 (.bool true) rfl rfl (by kernel_rfl) (by kernel_rfl) (by kernel_rfl) (fun _ _ _ h => h) (Or.inl ⟨by rfl, fun X hSw => exec_pickT rfl rfl rfl⟩) (Below.refl _ _) ?_
  try simp only [Act.put, List.setIfInBounds_toArray, List.set_cons_zero, List.set_cons_succ]
  refine anyH_take 31 6 (.bool true) rfl rfl (by kernel_rfl) (by kernel_rfl) (by kernel_rfl) (fun _ _ _ h => h) (Or.inl ⟨by rfl, fun X hSw => exec_assign rfl rfl⟩) (Below.refl _ _) ?_
  try simp only [Act.put, List.setIfInBounds_toArray, List.set_cons_zero, List.set_cons_succ]
  refine wpAnyH_done (by kernel_rfl) ?_ _
  go_wp2
  go_ret
  have b12 := b1.trans (b2.mono b1.size)
  exact ⟨rfl, S, T, Bd.below b12, od.trans (Only.of_below b12)⟩
end Go.Proofs.Ytoecgldpmmclgaa
