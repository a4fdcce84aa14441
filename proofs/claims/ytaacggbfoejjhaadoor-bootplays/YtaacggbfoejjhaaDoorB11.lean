/-
  Package boot: Last, Next, Record.
-/
import Derived.Test.YtaacggbfoejjhaaDoorB10
import Derived.Test.YtaacggbfoejjhaaDoorB8
namespace Go.Proofs.YtaacggbfoejjhaaDoor
open Go.ChangeShapes Go.WideShapes Go.ChangeAt Go.RowKit
open D
set_option linter.unusedVariables false
set_option linter.unusedSimpArgs false

abbrev Tb (w : World) : Prop := S.Tab w
/-- The greatest number in the slots' bytes. -/
def mx (V : List Int) : Nat := max (stand (slot V 0)) (stand (slot V 1))
theorem stand_zr : stand (zr 32) = 0 := by
  have : tell ((zr 32).take 8) = 0 := rfl
  exact stand_no (by rw [this]; rfl)
theorem slot_zr (i : Nat) (hi : i < 2) : slot (zr 64) i = zr 32 := by
  have h : i = 0 ∨ i = 1 := by omega
  rcases h with rfl | rfl <;> rfl
theorem mx_zr : mx (zr 64) = 0 := by unfold mx; rw [slot_zr 0 (by omega), slot_zr 1 (by omega), stand_zr]; rfl
theorem mx_le (V : List Int) : mx V ≤ 1099511627776 := by unfold mx; have := stand_le (slot V 0); have := stand_le (slot V 1); omega
theorem ldV_len {S : DS} (h : S.Ok) : (ldV S).length = 64 := by
  unfold ldV
  split
  · exact zr_len 64
  · split
    · exact zr_len 64
    · rw [List.length_take, h.len]; omega
theorem ldV_byt {S : DS} (h : S.Ok) : Byt (ldV S) := by
  unfold ldV
  split
  · exact zeros_byt 64
  · split
    · exact zeros_byt 64
    · exact fun c hc => h.byt c (List.mem_of_mem_take hc)
theorem ldV_no {S : DS} (h : ldC S ≠ 0) : ldV S = zr 64 := by
  unfold ldC at h
  unfold ldV
  split at h
  · rename_i hg; rw [if_pos hg]
  · rename_i hg; rw [if_neg hg]; split at h
    · rename_i h4; rw [if_pos h4]
    · exact absurd rfl h
set_option maxHeartbeats 4000000 in
theorem last_of (v : Value) (V : List Int) (C : Int) (w : World) (hV : V.length = 64) (hb : Byt V) (hC : C ≠ 0 → V = zr 64) (ht : Tb w) (KL : Calls Tryd.prog 24 #[v] w fun e w' => e = .returned (.tuple #[vb V, .int .i64 C]) ∧ Below w.heap.size w w') :
    Calls Tryd.prog 10 #[v] w fun e w' => e = .returned (.tuple #[.int .i64 ((mx V : Nat) : Int), .int .i64 C]) ∧ Below w.heap.size w w' := by
  by_cases h : C = 0
  · subst h
    obtain ⟨M, HM⟩ : ∃ M, Hid (mx V = M) := ⟨_, rfl⟩
    rw [HM.out]
    go_enter Tryd.func10, Tryd.ntmps10
    go_wp2_with (first
      | (go_at_call 24; refine KL.mono ?_; rintro e w1 ⟨rfl, b1⟩)
      | ((with_reducible show wpList _ _ _ (Oper.mk _ (Op.alloc 56) _ _ _ _ :: _) _ _); refine wpList_allocB rfl 56 64 arr56 rfl ?_; intro w2 N2)
      | ((with_reducible show wpList _ _ _ (Oper.mk _ (Op.store 56 _ _) _ _ _ _ :: _) _ _); refine wpList_storeB rfl 56 64 arr56 _ _ rfl w1.heap.size 0 56 (zr 64) V rfl rfl N2.blk hV (by rw [zr_len]; decide) ?_; intro w3 W3; rw [splice_all _ _ (by rw [hV, zr_len])] at W3; have b3 := b1.trans ((N2.wrote W3).mono b1.size); have t3 := ht.below b3)
      | ((with_reducible show wpList _ _ _ (Oper.mk _ (Op.load 56 _) _ _ _ _ :: _) _ _); refine wpList_loadB rfl 56 64 arr56 _ rfl w1.heap.size 0 V rfl (by first | exact W3.blk.whole | exact (W3.blk.below b4).whole) hV ?_)
      | (go_at_call 26; refine (last_any V w3 hV hb t3).mono ?_; rw [show max (stand (slot V 0)) (stand (slot V 1)) = M from HM.out]; rintro e w5 ⟨rfl, b5⟩))
    go_ret2
    exact ⟨rfl, b3.trans (b5.mono b3.size)⟩
  · have h' : (C != 0) = true := by simp [h]
    have HM : Hid (((mx V : Nat) : Int) = 0) := by show _ = _; rw [hC h, mx_zr]; rfl
    rw [HM.out]
    clear h hC
    go_enter Tryd.func10, Tryd.ntmps10
    go_wp2_with (first
      | (go_at_call 24; refine KL.mono ?_; rintro e w1 ⟨rfl, b1⟩)
      | ((with_reducible show wpList _ _ _ (Oper.mk _ (Op.alloc 56) _ _ _ _ :: _) _ _); refine wpList_allocB rfl 56 64 arr56 rfl ?_; intro w2 N2)
      | ((with_reducible show wpList _ _ _ (Oper.mk _ (Op.store 56 _ _) _ _ _ _ :: _) _ _); refine wpList_storeB rfl 56 64 arr56 _ _ rfl w1.heap.size 0 56 (zr 64) V rfl rfl N2.blk hV (by rw [zr_len]; decide) ?_; intro w3 W3; rw [splice_all _ _ (by rw [hV, zr_len])] at W3; have b3 := b1.trans ((N2.wrote W3).mono b1.size); have t3 := ht.below b3)
      | ((with_reducible show wpList _ _ _ (Oper.mk _ (Op.load 56 _) _ _ _ _ :: _) _ _); refine wpList_loadB rfl 56 64 arr56 _ rfl w1.heap.size 0 V rfl (by first | exact W3.blk.whole | exact (W3.blk.below b4).whole) hV ?_))
    go_ret2
    exact ⟨rfl, b3⟩
theorem last_dk (d l : Nat) (S : DS) (w : World) (D : DkP w d l S) (ht : Tb w) : Calls Tryd.prog 10 #[.pointer (some ⟨d, 0, none⟩)] w fun e w' => e = .returned (.tuple #[.int .i64 ((mx (ldV S) : Nat) : Int), .int .i64 (ldC S)]) ∧ Below w.heap.size w w' :=
  last_of _ _ _ w (ldV_len D.ok) (ldV_byt D.ok) ldV_no ht (ld_any d l S w D)
theorem last_nil (w : World) (ht : Tb w) : Calls Tryd.prog 10 #[.pointer none] w fun e w' => e = .returned (.tuple #[.int .i64 0, .int .i64 32]) ∧ Below w.heap.size w w' :=
  (last_of _ (zr 64) 32 w (zr_len 64) (zeros_byt 64) (fun _ => rfl) ht (ld_nil w)).mono fun e w' ⟨h, b⟩ => ⟨by rw [h, mx_zr]; rfl, b⟩
/-- What Next tells, and leaves. -/
def nxV (S : DS) : List Int := recd (mx (ldV S) + 1)
def nxC (S : DS) : Int := if ldC S = 0 then (if mx (ldV S) = 1099511627776 then 33 else stoC S (lsrS (ldV S)) (nxV S)) else ldC S
def nxS (S : DS) : DS := if ldC S = 0 then (if mx (ldV S) = 1099511627776 then S else stoS S (lsrS (ldV S)) (nxV S)) else S
def nxN (S : DS) : Int := if nxC S = 0 then ((mx (ldV S) + 1 : Nat) : Int) else 0
theorem lsrS_lt (V : List Int) : lsrS V < 2 := by unfold lsrS; split <;> omega
set_option maxHeartbeats 8000000 in
theorem next_any (d l : Nat) (S : DS) (w : World) (D : DkP w d l S) (ht : Tb w) : Calls Tryd.prog 9 #[.pointer (some ⟨d, 0, none⟩)] w fun e w' => e = .returned (.tuple #[.int .i64 (nxN S), .int .i64 (nxC S)]) ∧ DkP w' d l (nxS S) ∧ Only (at2 d l) w w' := by
  have KL := ld_any d l S w D
  have hV := ldV_len D.ok
  have hb := ldV_byt D.ok
  obtain ⟨V, HV⟩ : ∃ V, Hid (ldV S = V) := ⟨_, rfl⟩
  rw [HV.out] at KL hV hb
  by_cases h : ldC S = 0
  · rw [h] at KL
    have h33 := mx_le V
    have HMX : Hid (∀ M, mx V = M → max (stand (slot V 0)) (stand (slot V 1)) = M) := fun M h => h
    by_cases hm : mx V = 1099511627776
    · have HR : Hid (nxN S = 0 ∧ nxC S = 33 ∧ nxS S = S) := by
        have e1 : nxC S = 33 := by unfold nxC; rw [if_pos h, HV.out, if_pos hm]
        refine ⟨by unfold nxN; rw [e1]; rfl, e1, by unfold nxS; rw [if_pos h, HV.out, if_pos hm]⟩
      rw [HR.out.1, HR.out.2.1, HR.out.2.2]
      have HM : Hid (mx V = 1099511627776) := hm
      clear hm h h33
      go_enter Tryd.func9, Tryd.ntmps9
      go_wp2_with (first
        | (go_at_call 24; refine KL.mono ?_; rintro e w1 ⟨rfl, b1⟩)
        | ((with_reducible show wpList _ _ _ (Oper.mk _ (Op.alloc 56) _ _ _ _ :: _) _ _); refine wpList_allocB rfl 56 64 arr56 rfl ?_; intro w2 N2)
        | ((with_reducible show wpList _ _ _ (Oper.mk _ (Op.store 56 _ _) _ _ _ _ :: _) _ _); refine wpList_storeB rfl 56 64 arr56 _ _ rfl w1.heap.size 0 56 (zr 64) V rfl rfl N2.blk hV (by rw [zr_len]; decide) ?_; intro w3 W3; rw [splice_all _ _ (by rw [hV, zr_len])] at W3; have b3 := b1.trans ((N2.wrote W3).mono b1.size); have t3 := ht.below b3)
        | ((with_reducible show wpList _ _ _ (Oper.mk _ (Op.load 56 _) _ _ _ _ :: _) _ _); refine wpList_loadB rfl 56 64 arr56 _ rfl w1.heap.size 0 V rfl (by first | exact W3.blk.whole | exact (W3.blk.below b4).whole) hV ?_)
        | (go_at_call 26; refine (last_any V w3 hV hb t3).mono ?_; rw [HMX.out _ HM.out]; rintro e w5 ⟨rfl, b5⟩))
      go_ret2
      have b35 := b3.trans (b5.mono b3.size)
      exact ⟨rfl, D.below b35, Only.of_below b35⟩
    · obtain ⟨M, HM⟩ : ∃ M, Hid (mx V = M) := ⟨_, rfl⟩
      rw [HM.out] at hm h33
      have hM1 : ((M : Int) == 1099511627776) = false := by simp; omega
      have HR : Hid (nxC S = stoC S (lsrS V) (recd (M + 1)) ∧ nxS S = stoS S (lsrS V) (recd (M + 1)) ∧ nxN S = if stoC S (lsrS V) (recd (M + 1)) = 0 then ((M + 1 : Nat) : Int) else 0) := by
        have e1 : nxC S = stoC S (lsrS V) (recd (M + 1)) := by unfold nxC nxV; rw [if_pos h, HV.out, HM.out, if_neg hm]
        refine ⟨e1, by unfold nxS nxV; rw [if_pos h, HV.out, HM.out, if_neg hm], by unfold nxN; rw [e1, HV.out, HM.out]⟩
      rw [HR.out.1, HR.out.2.1, HR.out.2.2]
      have KW := fun (W : World) (DW : DkP W d l S) => store_any d l S (lsrS V) (recd (M + 1)) W DW (lsrS_lt V) (rec_len _) (rec_byt _)
      obtain ⟨cc, hcc⟩ : ∃ cc, stoC S (lsrS V) (recd (M + 1)) = cc := ⟨_, rfl⟩
      obtain ⟨SS, hSS⟩ : ∃ SS, stoS S (lsrS V) (recd (M + 1)) = SS := ⟨_, rfl⟩
      rw [hcc, hSS] at KW ⊢
      clear hcc hSS HR
      have hM2 : ¬ (M : Int) = 1099511627776 := by omega
      by_cases hz : cc = 0
      · have hz' : (cc != 0) = false := by simp [hz]
        rw [if_pos hz]
        have HZ : Hid (cc = 0) := hz
        clear h hm hz
        go_enter Tryd.func9, Tryd.ntmps9
        go_wp2_with (first
          | (go_at_call 24; refine KL.mono ?_; rintro e w1 ⟨rfl, b1⟩)
          | ((with_reducible show wpList _ _ _ (Oper.mk _ (Op.alloc 56) _ _ _ _ :: _) _ _); refine wpList_allocB rfl 56 64 arr56 rfl ?_; intro w2 N2)
          | ((with_reducible show wpList _ _ _ (Oper.mk _ (Op.store 56 _ _) _ _ _ _ :: _) _ _); refine wpList_storeB rfl 56 64 arr56 _ _ rfl w1.heap.size 0 56 (zr 64) V rfl rfl N2.blk hV (by rw [zr_len]; decide) ?_; intro w3 W3; rw [splice_all _ _ (by rw [hV, zr_len])] at W3; have b3 := b1.trans ((N2.wrote W3).mono b1.size); have t3 := ht.below b3)
          | ((with_reducible show wpList _ _ _ (Oper.mk _ (Op.load 56 _) _ _ _ _ :: _) _ _); refine wpList_loadB rfl 56 64 arr56 _ rfl w1.heap.size 0 V rfl (by first | exact W3.blk.whole | exact (W3.blk.below b4).whole) hV ?_)
          | (go_at_call 26; refine (last_any V w3 hV hb t3).mono ?_; rw [HMX.out _ HM.out]; rintro e w4 ⟨rfl, b4⟩)
          | (go_at_call 28; refine (lesser_any V w4 hV hb (t3.below b4)).mono ?_; rintro e w5 ⟨rfl, b5⟩)
          | (go_at_call 29; refine (recordOf_any (M + 1) w5 (by omega) ((t3.below b4).below b5)).mono ?_; rintro e w6 ⟨rfl, b6⟩; have b36 := b3.trans ((b4.trans ((b5.mono b4.size).trans (b6.mono (Nat.le_trans b4.size b5.size)))).mono b3.size))
          | (go_at_call 27; refine (KW w6 (D.below b36)).mono ?_; rintro e w7 ⟨rfl, D7, o7⟩))
        go_ret2
        exact ⟨by first | (rw [HZ.out]; rfl) | rfl, D7, (Only.of_below b36).trans o7⟩
      · have hz' : (cc != 0) = true := by simp [hz]
        rw [if_neg hz]
        clear h hm hz
        go_enter Tryd.func9, Tryd.ntmps9
        go_wp2_with (first
          | (go_at_call 24; refine KL.mono ?_; rintro e w1 ⟨rfl, b1⟩)
          | ((with_reducible show wpList _ _ _ (Oper.mk _ (Op.alloc 56) _ _ _ _ :: _) _ _); refine wpList_allocB rfl 56 64 arr56 rfl ?_; intro w2 N2)
          | ((with_reducible show wpList _ _ _ (Oper.mk _ (Op.store 56 _ _) _ _ _ _ :: _) _ _); refine wpList_storeB rfl 56 64 arr56 _ _ rfl w1.heap.size 0 56 (zr 64) V rfl rfl N2.blk hV (by rw [zr_len]; decide) ?_; intro w3 W3; rw [splice_all _ _ (by rw [hV, zr_len])] at W3; have b3 := b1.trans ((N2.wrote W3).mono b1.size); have t3 := ht.below b3)
          | ((with_reducible show wpList _ _ _ (Oper.mk _ (Op.load 56 _) _ _ _ _ :: _) _ _); refine wpList_loadB rfl 56 64 arr56 _ rfl w1.heap.size 0 V rfl (by first | exact W3.blk.whole | exact (W3.blk.below b4).whole) hV ?_)
          | (go_at_call 26; refine (last_any V w3 hV hb t3).mono ?_; rw [HMX.out _ HM.out]; rintro e w4 ⟨rfl, b4⟩)
          | (go_at_call 28; refine (lesser_any V w4 hV hb (t3.below b4)).mono ?_; rintro e w5 ⟨rfl, b5⟩)
          | (go_at_call 29; refine (recordOf_any (M + 1) w5 (by omega) ((t3.below b4).below b5)).mono ?_; rintro e w6 ⟨rfl, b6⟩; have b36 := b3.trans ((b4.trans ((b5.mono b4.size).trans (b6.mono (Nat.le_trans b4.size b5.size)))).mono b3.size))
          | (go_at_call 27; refine (KW w6 (D.below b36)).mono ?_; rintro e w7 ⟨rfl, D7, o7⟩))
        go_ret2
        exact ⟨rfl, D7, (Only.of_below b36).trans o7⟩
  · have HR : Hid (nxN S = 0 ∧ nxC S = ldC S ∧ nxS S = S) := by
      have e1 : nxC S = ldC S := by unfold nxC; rw [if_neg h]
      refine ⟨by unfold nxN; rw [e1, if_neg h], e1, by unfold nxS; rw [if_neg h]⟩
    rw [HR.out.1, HR.out.2.1, HR.out.2.2]
    obtain ⟨C, hC⟩ : ∃ C, ldC S = C := ⟨_, rfl⟩
    rw [hC] at KL h ⊢
    have h' : (C != 0) = true := by simp [h]
    clear h hC HR
    go_enter Tryd.func9, Tryd.ntmps9
    go_wp2_with (first
      | (go_at_call 24; refine KL.mono ?_; rintro e w1 ⟨rfl, b1⟩)
      | ((with_reducible show wpList _ _ _ (Oper.mk _ (Op.alloc 56) _ _ _ _ :: _) _ _); refine wpList_allocB rfl 56 64 arr56 rfl ?_; intro w2 N2)
      | ((with_reducible show wpList _ _ _ (Oper.mk _ (Op.store 56 _ _) _ _ _ _ :: _) _ _); refine wpList_storeB rfl 56 64 arr56 _ _ rfl w1.heap.size 0 56 (zr 64) V rfl rfl N2.blk hV (by rw [zr_len]; decide) ?_; intro w3 W3; rw [splice_all _ _ (by rw [hV, zr_len])] at W3; have b3 := b1.trans ((N2.wrote W3).mono b1.size); have t3 := ht.below b3)
      | ((with_reducible show wpList _ _ _ (Oper.mk _ (Op.load 56 _) _ _ _ _ :: _) _ _); refine wpList_loadB rfl 56 64 arr56 _ rfl w1.heap.size 0 V rfl (by first | exact W3.blk.whole | exact (W3.blk.below b4).whole) hV ?_))
    go_ret2
    exact ⟨rfl, D.below b3, Only.of_below b3⟩
set_option maxHeartbeats 4000000 in
theorem next_nil (w : World) (ht : Tb w) : Calls Tryd.prog 9 #[.pointer none] w fun e w' => e = .returned (.tuple #[.int .i64 0, .int .i64 32]) ∧ Below w.heap.size w w' := by
  have KL := ld_nil w
  have hV := zr_len 64
  obtain ⟨V, hV2⟩ : ∃ V, zr 64 = V := ⟨_, rfl⟩
  rw [hV2] at KL hV
  clear hV2
  go_enter Tryd.func9, Tryd.ntmps9
  go_wp2_with (first
    | (go_at_call 24; refine KL.mono ?_; rintro e w1 ⟨rfl, b1⟩)
    | ((with_reducible show wpList _ _ _ (Oper.mk _ (Op.alloc 56) _ _ _ _ :: _) _ _); refine wpList_allocB rfl 56 64 arr56 rfl ?_; intro w2 N2)
    | ((with_reducible show wpList _ _ _ (Oper.mk _ (Op.store 56 _ _) _ _ _ _ :: _) _ _); refine wpList_storeB rfl 56 64 arr56 _ _ rfl w1.heap.size 0 56 (zr 64) V rfl rfl N2.blk hV (by rw [zr_len]; decide) ?_; intro w3 W3; rw [splice_all _ _ (by rw [hV, zr_len])] at W3; have b3 := b1.trans ((N2.wrote W3).mono b1.size); have t3 := ht.below b3)
    | ((with_reducible show wpList _ _ _ (Oper.mk _ (Op.load 56 _) _ _ _ _ :: _) _ _); refine wpList_loadB rfl 56 64 arr56 _ rfl w1.heap.size 0 V rfl (by first | exact W3.blk.whole | exact (W3.blk.below b4).whole) hV ?_))
  go_ret2
  exact ⟨rfl, b3⟩
set_option maxHeartbeats 4000000 in
theorem record_no (x : Int) (w : World) (h : (decide (1 ≤ x) && decide (x ≤ 1099511627776)) = false) : Calls Tryd.prog 15 #[.int .i64 x] w fun e w' => e = .returned (.tuple #[.slice none 0 0, .slice none 0 0]) ∧ Below w.heap.size w w' := by
  go_enter Tryd.func15, Tryd.ntmps15
  go_wp2_with (go_at_call 37; refine (fit_any x _).mono ?_; rintro e w1 ⟨rfl, hw⟩; rw [hw, h]; clear hw)
  go_ret2
  exact ⟨rfl, Below.refl _ _⟩
set_option maxHeartbeats 4000000 in
theorem record_ok (n : Nat) (w : World) (h : fitB n = true) (ht : Tb w) : Calls Tryd.prog 15 #[.int .i64 (n : Int)] w fun e w' => ∃ g, e = .returned (.tuple #[.slice (some ⟨g, 0, none⟩) 16 16, .slice (some ⟨g, 16, none⟩) 16 16]) ∧ w.heap.size ≤ g ∧ Blk w' g 54 (recd n) ∧ Below w.heap.size w w' := by
  have hf : (decide (1 ≤ (n : Int)) && decide ((n : Int) ≤ 1099511627776)) = true := by simp [fitB] at h ⊢; omega
  have hn : n ≤ 1099511627776 := by simp [fitB] at h; omega
  clear h
  go_enter Tryd.func15, Tryd.ntmps15
  go_wp2_with (first
    | (go_at_call 37; refine (fit_any n _).mono ?_; rintro e w1 ⟨rfl, hw⟩; rw [hw, hf]; clear hw)
    | (go_at_call 29; refine (recordOf_any n w (by omega) ht).mono ?_; rintro e w2 ⟨rfl, b2⟩)
    | ((with_reducible show wpList _ _ _ (Oper.mk _ (Op.alloc 54) _ _ _ _ :: _) _ _); refine wpList_allocB rfl 54 32 arr54 rfl ?_; intro w3 N3)
    | ((with_reducible show wpList _ _ _ (Oper.mk _ (Op.store 54 _ _) _ _ _ _ :: _) _ _); refine wpList_storeB rfl 54 32 arr54 _ _ rfl w2.heap.size 0 54 (zr 32) (recd n) rfl rfl N3.blk (rec_len n) (by rw [zr_len]; decide) ?_; intro w4 W4; rw [splice_all _ _ (by rw [rec_len, zr_len])] at W4; have b4 := b2.trans ((N3.wrote W4).mono b2.size)))
  refine wp_region_any (by kernel_rfl) ?_
  change wpAny _ _ _ _ _ _ _ (World.drew _)
  obtain ⟨wd, hwd⟩ : ∃ wd, World.drew w4 = wd := ⟨_, rfl⟩
  rw [hwd]
  have Bd : Blk wd w2.heap.size 54 (recd n) := by rw [← hwd]; exact W4.blk
  have bd : Below w.heap.size w wd := by rw [← hwd]; exact b4.drew
  have hk := b2.size
  clear hwd W4 N3 b4 b2
  generalize w2.heap.size = k at *
  refine any_take 0 10 (.pointer (some ⟨k, 0, none⟩)) rfl rfl (by kernel_rfl) (by kernel_rfl) (by kernel_rfl) (fun _ _ _ h => h) (Or.inl ⟨by rfl, by intro X; go_simp⟩) ?_
  try simp only [Act.put, List.setIfInBounds_toArray, List.set_cons_zero, List.set_cons_succ]
  refine any_take 1 11 (.slice (some ⟨k, 0, none⟩) 16 16) rfl rfl (by kernel_rfl) (by kernel_rfl) (by kernel_rfl) (fun _ _ _ h => h) (Or.inl ⟨by rfl, by intro X; go_simp⟩) ?_
  try simp only [Act.put, List.setIfInBounds_toArray, List.set_cons_zero, List.set_cons_succ]
  refine any_take 2 12 (.pointer (some ⟨k, 16, none⟩)) rfl rfl (by kernel_rfl) (by kernel_rfl) (by kernel_rfl) (fun _ _ _ h => h) (Or.inl ⟨by rfl, by intro X; go_simp⟩) ?_
  try simp only [Act.put, List.setIfInBounds_toArray, List.set_cons_zero, List.set_cons_succ]
  refine any_take 3 13 (.slice (some ⟨k, 16, none⟩) 16 16) rfl rfl (by kernel_rfl) (by kernel_rfl) (by kernel_rfl) (fun _ _ _ h => h) (Or.inl ⟨by rfl, by intro X; go_simp⟩) ?_
  try simp only [Act.put, List.setIfInBounds_toArray, List.set_cons_zero, List.set_cons_succ]
  refine any_take 4 2 (.slice (some ⟨k, 0, none⟩) 16 16) rfl rfl (by kernel_rfl) (by kernel_rfl) (by kernel_rfl) (fun _ _ _ h => h) (Or.inl ⟨by rfl, by intro X; go_simp⟩) ?_
  try simp only [Act.put, List.setIfInBounds_toArray, List.set_cons_zero, List.set_cons_succ]
  refine any_take 5 3 (.slice (some ⟨k, 16, none⟩) 16 16) rfl rfl (by kernel_rfl) (by kernel_rfl) (by kernel_rfl) (fun _ _ _ h => h) (Or.inl ⟨by rfl, by intro X; go_simp⟩) ?_
  try simp only [Act.put, List.setIfInBounds_toArray, List.set_cons_zero, List.set_cons_succ]
  refine wpAny_done (by kernel_rfl) ?_ _
  go_wp2
  go_ret2
  exact ⟨k, rfl, hk, Bd, bd⟩
end Go.Proofs.YtaacggbfoejjhaaDoor
