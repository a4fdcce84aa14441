/-
  Package derive: what an estimate is told as, and what the document's own Text tells.
-/
import Derived.Test.YtiigmohnmkgfoaaDoorDG
namespace Go.Proofs.YtiigmohnmkgfoaaDoor
open Go.ChangeShapes Go.WideShapes Go.ChangeAt Go.RowKit
set_option linter.unusedVariables false
set_option linter.unusedSimpArgs false

theorem meanS_size : meanS.size ≤ 100 := by decide
theorem secS_size : secS.size ≤ 100 := by decide

set_option maxRecDepth 100000 in
set_option maxHeartbeats 4000000 in
theorem text1_any (e s : Int) (w : World) (ht : Tab w) : Calls Tryd.prog 14 #[.int .i64 1, .int .i64 e, .int .i64 s] w fun en w' => en = .returned (.tuple #[.string (ftxt meanS e s), .int .i64 (meaE e s)]) ∧ Below w.heap.size w w' := by
  have M := Mem.nil w
  have KF := fun k W hk h => fracW_any meanS meanS_size e s k W hk h
  obtain ⟨p, hp⟩ : ∃ p, ftxt meanS e s = p := ⟨_, rfl⟩
  obtain ⟨q, hq⟩ : ∃ q, meaE e s = q := ⟨_, rfl⟩
  rw [hp, hq] at KF ⊢
  clear hp hq
  go_enter Tryd.func14, Tryd.ntmps14
  go_wp2_with (first
      | (go_at_call 29; refine (telling1_any M).mono ?_; clear M; rintro e W1 ⟨k1, k2, rfl, M⟩)
      | ((with_reducible show wpList _ _ _ (Oper.mk (some 8) (Op.alloc 56) _ _ _ _ :: _) _ _); refine wpList_alloc M rfl rfl rt56 ?_; clear M; intro k8 W M)
      | ((with_reducible show wpList _ _ _ (Oper.mk _ (Op.store 56 _ _) _ _ _ _ :: _) _ _); (first | (refine wpList_put M rfl _ _ rfl rt56 0 #[.int .i64 1048576, fnv 50, clo k1] rfl rfl rfl rfl rfl (by simp [Value.oneCell']) ?_)); clear M; intro W M; simp only [List.set_cons_zero, List.set_cons_succ] at M; have c0 : W.cell? ⟨k8, 0, none⟩ = some (.int .i64 1048576) := row_cell (M.get (.head _)) 0 _ rfl; have c1 : W.cell? ⟨k8, 1, none⟩ = some (fnv 50) := row_cell (M.get (.head _)) 1 _ rfl; have c2 : W.cell? ⟨k8, 2, none⟩ = some (clo k1) := row_cell (M.get (.head _)) 2 _ rfl)
      | ((with_reducible show wpList _ _ _ (Oper.mk (some 21) (Op.binOp BinOp.eql 54 _ _ _) _ _ _ _ :: _) _ _); refine wpList_bin rfl rfl _ (by rfl) (eqc54 _ _) ?_)
      | (go_at_call 60; refine (KF _ _ (M.get (.tail _ (.tail _ (.head _)))) (ht.below M.below)).mono ?_; rintro e W5 ⟨rfl, hb⟩))
  exact bodyPost_ret (results_tmp2 rfl _ _ _) rfl ⟨rfl, M.below.trans (hb.mono M.below.size)⟩

set_option maxRecDepth 100000 in
set_option maxHeartbeats 4000000 in
theorem text3_any (e s : Int) (w : World) (ht : Tab w) : Calls Tryd.prog 14 #[.int .i64 3, .int .i64 e, .int .i64 s] w fun en w' => en = .returned (.tuple #[.string (ftxt secS e s), .int .i64 (meaE e s)]) ∧ Below w.heap.size w w' := by
  have M := Mem.nil w
  have KF := fun k W hk h => fracW_any secS secS_size e s k W hk h
  obtain ⟨p, hp⟩ : ∃ p, ftxt secS e s = p := ⟨_, rfl⟩
  obtain ⟨q, hq⟩ : ∃ q, meaE e s = q := ⟨_, rfl⟩
  rw [hp, hq] at KF ⊢
  clear hp hq
  go_enter Tryd.func14, Tryd.ntmps14
  go_wp2_with (first
      | (go_at_call 29; refine (telling3_any M).mono ?_; clear M; rintro e W1 ⟨k1, k2, rfl, M⟩)
      | ((with_reducible show wpList _ _ _ (Oper.mk (some 8) (Op.alloc 56) _ _ _ _ :: _) _ _); refine wpList_alloc M rfl rfl rt56 ?_; clear M; intro k8 W M)
      | ((with_reducible show wpList _ _ _ (Oper.mk _ (Op.store 56 _ _) _ _ _ _ :: _) _ _); (first | (refine wpList_put M rfl _ _ rfl rt56 0 #[.int .i64 1048576, fnv 54, clo k2] rfl rfl rfl rfl rfl (by simp [Value.oneCell']) ?_)); clear M; intro W M; simp only [List.set_cons_zero, List.set_cons_succ] at M; have c0 : W.cell? ⟨k8, 0, none⟩ = some (.int .i64 1048576) := row_cell (M.get (.head _)) 0 _ rfl; have c1 : W.cell? ⟨k8, 1, none⟩ = some (fnv 54) := row_cell (M.get (.head _)) 1 _ rfl; have c2 : W.cell? ⟨k8, 2, none⟩ = some (clo k2) := row_cell (M.get (.head _)) 2 _ rfl)
      | ((with_reducible show wpList _ _ _ (Oper.mk (some 21) (Op.binOp BinOp.eql 54 _ _ _) _ _ _ _ :: _) _ _); refine wpList_bin rfl rfl _ (by rfl) (eqc54 _ _) ?_)
      | (go_at_call 60; refine (KF _ _ (M.get (.tail _ (.head _))) (ht.below M.below)).mono ?_; rintro e W5 ⟨rfl, hb⟩))
  exact bodyPost_ret (results_tmp2 rfl _ _ _) rfl ⟨rfl, M.below.trans (hb.mono M.below.size)⟩

set_option maxRecDepth 100000 in
set_option maxHeartbeats 4000000 in
theorem text2_any (e s : Int) (w : World) (ht : Tab w) : Calls Tryd.prog 14 #[.int .i64 2, .int .i64 e, .int .i64 s] w fun en w' => en = .returned (.tuple #[.string (ctxt e s), .int .i64 (cntE e s)]) ∧ Below w.heap.size w w' := by
  have M := Mem.nil w
  have KF := fun W h => countW_any e s W h
  obtain ⟨p, hp⟩ : ∃ p, ctxt e s = p := ⟨_, rfl⟩
  obtain ⟨q, hq⟩ : ∃ q, cntE e s = q := ⟨_, rfl⟩
  rw [hp, hq] at KF ⊢
  clear hp hq
  go_enter Tryd.func14, Tryd.ntmps14
  go_wp2_with (first
      | (go_at_call 29; refine (telling2_any M).mono ?_; clear M; rintro e W1 ⟨k1, k2, rfl, M⟩)
      | ((with_reducible show wpList _ _ _ (Oper.mk (some 8) (Op.alloc 56) _ _ _ _ :: _) _ _); refine wpList_alloc M rfl rfl rt56 ?_; clear M; intro k8 W M)
      | ((with_reducible show wpList _ _ _ (Oper.mk _ (Op.store 56 _ _) _ _ _ _ :: _) _ _); (first | (refine wpList_put M rfl _ _ rfl rt56 0 #[.int .i64 1048576, fnv 52, fnv 53] rfl rfl rfl rfl rfl (by simp [Value.oneCell']) ?_)); clear M; intro W M; simp only [List.set_cons_zero, List.set_cons_succ] at M; have c0 : W.cell? ⟨k8, 0, none⟩ = some (.int .i64 1048576) := row_cell (M.get (.head _)) 0 _ rfl; have c1 : W.cell? ⟨k8, 1, none⟩ = some (fnv 52) := row_cell (M.get (.head _)) 1 _ rfl; have c2 : W.cell? ⟨k8, 2, none⟩ = some (fnv 53) := row_cell (M.get (.head _)) 2 _ rfl)
      | ((with_reducible show wpList _ _ _ (Oper.mk (some 21) (Op.binOp BinOp.eql 54 _ _ _) _ _ _ _ :: _) _ _); refine wpList_bin rfl rfl _ (by rfl) (eqf54 _ _) ?_)
      | (go_at_call 53; refine (KF _ (ht.below M.below)).mono ?_; rintro e W5 ⟨rfl, hb⟩))
  exact bodyPost_ret (results_tmp2 rfl _ _ _) rfl ⟨rfl, M.below.trans (hb.mono M.below.size)⟩
set_option maxRecDepth 100000 in
set_option maxHeartbeats 4000000 in
theorem text4_any (e s : Int) (w : World) : Calls Tryd.prog 14 #[.int .i64 4, .int .i64 e, .int .i64 s] w fun en w' => en = .returned (.tuple #[.string ⟨#[]⟩, .int .i64 46]) ∧ Below w.heap.size w w' := by
  have M := Mem.nil w
  go_enter Tryd.func14, Tryd.ntmps14
  go_wp2_with (first
      | (go_at_call 29; refine (telling4_any M).mono ?_; clear M; rintro e W1 ⟨k1, k2, rfl, M⟩)
      | ((with_reducible show wpList _ _ _ (Oper.mk (some 8) (Op.alloc 56) _ _ _ _ :: _) _ _); refine wpList_alloc M rfl rfl rt56 ?_; clear M; intro k8 W M)
      | ((with_reducible show wpList _ _ _ (Oper.mk _ (Op.store 56 _ _) _ _ _ _ :: _) _ _); (first | (refine wpList_put M rfl _ _ rfl rt56 0 #[.int .i64 1, fnv 50, .nilFunc] rfl rfl rfl rfl rfl (by simp [Value.oneCell']) ?_)); clear M; intro W M; simp only [List.set_cons_zero, List.set_cons_succ] at M; have c0 : W.cell? ⟨k8, 0, none⟩ = some (.int .i64 1) := row_cell (M.get (.head _)) 0 _ rfl; have c1 : W.cell? ⟨k8, 1, none⟩ = some (fnv 50) := row_cell (M.get (.head _)) 1 _ rfl; have c2 : W.cell? ⟨k8, 2, none⟩ = some (.nilFunc) := row_cell (M.get (.head _)) 2 _ rfl)
      | ((with_reducible show wpList _ _ _ (Oper.mk (some 21) (Op.binOp BinOp.eql 54 _ _ _) _ _ _ _ :: _) _ _); refine wpList_bin rfl rfl _ (by rfl) (eqn54 _) ?_))
  exact bodyPost_ret (results_tmp2 rfl _ _ _) rfl ⟨rfl, M.below⟩
set_option maxRecDepth 100000 in
set_option maxHeartbeats 4000000 in
theorem textN_any (k e s : Int) (w : World) (hk : k < 1 ∨ 4 < k) : Calls Tryd.prog 14 #[.int .i64 k, .int .i64 e, .int .i64 s] w fun en w' => en = .returned (.tuple #[.string ⟨#[]⟩, .int .i64 46]) ∧ Below w.heap.size w w' := by
  have M := Mem.nil w
  have HK : Hid (k < 1 ∨ 4 < k) := hk
  clear hk
  go_enter Tryd.func14, Tryd.ntmps14
  go_wp2_with (first
      | (go_at_call 29; refine (tellingN_any M _ HK.out).mono ?_; clear M; rintro e W1 ⟨rfl, M⟩)
      | ((with_reducible show wpList _ _ _ (Oper.mk (some 8) (Op.alloc 56) _ _ _ _ :: _) _ _); refine wpList_alloc M rfl rfl rt56 ?_; clear M; intro k8 W M)
      | ((with_reducible show wpList _ _ _ (Oper.mk _ (Op.store 56 _ _) _ _ _ _ :: _) _ _); (first | (refine wpList_put M rfl _ _ rfl rt56 0 zK rfl rfl rfl rfl rfl (by simp [Value.oneCell']) ?_)); clear M; intro W M; simp only [List.set_cons_zero, List.set_cons_succ] at M; have c0 : W.cell? ⟨k8, 0, none⟩ = some (.int .i64 0) := row_cell (M.get (.head _)) 0 _ rfl; have c1 : W.cell? ⟨k8, 1, none⟩ = some (.nilFunc) := row_cell (M.get (.head _)) 1 _ rfl; have c2 : W.cell? ⟨k8, 2, none⟩ = some (.nilFunc) := row_cell (M.get (.head _)) 2 _ rfl)
      | ((with_reducible show wpList _ _ _ (Oper.mk (some 21) (Op.binOp BinOp.eql 54 _ _ _) _ _ _ _ :: _) _ _); refine wpList_bin rfl rfl _ (by rfl) (eqn54 _) ?_))
  exact bodyPost_ret (results_tmp2 rfl _ _ _) rfl ⟨rfl, M.below⟩

set_option maxRecDepth 100000 in
set_option maxHeartbeats 4000000 in
theorem rtext1_any (e s : Int) (w : World) (ht : Tab w) : Calls Tryd.prog 15 #[.int .i64 1, .int .i64 e, .int .i64 s] w fun en w' => en = .returned (.tuple #[.string (ftxt meanS e s), .int .i64 (meaE e s)]) ∧ Below w.heap.size w w' := by
  have KM := fun W => rmean_any e s W
  have hn := mea_sm e s
  have KT := fun W h => rtext_any (meaN e s) (meaD e s) W (sm_i64 hn.1) (sm_i64 hn.2) h
  have z1 := txt_size (meaN e s) (meaD e s) (sm_i64 hn.1) (sm_i64 hn.2)
  clear hn
  by_cases h : meaE e s = 0
  · have E : Hid (ftxt meanS e s = meanS ++ txt (meaN e s) (meaD e s)) := if_pos h
    rw [h]
    simp only [meaV] at KM
    rw [h] at KM
    clear h
    obtain ⟨t, htt⟩ : ∃ t, txt (meaN e s) (meaD e s) = t := ⟨_, rfl⟩
    rw [htt] at KT z1 E
    obtain ⟨n, hn⟩ : ∃ n, meaN e s = n := ⟨_, rfl⟩
    obtain ⟨d, hd⟩ : ∃ d, meaD e s = d := ⟨_, rfl⟩
    rw [hn, hd] at KM KT
    clear htt hn hd
    have z2 : ¬ 9223372036854775807 < 5 + t.size := by omega
    go_enter Tryd.func15, Tryd.ntmps15
    go_wp2_with (first
      | (go_at_call 9; refine (KM _).mono ?_; rintro e w1 ⟨rfl, hb⟩; have hB : Below w.heap.size w (w1.alloc (.cells #[.int .i64 n, .int .i64 d] 23)) := hb.alloc hb.size _)
      | (go_at_call 32; refine (KT _ (ht.below hB)).mono ?_; rintro e w3 ⟨rfl, hb3⟩))
    exact bodyPost_ret (results_tmp2 rfl _ _ _) rfl ⟨by rw [E.out]; rfl, hB.trans (hb3.mono hB.size)⟩
  · have hx : (meaE e s != 0) = true := by simp [h]
    rw [show ftxt meanS e s = ⟨#[]⟩ by simp [ftxt, h]]
    simp only [meaV] at KM
    clear h KT z1
    obtain ⟨n, hn⟩ : ∃ n, meaN e s = n := ⟨_, rfl⟩
    obtain ⟨d, hd⟩ : ∃ d, meaD e s = d := ⟨_, rfl⟩
    obtain ⟨x, hxx⟩ : ∃ x, meaE e s = x := ⟨_, rfl⟩
    rw [hn, hd, hxx] at KM
    rw [hxx] at hx ⊢
    clear hn hd hxx
    go_enter Tryd.func15, Tryd.ntmps15
    go_wp2_with (go_at_call 9; refine (KM _).mono ?_; rintro e w1 ⟨rfl, hb⟩)
    exact bodyPost_ret (results_tmp2 rfl _ _ _) rfl ⟨rfl, hb.alloc hb.size _⟩

set_option maxRecDepth 100000 in
set_option maxHeartbeats 4000000 in
theorem rtext3_any (e s : Int) (w : World) (ht : Tab w) : Calls Tryd.prog 15 #[.int .i64 3, .int .i64 e, .int .i64 s] w fun en w' => en = .returned (.tuple #[.string (ftxt secS e s), .int .i64 (meaE e s)]) ∧ Below w.heap.size w w' := by
  have KM := fun W => rmean_any e s W
  have hn := mea_sm e s
  have KT := fun W h => rtext_any (meaN e s) (meaD e s) W (sm_i64 hn.1) (sm_i64 hn.2) h
  have z1 := txt_size (meaN e s) (meaD e s) (sm_i64 hn.1) (sm_i64 hn.2)
  clear hn
  by_cases h : meaE e s = 0
  · have E : Hid (ftxt secS e s = secS ++ txt (meaN e s) (meaD e s)) := if_pos h
    rw [h]
    simp only [meaV] at KM
    rw [h] at KM
    clear h
    obtain ⟨t, htt⟩ : ∃ t, txt (meaN e s) (meaD e s) = t := ⟨_, rfl⟩
    rw [htt] at KT z1 E
    obtain ⟨n, hn⟩ : ∃ n, meaN e s = n := ⟨_, rfl⟩
    obtain ⟨d, hd⟩ : ∃ d, meaD e s = d := ⟨_, rfl⟩
    rw [hn, hd] at KM KT
    clear htt hn hd
    have z2 : ¬ 9223372036854775807 < 7 + t.size := by omega
    go_enter Tryd.func15, Tryd.ntmps15
    go_wp2_with (first
      | (go_at_call 9; refine (KM _).mono ?_; rintro e w1 ⟨rfl, hb⟩; have hB : Below w.heap.size w (w1.alloc (.cells #[.int .i64 n, .int .i64 d] 23)) := hb.alloc hb.size _)
      | (go_at_call 32; refine (KT _ (ht.below hB)).mono ?_; rintro e w3 ⟨rfl, hb3⟩))
    exact bodyPost_ret (results_tmp2 rfl _ _ _) rfl ⟨by rw [E.out]; rfl, hB.trans (hb3.mono hB.size)⟩
  · have hx : (meaE e s != 0) = true := by simp [h]
    rw [show ftxt secS e s = ⟨#[]⟩ by simp [ftxt, h]]
    simp only [meaV] at KM
    clear h KT z1
    obtain ⟨n, hn⟩ : ∃ n, meaN e s = n := ⟨_, rfl⟩
    obtain ⟨d, hd⟩ : ∃ d, meaD e s = d := ⟨_, rfl⟩
    obtain ⟨x, hxx⟩ : ∃ x, meaE e s = x := ⟨_, rfl⟩
    rw [hn, hd, hxx] at KM
    rw [hxx] at hx ⊢
    clear hn hd hxx
    go_enter Tryd.func15, Tryd.ntmps15
    go_wp2_with (go_at_call 9; refine (KM _).mono ?_; rintro e w1 ⟨rfl, hb⟩)
    exact bodyPost_ret (results_tmp2 rfl _ _ _) rfl ⟨rfl, hb.alloc hb.size _⟩

theorem cnt_i64 (e s : Int) : I64 (cntV e s) := by
  unfold cntV cntI I64
  split
  · rename_i h
    have hc : chkE e s = 0 := by
      rcases chk_three e s with a | a | a
      · exact a
      · unfold cntE at h; rw [if_neg (by omega)] at h; omega
      · unfold cntE at h; rw [if_neg (by omega)] at h; omega
    obtain ⟨h1, h2, h3, h4⟩ := chk_ok hc
    have h0 : 0 < e := by
      unfold cntE at h; rw [if_pos hc] at h
      by_cases c : e ≤ 0
      · rw [if_pos c] at h; cases h
      · omega
    have a : 0 ≤ (2 * s + e) / (2 * e) := Int.ediv_nonneg (by omega) (by omega)
    have b : (2 * s + e) / (2 * e) ≤ 2 * s + e := Int.ediv_le_self _ (by omega)
    omega
  · omega
set_option maxRecDepth 100000 in
set_option maxHeartbeats 4000000 in
theorem rtext2_any (e s : Int) (w : World) (ht : Tab w) : Calls Tryd.prog 15 #[.int .i64 2, .int .i64 e, .int .i64 s] w fun en w' => en = .returned (.tuple #[.string (ctxt e s), .int .i64 (cntE e s)]) ∧ Below w.heap.size w w' := by
  have KM := fun W => rcount_any e s W
  have hv := cnt_i64 e s
  have KF := fun W h => format_any (cntV e s) W hv h
  have z0 : (⟨(Lib.itoa (cntV e s)).toArray⟩ : ByteArray).size ≤ 21 := Lib.itoa_length_le _ hv.1 hv.2
  clear hv
  by_cases h : cntE e s = 0
  · have E : Hid (ctxt e s = cntS ++ ⟨(Lib.itoa (cntV e s)).toArray⟩) := if_pos h
    rw [h]
    simp only [cntT] at KM
    rw [h] at KM
    clear h
    obtain ⟨t, htt⟩ : ∃ t : ByteArray, ⟨(Lib.itoa (cntV e s)).toArray⟩ = t := ⟨_, rfl⟩
    rw [htt] at KF z0 E
    obtain ⟨n, hn⟩ : ∃ n, cntV e s = n := ⟨_, rfl⟩
    rw [hn] at KM KF
    clear htt hn
    have z2 : ¬ 9223372036854775807 < 6 + t.size := by omega
    go_enter Tryd.func15, Tryd.ntmps15
    go_wp2_with (first
      | (go_at_call 11; refine (KM _).mono ?_; rintro e wx ⟨rfl, hwx⟩; rw [hwx]; clear hwx wx)
      | (go_at_call 33; refine (KF _ ht).mono ?_; rintro e w2 ⟨rfl, hb2⟩))
    exact bodyPost_ret (results_tmp2 rfl _ _ _) rfl ⟨by rw [E.out]; rfl, hb2⟩
  · have hx : (cntE e s != 0) = true := by simp [h]
    rw [show ctxt e s = ⟨#[]⟩ by simp [ctxt, h]]
    simp only [cntT] at KM
    clear h KF z0
    obtain ⟨n, hn⟩ : ∃ n, cntV e s = n := ⟨_, rfl⟩
    obtain ⟨x, hxx⟩ : ∃ x, cntE e s = x := ⟨_, rfl⟩
    rw [hn, hxx] at KM
    rw [hxx] at hx ⊢
    clear hn hxx
    go_enter Tryd.func15, Tryd.ntmps15
    go_wp2_with (go_at_call 11; refine (KM _).mono ?_; rintro e wx ⟨rfl, hwx⟩; rw [hwx]; clear hwx wx)
    exact bodyPost_ret (results_tmp2 rfl _ _ _) rfl ⟨rfl, Below.refl _ _⟩
theorem rtextN_any (k e s : Int) (w : World) (hk : k < 1 ∨ 4 ≤ k) : Calls Tryd.prog 15 #[.int .i64 k, .int .i64 e, .int .i64 s] w fun en w' => en = .returned (.tuple #[.string ⟨#[]⟩, .int .i64 46]) ∧ Below w.heap.size w w' := by
  have f1 : (k == 1) = false := by simp; omega
  have f2 : (k == 2) = false := by simp; omega
  have f3 : (k == 3) = false := by simp; omega
  clear hk
  go_enter Tryd.func15, Tryd.ntmps15
  go_wp2
  exact bodyPost_ret (results_tmp2 rfl _ _ _) rfl ⟨rfl, Below.refl _ _⟩
end Go.Proofs.YtiigmohnmkgfoaaDoor
