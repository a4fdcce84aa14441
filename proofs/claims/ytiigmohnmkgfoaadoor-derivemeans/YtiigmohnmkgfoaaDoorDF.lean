/-
  Package derive: what stands for a fraction, for a count, in words.
-/
import Derived.Test.YtiigmohnmkgfoaaDoorDD
namespace Go.Proofs.YtiigmohnmkgfoaaDoor
open Go.ChangeShapes Go.WideShapes Go.ChangeAt Go.RowKit
set_option linter.unusedVariables false
set_option linter.unusedSimpArgs false

theorem txt_size (n d : Int) (hn : I64 n) (hd : I64 d) : (txt n d).size ≤ 43 := by
  have a : (⟨(Lib.itoa n).toArray⟩ : ByteArray).size ≤ 21 := Lib.itoa_length_le n hn.1 hn.2
  have b : (⟨(Lib.itoa d).toArray⟩ : ByteArray).size ≤ 21 := Lib.itoa_length_le d hd.1 hd.2
  unfold txt
  split
  · omega
  · rw [ByteArray.size_append, ByteArray.size_append]
    have : (⟨#[47]⟩ : ByteArray).size = 1 := rfl
    omega
theorem sm_i64 {x : Int} (h : Sm x) : I64 x := by unfold Sm at h; unfold I64; omega
theorem mea_sm (e s : Int) : Sm (meaN e s) ∧ Sm (meaD e s) := by
  unfold meaN meaD
  by_cases h : chkE e s = 0
  · rw [if_pos h, if_pos h]; exact mk_sm e s
  · rw [if_neg h, if_neg h]; exact ⟨Sm.zero, Sm.zero⟩
def ftxt (u : ByteArray) (e s : Int) : ByteArray := if meaE e s = 0 then u ++ txt (meaN e s) (meaD e s) else ⟨#[]⟩
def ctxt (e s : Int) : ByteArray := if cntE e s = 0 then cntS ++ ⟨(Lib.itoa (cntV e s)).toArray⟩ else ⟨#[]⟩
set_option maxRecDepth 100000 in
set_option maxHeartbeats 4000000 in
theorem fracW_any (u : ByteArray) (hu : u.size ≤ 100) (e s : Int) (k : Nat) (w : World) (hk : w.heap[k]? = some (.cells #[.string u] 9 (0, 0))) (ht : Tab w) :
    Calls Tryd.prog 60 #[.int .i64 e, .int .i64 s, .pointer (some ⟨k, 0, none⟩)] w fun en w' => en = .returned (.tuple #[.string (ftxt u e s), .int .i64 (meaE e s)]) ∧ Below w.heap.size w w' := by
  have KM := fun W => mean_any e s W
  have hn := mea_sm e s
  have KT := fun W h => text_any (meaN e s) (meaD e s) W (sm_i64 hn.1) (sm_i64 hn.2) h
  have z1 := txt_size (meaN e s) (meaD e s) (sm_i64 hn.1) (sm_i64 hn.2)
  have hkl : k < w.heap.size := row_lt hk
  clear hn
  by_cases h : meaE e s = 0
  · rw [show ftxt u e s = u ++ txt (meaN e s) (meaD e s) by simp [ftxt, h], h]
    simp only [meaV] at KM
    rw [h] at KM
    clear h
    obtain ⟨t, htt⟩ : ∃ t, txt (meaN e s) (meaD e s) = t := ⟨_, rfl⟩
    rw [htt] at KT z1 ⊢
    obtain ⟨n, hn⟩ : ∃ n, meaN e s = n := ⟨_, rfl⟩
    obtain ⟨d, hd⟩ : ∃ d, meaD e s = d := ⟨_, rfl⟩
    rw [hn, hd] at KM KT
    clear htt hn hd
    have z2 : ¬ 9223372036854775807 < u.size + t.size := by omega
    go_enter Tryd.func60, Tryd.ntmps60
    go_wp2_with (go_at_call 8; refine (KM _).mono ?_; rintro e w1 ⟨rfl, hb⟩)
    have hk1 := (hb.block k hkl).trans hk
    have cu := row_cell hk1 0 _ rfl
    have ht1 := ht.below hb
    obtain ⟨q0, q1, _, _, z⟩ := Two.new w1 (.int .i64 n) (.int .i64 d) 23
    have hB : Below w.heap.size w (w1.alloc (.cells #[.int .i64 n, .int .i64 d] 23)) := hb.alloc hb.size _
    have ht2 := ht.below hB
    have cu2 : (w1.alloc (.cells #[.int .i64 n, .int .i64 d] 23)).cell? ⟨k, 0, none⟩ = some (.string u) := (World.cell?_alloc_past _ _ _ (row_lt hk1)).trans cu
    revert hB ht2 cu2 q0 q1 z
    generalize hW : w1.alloc (.cells #[.int .i64 n, .int .i64 d] 23) = W2
    intro q0 q1 z hB ht2 cu2
    have ht3 : Tab W2.drew := ht2.below (by go_grown)
    have hk2 : k < W2.drew.heap.size := Nat.lt_of_lt_of_le hkl hB.size
    obtain ⟨b7, hb7⟩ : ∃ b7, w1.heap.size = b7 := ⟨_, rfl⟩
    rw [hb7] at q0 q1 z ⊢
    go_region_with (go_at_call 61; refine (KT _ ht3).mono ?_; rintro e w3 ⟨rfl, hb3⟩; have cu3 : w3.cell? ⟨k, 0, none⟩ = some (.string u) := (hb3.cell (p := ⟨k, 0, none⟩) hk2).trans cu2)
    all_goals go_wp2
    all_goals exact bodyPost_ret (results_tmp2 rfl _ _ _) rfl ⟨rfl, hB.drew.trans (hb3.mono hB.size)⟩
  · have hx : (meaE e s != 0) = true := by simp [h]
    rw [show ftxt u e s = ⟨#[]⟩ by simp [ftxt, h]]
    simp only [meaV] at KM
    clear h KT z1
    obtain ⟨n, hn⟩ : ∃ n, meaN e s = n := ⟨_, rfl⟩
    obtain ⟨d, hd⟩ : ∃ d, meaD e s = d := ⟨_, rfl⟩
    obtain ⟨x, hxx⟩ : ∃ x, meaE e s = x := ⟨_, rfl⟩
    rw [hn, hd, hxx] at KM
    rw [hxx] at hx ⊢
    clear hn hd hxx
    go_enter Tryd.func60, Tryd.ntmps60
    go_wp2_with (go_at_call 8; refine (KM _).mono ?_; rintro e w1 ⟨rfl, hb⟩)
    exact bodyPost_ret (results_tmp2 rfl _ _ _) rfl ⟨rfl, hb.alloc hb.size _⟩
set_option maxRecDepth 100000 in
theorem countW_any (e s : Int) (w : World) (ht : Tab w) :
    Calls Tryd.prog 53 #[.int .i64 e, .int .i64 s] w fun en w' => en = .returned (.tuple #[.string (ctxt e s), .int .i64 (cntE e s)]) ∧ Below w.heap.size w w' := by
  have KM := fun W => count_any e s W
  have hv : I64 (cntV e s) := by
    unfold cntV cntI I64
    split
    · rename_i h
      have hc : chkE e s = 0 := by
        rcases chk_three e s with a | a | a
        · exact a
        · unfold cntE at h; rw [if_neg (by omega)] at h; omega
        · unfold cntE at h; rw [if_neg (by omega)] at h; omega
      obtain ⟨h1, h2, h3, h4⟩ := chk_ok hc
      have h0 : 0 < e := by
        unfold cntE at h; rw [if_pos hc] at h
        by_cases c : e ≤ 0
        · rw [if_pos c] at h; cases h
        · omega
      have a : 0 ≤ (2 * s + e) / (2 * e) := Int.ediv_nonneg (by omega) (by omega)
      have b : (2 * s + e) / (2 * e) ≤ 2 * s + e := Int.ediv_le_self _ (by omega)
      omega
    · omega
  have KF := fun W h => format_any (cntV e s) W hv h
  have z0 : (⟨(Lib.itoa (cntV e s)).toArray⟩ : ByteArray).size ≤ 21 := Lib.itoa_length_le _ hv.1 hv.2
  clear hv
  by_cases h : cntE e s = 0
  · have E : Hid (ctxt e s = cntS ++ ⟨(Lib.itoa (cntV e s)).toArray⟩) := if_pos h
    rw [h]
    simp only [cntT] at KM
    rw [h] at KM
    clear h
    obtain ⟨t, htt⟩ : ∃ t : ByteArray, ⟨(Lib.itoa (cntV e s)).toArray⟩ = t := ⟨_, rfl⟩
    rw [htt] at KF z0 E
    obtain ⟨n, hn⟩ : ∃ n, cntV e s = n := ⟨_, rfl⟩
    rw [hn] at KM KF
    clear htt hn
    have z2 : ¬ 9223372036854775807 < 6 + t.size := by omega
    go_enter Tryd.func53, Tryd.ntmps53
    go_wp2_with (first
      | (go_at_call 10; refine (KM _).mono ?_; rintro e w1 ⟨rfl, hb⟩)
      | (go_at_call 33; refine (KF _ (ht.below hb)).mono ?_; rintro e w2 ⟨rfl, hb2⟩; have hB : Below w.heap.size w w2 := hb.trans (hb2.mono hb.size)))
    exact bodyPost_ret (results_tmp2 rfl _ _ _) rfl ⟨by rw [E.out]; rfl, hB⟩
  · have hx : (cntE e s != 0) = true := by simp [h]
    rw [show ctxt e s = ⟨#[]⟩ by simp [ctxt, h]]
    simp only [cntT] at KM
    clear h KF z0
    obtain ⟨n, hn⟩ : ∃ n, cntV e s = n := ⟨_, rfl⟩
    obtain ⟨x, hxx⟩ : ∃ x, cntE e s = x := ⟨_, rfl⟩
    rw [hn, hxx] at KM
    rw [hxx] at hx ⊢
    clear hn hxx
    go_enter Tryd.func53, Tryd.ntmps53
    go_wp2_with (go_at_call 10; refine (KM _).mono ?_; rintro e w1 ⟨rfl, hb⟩)
    exact bodyPost_ret (results_tmp2 rfl _ _ _) rfl ⟨rfl, hb⟩
end Go.Proofs.YtiigmohnmkgfoaaDoor
