/-
  Package topo: the walk through the law TopoBack.
-/
import Derived.Test.YthpdaiaakpimkaaQ0
namespace Go.Proofs.Ythpdaiaakpimkaa
open Go.ChangeShapes Go.WideShapes Go.ChangeAt Go.RowKit
set_option linter.unusedVariables false
set_option linter.unusedSimpArgs false

set_option maxRecDepth 100000 in
set_option maxHeartbeats 8000000 in
theorem back_none (id : Int) (a : Option Addr) (len cap : Nat) (zs : List Int) (t : Nat) (v : Int) (w : World) (R : Row w a len cap zs) (hf : Ft id zs (t : Int)) (hr : rf id zs v ≠ 0) (hno : ¬ ix v zs < zs.length) : Calls Try.prog 6 #[.int .i64 id, .slice a len cap, .int .i64 (t : Int), .int .i64 v] w fun e w' => e = .returned (.bool true) ∧ Below w.heap.size w w' := by
  have K8 := rfit_any id a len cap zs (t : Int) w R
  rw [ft_true hf] at K8
  have HS : zs.length = len := R.size
  have hl6 : len ≤ 6 := by have := hf.2.1; rw [HS] at this; exact this
  have ht : t < len ∨ t = 0 := by have := hf.2.2.2.1; rw [HS] at this; omega
  have hnd := hf.nd
  have RW := R
  have B := Below.refl w.heap.size w
  obtain ⟨r, hre⟩ : ∃ r, rf id zs v = r := ⟨_, rfl⟩
  have hr0 : (r == 0) = false := by rw [← hre]; simpa using hr
  have K11 : ∀ W, Row W a len cap zs → Calls Try.prog 11 #[.int .i64 id, .slice a len cap, .int .i64 v] W fun e w' => ∃ a' c', e = .returned (.tuple #[.slice a' len c', .int .i64 r]) ∧ Row w' a' len c' (zs) ∧ Below W.heap.size W w' := fun W rr => by
    have h := link_any id a len cap zs v W rr (by omega)
    rw [show lnk id zs v = (zs, r) from by unfold lnk; rw [if_neg hr, hre]] at h
    dsimp only at h
    rw [show (zs).length = len from by exact HS] at h
    exact h
  have K16 : ∀ W, Row W a len cap zs → Calls Try.prog 16 #[.slice a len cap, .int .i64 (t : Int), .int .i64 v] W fun e w' => ∃ a' c', e = .returned (.tuple #[.slice a' len c', .int .i64 (t : Int), .int .i64 44]) ∧ Row w' a' len c' zs ∧ Below W.heap.size W w' := fun W r => by
    have h := unlink_any a len cap zs t v W r (by omega) ht
    rw [show un zs t v = (zs, (t : Int), 44) from by unfold un; rw [if_neg hno]] at h
    dsimp only at h
    rw [HS] at h
    exact h
  have K14 : ∀ W, Row W a len cap zs → Calls Try.prog 14 #[.slice a len cap, .int .i64 v] W fun e w' => e = .returned (.bool false) ∧ w' = W := fun W r => by
    have h := has_any a len cap zs v W r
    rw [show hs v zs = false from by unfold hs; simpa using hno] at h
    exact h
  clear R hf hr hre hno hnd HS hl6 ht
  go_enter Try.func6, Try.ntmps6
  go_wp2_with (first
    | (go_at_call 8; refine K8.mono ?_; clear K8; rintro e w1 ⟨rfl, hw⟩; rw [hw]; clear hw w1)
    | (go_at_call 11; refine (K11 _ RW).mono ?_; clear K11; rintro e w2 ⟨a2, c2, rfl, RL, b2⟩; replace RW := RW.below b2; replace B := B.trans (b2.mono B.size); clear b2; clear RL)
    | (go_at_call 16; refine (K16 _ RW).mono ?_; clear K16; rintro e w6 ⟨a6, c6, rfl, RM, b6⟩; replace RW := RW.below b6; replace B := B.trans (b6.mono B.size); clear b6)
    | (go_at_call 14; refine (K14 _ RW).mono ?_; clear K14; rintro e w7 ⟨rfl, hw⟩; rw [hw]; clear hw w7)
    | (go_at_call 13; refine (same_any a6 len c6 a cap zs _ RM RW).mono ?_; clear RM; rintro e w8 ⟨rfl, b8⟩; replace RW := RW.below b8; replace B := B.trans (b8.mono B.size); clear b8)
    | (go_at_call 9; refine (awake_any _).mono ?_; rintro e w9 ⟨rfl, b9⟩; replace B := B.trans (b9.mono B.size); clear b9))
  go_ret
  exact ⟨rfl, B⟩
set_option maxRecDepth 100000 in
set_option maxHeartbeats 8000000 in
theorem back_link (id : Int) (a : Option Addr) (len cap : Nat) (zs : List Int) (t : Nat) (v : Int) (w : World) (R : Row w a len cap zs) (hf : Ft id zs (t : Int)) (hr : rf id zs v = 0) : Calls Try.prog 6 #[.int .i64 id, .slice a len cap, .int .i64 (t : Int), .int .i64 v] w fun e w' => e = .returned (.bool true) ∧ Below w.heap.size w w' := by
  have K8 := rfit_any id a len cap zs (t : Int) w R
  rw [ft_true hf] at K8
  have HS : zs.length = len := R.size
  have hl6 : len ≤ 6 := by have := hf.2.1; rw [HS] at this; exact this
  have ht : t < len ∨ t = 0 := by have := hf.2.2.2.1; rw [HS] at this; omega
  have hnd := hf.nd
  have RW := R
  have B := Below.refl w.heap.size w
  have hh := (rf_zero.1 hr).2.2.1
  have hno : ¬ ix v zs < zs.length := by unfold hs at hh; simpa using hh
  have K11 : ∀ W, Row W a len cap zs → Calls Try.prog 11 #[.int .i64 id, .slice a len cap, .int .i64 v] W fun e w' => ∃ a' c', e = .returned (.tuple #[.slice a' (len + 1) c', .int .i64 0]) ∧ Row w' a' (len + 1) c' (zs ++ [v]) ∧ Below W.heap.size W w' := fun W rr => by
    have h := link_any id a len cap zs v W rr (by omega)
    rw [show lnk id zs v = (zs ++ [v], 0) from by unfold lnk; rw [if_pos hr]] at h
    dsimp only at h
    rw [show (zs ++ [v]).length = (len + 1) from by simp [HS]] at h
    exact h
  have K16 : ∀ W, Row W a len cap zs → Calls Try.prog 16 #[.slice a len cap, .int .i64 (t : Int), .int .i64 v] W fun e w' => ∃ a' c', e = .returned (.tuple #[.slice a' len c', .int .i64 (t : Int), .int .i64 44]) ∧ Row w' a' len c' zs ∧ Below W.heap.size W w' := fun W r => by
    have h := unlink_any a len cap zs t v W r (by omega) ht
    rw [show un zs t v = (zs, (t : Int), 44) from by unfold un; rw [if_neg hno]] at h
    dsimp only at h
    rw [HS] at h
    exact h
  have K14 : ∀ W, Row W a len cap zs → Calls Try.prog 14 #[.slice a len cap, .int .i64 v] W fun e w' => e = .returned (.bool false) ∧ w' = W := fun W r => by
    have h := has_any a len cap zs v W r
    rw [show hs v zs = false from by unfold hs; simpa using hno] at h
    exact h
  have K7 : ∀ W b c, Row W b (len + 1) c (zs ++ [v]) → Calls Try.prog 7 #[.int .i64 id, .slice b (len + 1) c, .int .i64 (t : Int)] W fun e w' => e = .returned (.bool true) ∧ w' = W := fun W b c r => by
    have h := fit_any id b (len + 1) c (zs ++ [v]) (t : Int) W r
    rw [ft_true (link_fit hf hr)] at h
    exact h
  have K14b : ∀ W b c, Row W b (len + 1) c (zs ++ [v]) → Calls Try.prog 14 #[.slice b (len + 1) c, .int .i64 v] W fun e w' => e = .returned (.bool true) ∧ w' = W := fun W b c r => by
    have h := has_any b (len + 1) c (zs ++ [v]) v W r
    rw [hs_snoc hh] at h
    exact h
  have K16b : ∀ W b c, Row W b (len + 1) c (zs ++ [v]) → Calls Try.prog 16 #[.slice b (len + 1) c, .int .i64 (t : Int), .int .i64 v] W fun e w' => ∃ a' c', e = .returned (.tuple #[.slice a' len c', .int .i64 (t : Int), .int .i64 0]) ∧ Row w' a' len c' zs ∧ Below W.heap.size W w' := fun W b c r => by
    have h := unlink_any b (len + 1) c (zs ++ [v]) t v W r (by omega) (by omega)
    rw [un_snoc (by rw [HS]; exact ht) hh] at h
    dsimp only at h
    rw [HS] at h
    exact h
  have hwl : IntKind.i64.wrap ((len : Int) + 1) = (len : Int) + 1 := by rw [IntKind.wrap_i64]; omega
  obtain ⟨n1, hn1⟩ : ∃ n1, len + 1 = n1 := ⟨_, rfl⟩
  have hn1I : (n1 : Int) = (len : Int) + 1 := by omega
  rw [hn1] at K11 K7 K14b K16b
  obtain ⟨zv, hzv⟩ : ∃ zv, zs ++ [v] = zv := ⟨_, rfl⟩
  rw [hzv] at K11 K7 K14b K16b
  clear R hf hr hh hno hnd HS hl6 ht hzv hn1
  go_enter Try.func6, Try.ntmps6
  go_wp2_with (first
    | (go_at_call 8; refine K8.mono ?_; clear K8; rintro e w1 ⟨rfl, hw⟩; rw [hw]; clear hw w1)
    | (go_at_call 11; refine (K11 _ RW).mono ?_; clear K11; rintro e w2 ⟨a2, c2, rfl, RL, b2⟩; replace RW := RW.below b2; replace B := B.trans (b2.mono B.size); clear b2)
    | (go_at_call 7; refine (K7 _ _ _ RL).mono ?_; clear K7; rintro e w3 ⟨rfl, hw⟩; rw [hw]; clear hw w3)
    | (go_at_call 14; refine (K14b _ _ _ RL).mono ?_; clear K14b; rintro e w3 ⟨rfl, hw⟩; rw [hw]; clear hw w3)
    | (go_at_call 16; refine (K16b _ _ _ RL).mono ?_; clear K16b RL; rintro e w4 ⟨a4, c4, rfl, RB, b4⟩; replace RW := RW.below b4; replace B := B.trans (b4.mono B.size); clear b4)
    | (go_at_call 13; refine (same_any a4 len c4 a cap zs _ RB RW).mono ?_; clear RB; rintro e w5 ⟨rfl, b5⟩; replace RW := RW.below b5; replace B := B.trans (b5.mono B.size); clear b5)
    | (go_at_call 16; refine (K16 _ RW).mono ?_; clear K16; rintro e w6 ⟨a6, c6, rfl, RM, b6⟩; replace RW := RW.below b6; replace B := B.trans (b6.mono B.size); clear b6)
    | (go_at_call 14; refine (K14 _ RW).mono ?_; clear K14; rintro e w7 ⟨rfl, hw⟩; rw [hw]; clear hw w7)
    | (go_at_call 13; refine (same_any a6 len c6 a cap zs _ RM RW).mono ?_; clear RM; rintro e w8 ⟨rfl, b8⟩; replace RW := RW.below b8; replace B := B.trans (b8.mono B.size); clear b8)
    | (go_at_call 9; refine (awake_any _).mono ?_; rintro e w9 ⟨rfl, b9⟩; replace B := B.trans (b9.mono B.size); clear b9))
  go_ret
  exact ⟨rfl, B⟩
set_option maxRecDepth 100000 in
set_option maxHeartbeats 8000000 in
theorem back_cut (id : Int) (a : Option Addr) (len cap : Nat) (zs : List Int) (t : Nat) (v : Int) (w : World) (R : Row w a len cap zs) (hf : Ft id zs (t : Int)) (hx : ix v zs < zs.length) : Calls Try.prog 6 #[.int .i64 id, .slice a len cap, .int .i64 (t : Int), .int .i64 v] w fun e w' => e = .returned (.bool true) ∧ Below w.heap.size w w' := by
  have K8 := rfit_any id a len cap zs (t : Int) w R
  rw [ft_true hf] at K8
  have HS : zs.length = len := R.size
  have hl6 : len ≤ 6 := by have := hf.2.1; rw [HS] at this; exact this
  have ht : t < len ∨ t = 0 := by have := hf.2.2.2.1; rw [HS] at this; omega
  have hnd := hf.nd
  have RW := R
  have B := Below.refl w.heap.size w
  have htl : t < len := by rw [HS] at hx; omega
  have hh : hs v zs = true := by unfold hs; simpa using hx
  have hr : rf id zs v ≠ 0 := fun e => by have := (rf_zero.1 e).2.2.1; rw [hh] at this; cases this
  obtain ⟨r, hre⟩ : ∃ r, rf id zs v = r := ⟨_, rfl⟩
  have hr0 : (r == 0) = false := by rw [← hre]; simpa using hr
  have K11 : ∀ W, Row W a len cap zs → Calls Try.prog 11 #[.int .i64 id, .slice a len cap, .int .i64 v] W fun e w' => ∃ a' c', e = .returned (.tuple #[.slice a' len c', .int .i64 r]) ∧ Row w' a' len c' (zs) ∧ Below W.heap.size W w' := fun W rr => by
    have h := link_any id a len cap zs v W rr (by omega)
    rw [show lnk id zs v = (zs, r) from by unfold lnk; rw [if_neg hr, hre]] at h
    dsimp only at h
    rw [show (zs).length = len from by exact HS] at h
    exact h
  obtain ⟨mz, hmz⟩ : ∃ mz, unL zs v = mz := ⟨_, rfl⟩
  obtain ⟨q, hq⟩ : ∃ q, unT zs t v = q := ⟨_, rfl⟩
  obtain ⟨L, hL⟩ : ∃ L, len - 1 = L := ⟨_, rfl⟩
  have hlen : mz.length = L := by rw [← hmz, unL_len hx, HS]; exact hL
  have hql : q < L ∨ q = 0 := by rw [← hq, ← hL, ← HS]; exact unT_lt (by rw [HS]; exact htl) hx
  have hmnd : Nd mz := by rw [← hmz]; exact unL_nd hnd hx
  have K16 : ∀ W, Row W a len cap zs → Calls Try.prog 16 #[.slice a len cap, .int .i64 (t : Int), .int .i64 v] W fun e w' => ∃ a' c', e = .returned (.tuple #[.slice a' L c', .int .i64 (q : Int), .int .i64 0]) ∧ Row w' a' L c' mz ∧ Below W.heap.size W w' := fun W r => by
    have h := unlink_any a len cap zs t v W r (by omega) ht
    rw [show un zs t v = (mz, (q : Int), 0) from by unfold un; rw [if_pos hx, hmz, hq]] at h
    dsimp only at h
    rw [hlen] at h
    exact h
  have K7 : ∀ W b c, Row W b L c mz → Calls Try.prog 7 #[.int .i64 id, .slice b L c, .int .i64 (q : Int)] W fun e w' => e = .returned (.bool true) ∧ w' = W := fun W b c r => by
    have h := fit_any id b L c mz (q : Int) W r
    rw [ft_true (by rw [← hmz, ← hq]; exact unlink_fit hf hx)] at h
    exact h
  have K14 : ∀ W b c, Row W b L c mz → Calls Try.prog 14 #[.slice b L c, .int .i64 v] W fun e w' => e = .returned (.bool false) ∧ w' = W := fun W b c r => by
    have h := has_any b L c mz v W r
    rw [show hs v mz = false from by rw [← hmz]; exact hs_unL hnd hx] at h
    exact h
  have K20 : ∀ W y, Row W a len cap zs → Calls Try.prog 20 #[.slice a len cap, .int .i64 (t : Int), .int .i64 y] W fun e w' => e = .returned (.int .i64 (wt zs t y)) ∧ Below W.heap.size W w' := fun W y r => wait_any a len cap zs t y W r (by omega) ht hnd
  have K20b : ∀ W b c y, Row W b L c mz → Calls Try.prog 20 #[.slice b L c, .int .i64 (q : Int), .int .i64 y] W fun e w' => e = .returned (.int .i64 (wt mz q y)) ∧ Below W.heap.size W w' := fun W b c y r => wait_any b L c mz q y W r (by omega) hql hmnd
  have HW : Hid (∀ j, j < L → (wt mz q (mz.getD j 0) = wt zs t (mz.getD j 0) ∨ wt mz q (mz.getD j 0) = wt zs t (mz.getD j 0) - 1) ∧ 0 ≤ wt zs t (mz.getD j 0) ∧ wt zs t (mz.getD j 0) ≤ 100) := by
    show ∀ j, j < L → _
    intro j hj
    refine ⟨?_, ?_⟩
    · rw [← hmz, ← hq]; exact wt_cut hnd (by rw [HS]; exact htl) hx (by rw [HS, hL]; exact hj)
    · unfold wt
      split
      · rename_i h8
        have := ds_lt (x := ix (mz.getD j 0) zs) (L := zs.length) (t := t) (by rw [HS]; exact htl)
        rw [HS] at this ⊢
        omega
      · omega
  have HL : Hid (L ≤ 6) := by show L ≤ 6; omega
  clear R hf hr hre hh hx hnd HS hl6 ht htl hmz hq hL hlen hql hmnd
  go_enter Try.func6, Try.ntmps6
  go_wp2_with (first
    | (go_at_call 8; refine K8.mono ?_; clear K8; rintro e w1 ⟨rfl, hw⟩; rw [hw]; clear hw w1)
    | (go_at_call 11; refine (K11 _ RW).mono ?_; clear K11; rintro e w2 ⟨a2, c2, rfl, RL, b2⟩; replace RW := RW.below b2; replace B := B.trans (b2.mono B.size); clear b2; clear RL)
    | (go_at_call 16; refine (K16 _ RW).mono ?_; clear K16; rintro e w4 ⟨a4, c4, rfl, RM, b4⟩; replace RW := RW.below b4; replace B := B.trans (b4.mono B.size); clear b4)
    | (go_at_call 7; refine (K7 _ _ _ RM).mono ?_; clear K7; rintro e w3 ⟨rfl, hw⟩; rw [hw]; clear hw w3)
    | (go_at_call 14; refine (K14 _ _ _ RM).mono ?_; clear K14; rintro e w3 ⟨rfl, hw⟩; rw [hw]; clear hw w3))
  go_loopg [119] L (fun gk v119 wr => ∃ (j : Nat) (Wo : World), Wo = wr ∧ v119 = .int .i64 (j : Int) ∧ j + gk = L ∧ Row Wo a4 L c4 mz ∧ Row Wo a len cap zs ∧ Below w.heap.size w Wo)
  case atStart => exact ⟨0, _, rfl, by first | rfl | go_num, by omega, RM, RW, B⟩
  case round =>
    clear RM RW B
    obtain ⟨j, Wo, rfl, rfl, hgj, RM, RW, B⟩ := hrel
    have HG : Hid (j + gk = L) := hgj
    by_cases hj : j < L
    case pos =>
      have HJ : Hid (j < L) := hj
      have hjI : (j : Int) < (L : Int) := by omega
      have hwj := HW.out j hj
      have K1 := fun W r => K20 W (mz.getD j 0) r
      have K2 := fun W b c r => K20b W b c (mz.getD j 0) r
      have RM2 := RM
      obtain ⟨b, off, rfl, hb, hc⟩ := RM2.mem.resolve_left (by omega)
      have c0 := hc j hj
      obtain ⟨y, hy⟩ : ∃ y, mz.getD j 0 = y := ⟨_, rfl⟩
      rw [hy] at c0 hwj
      simp only [hy] at K1 K2
      obtain ⟨x1, hx1⟩ : ∃ x, wt zs t y = x := ⟨_, rfl⟩
      obtain ⟨x2, hx2⟩ : ∃ x, wt mz q y = x := ⟨_, rfl⟩
      rw [hx1, hx2] at hwj
      simp only [hx1] at K1
      simp only [hx2] at K2
      have hwr : IntKind.i64.wrap ((j : Int) + 1) = (j : Int) + 1 := by rw [IntKind.wrap_i64]; have := HL.out; omega
      have hw1 : IntKind.i64.wrap (x1 - 1) = x1 - 1 := by rw [IntKind.wrap_i64]; omega
      clear hy hx1 hx2 hc hb hgj hj K20 K20b RM2
      by_cases he : x2 = x1
      · have he' : (x2 != x1) = false := by simpa using he
        clear he hwj
        go_wp2_with (first
          | (go_at_call 20; have K1x := K1; refine (K1 _ RW).mono ?_; clear K1; rintro e w5 ⟨rfl, b5⟩; replace RM := RM.below b5; replace RW := RW.below b5; replace B := B.trans (b5.mono B.size); clear b5)
          | (go_at_call 20; refine (K2 _ _ _ RM).mono ?_; clear K2; rintro e w6 ⟨rfl, b6⟩; replace RM := RM.below b6; replace RW := RW.below b6; replace B := B.trans (b6.mono B.size); clear b6))
        go_roundg (gk - 1)
        case measure => have := HG.out; have := HJ.out; omega
        case rel => exact ⟨j + 1, _, rfl, by first | rfl | go_num, by have := HG.out; have := HJ.out; omega, RM, RW, B⟩
      · have he' : (x2 != x1) = true := by simpa using he
        have he2 : (x2 != x1 - 1) = false := by have := hwj.1.resolve_left he; simpa using this
        clear he hwj
        go_wp2_with (first
          | (go_at_call 20; have K1x := K1; refine (K1 _ RW).mono ?_; clear K1; rintro e w5 ⟨rfl, b5⟩; replace RM := RM.below b5; replace RW := RW.below b5; replace B := B.trans (b5.mono B.size); clear b5)
          | (go_at_call 20; refine (K2 _ _ _ RM).mono ?_; clear K2; rintro e w6 ⟨rfl, b6⟩; replace RM := RM.below b6; replace RW := RW.below b6; replace B := B.trans (b6.mono B.size); clear b6))
        go_roundg (gk - 1)
        case measure => have := HG.out; have := HJ.out; omega
        case rel => exact ⟨j + 1, _, rfl, by first | rfl | go_num, by have := HG.out; have := HJ.out; omega, RM, RW, B⟩
    case neg =>
      have hjI : ¬ (j : Int) < (L : Int) := by omega
      clear hgj hj
      go_wp2_with (first | (go_at_call 9; refine (awake_any _).mono ?_; rintro e w9 ⟨rfl, b9⟩; replace B := B.trans (b9.mono B.size); clear b9))
      go_ret
      exact ⟨rfl, B⟩
set_option maxRecDepth 100000 in
set_option maxHeartbeats 8000000 in
theorem back_walk (id : Int) (a : Option Addr) (len cap : Nat) (zs : List Int) (tI v : Int) (w : World) (R : Row w a len cap zs) : Calls Try.prog 6 #[.int .i64 id, .slice a len cap, .int .i64 tI, .int .i64 v] w fun e w' => e = .returned (.bool true) ∧ Below w.heap.size w w' := by
  by_cases hf : Ft id zs tI
  · obtain ⟨t, rfl, ht⟩ := hf.turn
    by_cases hr : rf id zs v = 0
    · exact back_link id a len cap zs t v w R hf hr
    · by_cases hx : ix v zs < zs.length
      · exact back_cut id a len cap zs t v w R hf hx
      · exact back_none id a len cap zs t v w R hf hr hx
  · have K8 := rfit_any id a len cap zs tI w R
    rw [ft_false hf] at K8
    clear R hf
    go_enter Try.func6, Try.ntmps6
    go_wp2_with (first
      | (go_at_call 8; refine K8.mono ?_; clear K8; rintro e w1 ⟨rfl, hw⟩; rw [hw]; clear hw w1)
      | (go_at_call 9; refine (awake_any _).mono ?_; rintro e w1 ⟨rfl, B1⟩))
    go_ret
    exact ⟨rfl, B1⟩
end Go.Proofs.Ythpdaiaakpimkaa
