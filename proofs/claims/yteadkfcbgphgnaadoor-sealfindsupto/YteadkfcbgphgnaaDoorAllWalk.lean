/-
  The law SealAll, walked.
-/
import Derived.Test.YteadkfcbgphgnaaDoorOpensWalk
namespace Go.Proofs.YteadkfcbgphgnaaDoor
open Go.ChangeShapes Go.WideShapes Go.ChangeAt Go.RowKit
set_option linter.unusedVariables false

theorem byt_sal {l : List Int} (hb : Byt l) (f : Nat) (hf : l.length ≤ f) : ∀ b ∈ (salF f 0 l).map (·.1), Byt b := by
  intro b hm
  obtain ⟨q, hq, rfl⟩ := List.mem_map.1 hm
  obtain ⟨_, h⟩ := sal_at f 0 l q hf hq
  exact byt_body (fun c hc => hb c (List.mem_of_mem_drop hc)) h
theorem same_below (a a2 : Option Addr) (len cap cap2 : Nat) (bs : List (List Int)) (w : World) (R : RowsB w a len cap bs) (R2 : RowsB w a2 len cap2 bs) (hl : len ≤ 9223372036854775807) :
    Calls Tryd.prog 22 #[.slice a len cap, .slice a2 len cap2] w fun e w' => e = .returned (.bool true) ∧ Below w.heap.size w w' :=
  (same_any a a2 len cap cap2 bs w R R2 hl).mono fun e w' ⟨h1, n, h2⟩ => ⟨h1, by rw [h2]; exact below_drewN (Below.refl _ _) n⟩
theorem bods_rows {base : Nat} {w : World} {v : Value} {bs : List (List Int)} {n : Nat} (h : Bods base w v bs) (hb : ∀ b ∈ bs, Byt b) (hn : bs.length = n) : ∃ a cap, v = .slice a n cap ∧ RowsB w a n cap bs ∧ cap ≤ 9223372036854775807 ∧ (0 < n → a ≠ none) := by
  obtain ⟨a, cap, rfl, R, hc, ha⟩ := h.rows hb
  rw [hn] at R
  exact ⟨a, cap, by rw [hn], R, hc, fun hp => ha (by intro e; rw [e] at hn; simp at hn; omega)⟩
theorem pls_cells {base : Nat} {w : World} {v : Value} {ps : List Nat} {n : Nat} (h : Pls base w v ps) (hn : ps.length = n) : ∃ a cap, v = .slice a n cap ∧ n ≤ cap ∧ cap ≤ 9223372036854775807 ∧ (0 < n → ∃ g, a = some ⟨g, 0, none⟩ ∧ g < w.heap.size ∧ ∀ k, k < n → w.cell? ⟨g, k, none⟩ = some (.int .i64 (ps.getD k 0 : Nat))) := by
  obtain ⟨a, cap, rfl, h1, h2, h3⟩ := h.len
  rw [hn] at h1 h3
  exact ⟨a, cap, by rw [hn], h1, h2, fun hp => h3 (by intro e; rw [e] at hn; simp at hn; omega)⟩

set_option maxRecDepth 100000 in
set_option maxHeartbeats 8000000 in
theorem all_walk (a : Option Addr) (len cap : Nat) (bs : List (List Int)) (a2 : Option Addr) (len2 cap2 : Nat) (zs : List Int) (w : World) (RB : RowsB w a len cap bs) (R : Row .u8 w a2 len2 cap2 zs) (ht : Tab w)
    (hbb : ∀ b ∈ bs, Byt b) (hl : len ≤ 9223372036854775807) (hs : 8 * bsum bs + len2 ≤ 1099511627776) :
    Calls Tryd.prog 5 #[.slice a len cap, .slice a2 len2 cap2] w fun e w' => e = .returned (.bool true) ∧ Below w.heap.size w w' := by
  have hL : (sealL bs zs).length ≤ 1099511627776 := by
    have := frames_len bs
    have := R.size
    unfold sealL
    rw [List.length_append]
    omega
  have hLb : Byt (sealL bs zs) := byt_app (byt_frames hbb) R.byte
  have K1 := sealed_any _ _ _ _ _ _ _ _ w RB R hl hs
  obtain ⟨l, hl0⟩ : ∃ l, sealL bs zs = l := ⟨_, rfl⟩
  rw [hl0] at K1 hL hLb
  clear hl0
  obtain ⟨N, hN⟩ : ∃ N, l.length = N := ⟨_, rfl⟩
  rw [hN] at hL
  have hXb := byt_sal hLb N (by omega)
  have hxl := sal_len N 0 l
  obtain ⟨⟨r, hr⟩, hr0⟩ := all_sal N 0 l (by omega)
  obtain ⟨A, hA⟩ : ∃ A, (allF N l).1 = A := ⟨_, rfl⟩
  obtain ⟨m, hm⟩ : ∃ m, (allF N l).2.1 = m := ⟨_, rfl⟩
  obtain ⟨k, hk⟩ : ∃ k, (allF N l).2.2 = k := ⟨_, rfl⟩
  obtain ⟨X, hX⟩ : ∃ X, (salF N 0 l).map (·.1) = X := ⟨_, rfl⟩
  obtain ⟨Y, hY⟩ : ∃ Y, (salF N 0 l).map (·.2) = Y := ⟨_, rfl⟩
  rw [hA, hX] at hr
  rw [hA, hX, hk] at hr0
  rw [hX] at hXb
  have hAb : ∀ b ∈ A, Byt b := fun b hb => hXb b (by rw [hr]; exact List.mem_append_left _ hb)
  obtain ⟨x, hx⟩ : ∃ x, X.length = x := ⟨_, rfl⟩
  obtain ⟨y, hy⟩ : ∃ y, A.length = y := ⟨_, rfl⟩
  have hyx : y ≤ x := by rw [← hx, ← hy, hr, List.length_append]; omega
  have hYx : Y.length = x := by rw [← hx, ← hX, ← hY, List.length_map, List.length_map]
  have hx2 : x ≤ 1099511627776 := by rw [← hx, ← hX, List.length_map]; omega
  have HP : Hid (X.take y = A) := by show _ = _; rw [hr, ← hy, List.take_left' rfl]
  have HE : Hid (k = 0 → y = x) := fun h => by rw [← hx, ← hy, hr0 h]
  go_enter Tryd.func5, Tryd.ntmps5
  go_wp2_with fail
  refine K1.mono ?_
  rintro e w1 ⟨v1, rfl, o1, b1⟩
  obtain ⟨a1, c1, rfl, F1, hc1, _⟩ := own_row_len o1 hLb hN
  have T1 := ht.below b1
  have K2 := all_any _ _ _ _ w1 F1 T1 (by omega) hc1
  rw [hA, hm, hk] at K2
  clear K1 o1
  go_wp2_with fail
  refine K2.mono ?_
  rintro e w2 ⟨⟨v2, rfl, B2⟩, b2⟩
  have F2 := F1.below b2
  have T2 := T1.below b2
  have K3 := rall_any _ _ _ _ w2 F2 (by omega) hc1
  rw [hA, hm, hk] at K3
  obtain ⟨al, cl, rfl, RL, hcl, hal⟩ := bods_rows B2 hAb hy
  clear K2 B2
  go_wp2_with fail
  refine K3.mono ?_
  rintro e w3 ⟨⟨v3, rfl, B3⟩, b3⟩
  have F3 := F2.below b3
  have T3 := T2.below b3
  have K4 := salvage_any _ _ _ _ w3 F3 T3 (by omega) hc1
  rw [hX, hY] at K4
  obtain ⟨am, cm, rfl, RM, hcm, _⟩ := bods_rows B3 hAb hy
  clear K3 B3
  go_wp2_with fail
  refine K4.mono ?_
  rintro e w4 ⟨⟨v4, u4, rfl, B4, P4⟩, b4⟩
  have F4 := F3.below b4
  have K5 := rsalvage_any _ _ _ _ w4 F4 (by omega) hc1
  rw [hX, hY] at K5
  obtain ⟨av, cs, rfl, RS, hcs, hav⟩ := bods_rows B4 hXb hx
  obtain ⟨ap, cp, rfl, hpc, hcp, hpl⟩ := pls_cells P4 hYx
  clear K4 B4 P4
  go_wp2_with fail
  refine K5.mono ?_
  rintro e w5 ⟨⟨v5, u5, rfl, B5, P5⟩, b5⟩
  obtain ⟨atv, ct, rfl, RT, hct, _⟩ := bods_rows B5 hXb hx
  obtain ⟨aq, cq, rfl, hqc, hcq, hql⟩ := pls_cells P5 hYx
  clear K5 B5 P5
  have b45 := b4.trans (b5.mono b4.size)
  have b35 := b3.trans (b45.mono b3.size)
  have RL5 := RL.below b35
  have RM5 := RM.below b45
  have RS5 := RS.below b5
  have bw5 : Below w.heap.size w w5 := b1.trans ((b2.trans (b35.mono b2.size)).mono b1.size)
  have KL := fun Z (hZ : Below w5.heap.size w5 Z) => same_below _ _ _ _ _ _ Z (RL5.below hZ) (RM5.below hZ) (show y ≤ 9223372036854775807 by omega)
  have KT := fun Z (hZ : Below w5.heap.size w5 Z) => same_below _ _ _ _ _ _ Z (RS5.below hZ) (RT.below hZ) (show x ≤ 9223372036854775807 by omega)
  have q1 : ((m : Int) != (m : Int)) = false := by simp
  have q2 : (k != k) = false := by simp
  have q3 : ¬ ((x : Int) < (y : Int)) := by omega
  clear hA hm hk hX hY hr hr0 hx hy hxl RL RM RS
  go_wp2_with (first
    | (go_at_call 22; refine (KL _ (Below.refl _ _)).mono ?_; rintro e w6 ⟨rfl, b6⟩; clear KL)
    | (go_at_call 22; refine (KT _ b6).mono ?_; rintro e w7 ⟨rfl, b7⟩; clear KT))
  have b57 : Below w5.heap.size w5 w7 := b6.trans (b7.mono b6.size)
  clear q1 q2 b6 b7
  go_loopg [16] x (fun f ix wr => ∃ j : Nat, ix = .int .i64 j ∧ j + f = x ∧ Below w5.heap.size w5 wr)
  case atStart => exact ⟨0, rfl, by omega, b57⟩
  case round =>
    obtain ⟨j, rfl, hjg, hB⟩ := hrel
    by_cases hc : j < x
    · obtain ⟨gp, rfl, hgp, hcp'⟩ := hpl (by omega)
      obtain ⟨gq, rfl, hgq, hcq'⟩ := hql (by omega)
      have d1 : wr.cell? ⟨gp, j, none⟩ = some (.int .i64 (Y.getD j 0 : Nat)) := (hB.cell (p := ⟨gp, j, none⟩) (Nat.lt_of_lt_of_le hgp b5.size)).trans ((b5.cell (p := ⟨gp, j, none⟩) hgp).trans (hcp' j hc))
      have d2 : wr.cell? ⟨gq, j, none⟩ = some (.int .i64 (Y.getD j 0 : Nat)) := (hB.cell (p := ⟨gq, j, none⟩) hgq).trans (hcq' j hc)
      obtain ⟨t, htt⟩ : ∃ t, Y.getD j 0 = t := ⟨_, rfl⟩
      rw [htt] at d1 d2
      have q1 : ((t : Int) != (t : Int)) = false := by simp
      clear hcp' hcq' htt
      go_wp2
      go_quiet (fail)
      go_wp2
      go_roundg (gk - 1)
      case measure => omega
      case rel => exact ⟨j + 1, by first | rfl | go_num, by omega, below_drewN hB _⟩
    · have bwr : Below w.heap.size w wr := bw5.trans (hB.mono bw5.size)
      have KA := fun Z (hZ : Below wr.heap.size wr Z) => awake_any Z ((ht.below bwr).below hZ)
      have RLr := RL5.below hB
      have RSr := RS5.below hB
      have e : x = j := by omega
      subst e
      cases av with
      | none =>
        have hx0 := RSr.nil rfl
        have hy0 : y = 0 := by omega
        obtain ⟨rfl, rfl⟩ := hx0
        subst hy0
        have hA0 : A = [] := List.eq_nil_of_length_eq_zero (by have := RLr.size; omega)
        subst hA0
        have KS := same_below _ _ _ _ _ _ wr RLr (rowsB_nil wr) (by omega)
        by_cases hk0 : k = 0
        · have hk1 : (k != 0) = false := by simp [hk0]
          clear hk0
          go_wp2_with (first
            | (go_at_call 22; refine KS.mono ?_; rintro e w8 ⟨rfl, b8⟩; have KA2 := KA _ b8; clear KS)
            | (go_at_call 14; refine KA2.mono ?_; rintro e w9 ⟨rfl, b9⟩))
          go_ret
          exact ⟨rfl, bwr.trans ((b8.trans (b9.mono b8.size)).mono bwr.size)⟩
        · have hk1 : (k != 0) = true := by simp [hk0]
          clear hk0
          go_wp2_with (first
            | (go_at_call 22; refine KS.mono ?_; rintro e w8 ⟨rfl, b8⟩; have KA2 := KA _ b8; clear KS)
            | (go_at_call 14; refine KA2.mono ?_; rintro e w9 ⟨rfl, b9⟩))
          go_ret
          exact ⟨rfl, bwr.trans ((b8.trans (b9.mono b8.size)).mono bwr.size)⟩
      | some ad =>
        have RP := RSr.pre y hyx (by simp)
        rw [HP.out] at RP
        have KS := same_below _ _ _ _ _ _ wr RLr RP (by omega)
        have hle := RSr.le
        have j1 : (y : Int) ≤ (cs : Int) := by omega
        by_cases hk0 : k = 0
        · have hk1 : (k != 0) = false := by simp [hk0]
          have hyx2 := HE.out hk0
          subst hyx2
          clear hk0
          go_wp2_with (first
            | (go_at_call 22; refine KS.mono ?_; rintro e w8 ⟨rfl, b8⟩; have KA2 := KA _ b8; clear KS)
            | (go_at_call 14; refine KA2.mono ?_; rintro e w9 ⟨rfl, b9⟩))
          go_ret
          exact ⟨rfl, bwr.trans ((b8.trans (b9.mono b8.size)).mono bwr.size)⟩
        · have hk1 : (k != 0) = true := by simp [hk0]
          clear hk0
          go_wp2_with (first
            | (go_at_call 22; refine KS.mono ?_; rintro e w8 ⟨rfl, b8⟩; have KA2 := KA _ b8; clear KS)
            | (go_at_call 14; refine KA2.mono ?_; rintro e w9 ⟨rfl, b9⟩))
          go_ret
          exact ⟨rfl, bwr.trans ((b8.trans (b9.mono b8.size)).mono bwr.size)⟩

end Go.Proofs.YteadkfcbgphgnaaDoor
