/-
  Judge, Begins, Parts, Hello and Welcome answer as the document does, for any fit list, half-edges and packet (P14.4 to P14.6): the law ShakeJudges returns true for every input.
-/
import Derived.Test.YteoiogjaecpddaaSD
import Derived.Test.YteoiogjaecpddaaH9
import Derived.Test.YteoiogjaecpddaaGrQh
import Derived.Test.YteoiogjaecpddaaH4
import Derived.Test.YteoiogjaecpddaaGrQd
import Derived.Test.YteoiogjaecpddaaIn
import Derived.Test.YteoiogjaecpddaaH1
import Derived.Test.YteoiogjaecpddaaRows
import Derived.Test.YteoiogjaecpddaaInS
import Derived.WalkKit
import Derived.ProofKit
import Derived.OpenShut
import Derived.ChangeOld
import Derived.Below
import Derived.SizedLaws
namespace Go.Proofs.Yteoiogjaecpddaa
open Go.ChangeShapes Go.WideShapes Go.ChangeAt Go.RowKit
set_option linter.unusedVariables false
set_option linter.unusedSimpArgs false
attribute [local go_sem] field61 field33 field33b field33c

theorem hs_below {W W' : World} {A : Option Addr} {n c : Nat} {hs : List HS} (R : Hs W A n c hs) (b : Below W.heap.size W W') : Hs W' A n c hs := Hs.below R b
set_option maxHeartbeats 2000000 in
theorem named_any (h : HR) (w : World) : Calls Try.prog 54 #[h.val] w fun e w' => e = .returned (.agg #[.int .i64 h.peer, .int .i64 h.boot, .int .i64 h.life]) ∧ Below w.heap.size w w' := by
  obtain ⟨hp, hb, hl, ha, hn, hc, hpe, hm⟩ := h
  dsimp only [HR.val]
  go_enter Try.func54, Try.ntmps54
  go_wp2
  refine bodyPost_ret (results_row1 rfl _ _ (w.heap.size + 1) _ rfl (load_61 (heap_new (by simp)))) rfl ⟨rfl, ((Below.refl _ _).alloc (Nat.le_refl _) _).alloc (by simp) _⟩
set_option maxRecDepth 100000 in
set_option maxHeartbeats 8000000 in
theorem psame_any (kd fr ds bt lf ec el : Int) (w : World) : Calls Try.prog 32 #[.agg #[.int .i64 kd, .int .i64 fr, .int .i64 ds, .int .i64 bt, .int .i64 lf, .int .i64 ec, .int .i64 el, .slice none 0 0], .agg #[.int .i64 kd, .int .i64 fr, .int .i64 ds, .int .i64 bt, .int .i64 lf, .int .i64 ec, .int .i64 el, .slice none 0 0]] w fun e w' => e = .returned (.bool true) ∧ Below w.heap.size w w' := by
  go_enter Try.func32, Try.ntmps32
  go_wp2
  refine wp_loop_rounds 1 ?_
  rw [rounds_succ]
  go_wp2
  go_ret
  exact ⟨rfl, ((Below.refl _ _).alloc (Nat.le_refl _) _).alloc (by simp) _⟩
set_option maxRecDepth 100000 in
set_option maxHeartbeats 8000000 in
theorem begins_any (A : Option Addr) (c : Nat) (hs : List HS) (p : PK) (w : World) (R : Hs w A hs.length c hs) : Calls Try.prog 28 #[.slice A hs.length c, p.val] w fun e w' => e = .returned (.bool (!hitH p.frm hs || ltr p.boot p.life (findH p.frm hs).boot (findH p.frm hs).life)) ∧ Below w.heap.size w w' := by
  obtain ⟨kd, fr, ds, bt, lf, ec, el, ia, im, ic⟩ := p
  dsimp only
  have b0 : Below w.heap.size w (w.alloc (.cells #[.int .i64 kd, .int .i64 fr, .int .i64 ds, .int .i64 bt, .int .i64 lf, .int .i64 ec, .int .i64 el, .slice ia im ic] 40)) := (Below.refl _ _).alloc (Nat.le_refl _) _
  have T0 : (w.alloc (.cells #[.int .i64 kd, .int .i64 fr, .int .i64 ds, .int .i64 bt, .int .i64 lf, .int .i64 ec, .int .i64 el, .slice ia im ic] 40)).heap[w.heap.size]? = some (.cells #[.int .i64 kd, .int .i64 fr, .int .i64 ds, .int .i64 bt, .int .i64 lf, .int .i64 ec, .int .i64 el, .slice ia im ic] 40 (0, 0)) := heap_new rfl
  have K := find_any fr A c hs _ (hs_below R b0)
  obtain ⟨⟨hp, hb, hl, hls, hpe, hm⟩, hh⟩ : ∃ x, findH fr hs = x := ⟨_, rfl⟩
  rw [hh] at K ⊢
  obtain ⟨ht, hht⟩ : ∃ x, hitH fr hs = x := ⟨_, rfl⟩
  rw [hht] at K ⊢
  dsimp only [HS.on, HR.val] at K
  dsimp only [PK.val]
  clear hh hht R
  go_enter Try.func28, Try.ntmps28
  cases ht with
  | false =>
    go_wp2_with (first
      | (go_at_call 53; refine K.mono ?_; rintro e w1 ⟨ha, hc, rfl, O1, b1⟩)
      | fail)
    have T1 := (b1.block _ (row_lt T0)).trans T0
    have B1 := b0.trans (b1.mono b0.size)
    obtain ⟨W0, hW0⟩ : ∃ W0, w1.alloc (.cells #[.int .i64 hp, .int .i64 hb, .int .i64 hl, .slice ha hls.length hc, .bool hpe, .int .i64 hm] 70) = W0 := ⟨_, rfl⟩
    have b2 : Below w1.heap.size w1 W0 := by rw [← hW0]; exact (Below.refl _ _).alloc (Nat.le_refl _) _
    have H1 : W0.heap[w1.heap.size]? = some (.cells #[.int .i64 hp, .int .i64 hb, .int .i64 hl, .slice ha hls.length hc, .bool hpe, .int .i64 hm] 70 (0, 0)) := by rw [← hW0]; exact heap_new rfl
    have P1 := (b2.block _ (row_lt T1)).trans T1
    have HB2 : Hid (Below w.heap.size w W0) := B1.trans (b2.mono B1.size)
    rw [hW0]
    obtain ⟨qs, hqs⟩ : ∃ q : Nat, w1.heap.size = q := ⟨_, rfl⟩
    rw [hqs] at H1
    simp only [hqs]
    obtain ⟨qp, hqp⟩ : ∃ q : Nat, w.heap.size = q := ⟨_, rfl⟩
    rw [hqp] at P1
    simp only [hqp]
    clear hW0 hqs hqp b2 B1 T1 b1 T0 b0 K O1
    have ks : ∀ X, Below W0.heap.size W0 X → X.heap[qs]? = some (.cells #[.int .i64 hp, .int .i64 hb, .int .i64 hl, .slice ha hls.length hc, .bool hpe, .int .i64 hm] 70 (0, 0)) := fun X h => (h.block _ (row_lt H1)).trans H1
    have kp : ∀ X, Below W0.heap.size W0 X → X.heap[qp]? = some (.cells #[.int .i64 kd, .int .i64 fr, .int .i64 ds, .int .i64 bt, .int .i64 lf, .int .i64 ec, .int .i64 el, .slice ia im ic] 40 (0, 0)) := fun X h => (h.block _ (row_lt P1)).trans P1
    refine wp_region_any (by kernel_rfl) ?_
    change wpAny _ _ _ _ _ _ _ (World.drew _)
    refine wpAny_narrow (fun W' => Below W0.heap.size W0 W') _ _ _ _ ?_
    refine anyH_take 0 14 (.bool false) rfl rfl (by kernel_rfl) (by kernel_rfl) (by kernel_rfl) (fun _ _ _ h => h) (Or.inl ⟨by rfl, by intro w hSw; go_simp⟩) ((Below.refl _ _).drew) ?_
    try simp only [Act.put, List.setIfInBounds_toArray, List.set_cons_zero, List.set_cons_succ]
    refine anyH_take 1 15 (.bool true) rfl rfl (by kernel_rfl) (by kernel_rfl) (by kernel_rfl) (fun _ _ _ h => h) (Or.inl ⟨by rfl, by intro w hSw; go_simp⟩) ((Below.refl _ _).drew) ?_
    try simp only [Act.put, List.setIfInBounds_toArray, List.set_cons_zero, List.set_cons_succ]
    refine anyH_take 2 16 (.bool true) rfl rfl (by kernel_rfl) (by kernel_rfl) (by kernel_rfl) (fun _ _ _ h => h) (Or.inl ⟨by rfl, by intro w hSw; go_simp⟩) ((Below.refl _ _).drew) ?_
    try simp only [Act.put, List.setIfInBounds_toArray, List.set_cons_zero, List.set_cons_succ]
    refine anyH_take 3 17 (undef) rfl rfl (by kernel_rfl) (by kernel_rfl) (by kernel_rfl) (fun _ _ _ h => h) (Or.inr ⟨by rfl, rfl⟩) ((Below.refl _ _).drew) ?_
    try simp only [Act.put, List.setIfInBounds_toArray, List.set_cons_zero, List.set_cons_succ]
    refine anyH_take 4 18 (undef) rfl rfl (by kernel_rfl) (by kernel_rfl) (by kernel_rfl) (fun _ _ _ h => h) (Or.inr ⟨by rfl, rfl⟩) ((Below.refl _ _).drew) ?_
    try simp only [Act.put, List.setIfInBounds_toArray, List.set_cons_zero, List.set_cons_succ]
    refine anyH_take 5 19 (undef) rfl rfl (by kernel_rfl) (by kernel_rfl) (by kernel_rfl) (fun _ _ _ h => h) (Or.inr ⟨by rfl, rfl⟩) ((Below.refl _ _).drew) ?_
    try simp only [Act.put, List.setIfInBounds_toArray, List.set_cons_zero, List.set_cons_succ]
    refine anyH_take 6 20 (undef) rfl rfl (by kernel_rfl) (by kernel_rfl) (by kernel_rfl) (fun _ _ _ h => h) (Or.inr ⟨by rfl, rfl⟩) ((Below.refl _ _).drew) ?_
    try simp only [Act.put, List.setIfInBounds_toArray, List.set_cons_zero, List.set_cons_succ]
    refine anyH_take 7 21 (undef) rfl rfl (by kernel_rfl) (by kernel_rfl) (by kernel_rfl) (fun _ _ _ h => h) (Or.inr ⟨by rfl, rfl⟩) ((Below.refl _ _).drew) ?_
    try simp only [Act.put, List.setIfInBounds_toArray, List.set_cons_zero, List.set_cons_succ]
    refine anyH_take 8 22 (undef) rfl rfl (by kernel_rfl) (by kernel_rfl) (by kernel_rfl) (fun _ _ _ h => h) (Or.inr ⟨by rfl, rfl⟩) ((Below.refl _ _).drew) ?_
    try simp only [Act.put, List.setIfInBounds_toArray, List.set_cons_zero, List.set_cons_succ]
    refine anyH_take 9 23 (undef) rfl rfl (by kernel_rfl) (by kernel_rfl) (by kernel_rfl) (fun _ _ _ h => h) (Or.inr ⟨by rfl, rfl⟩) ((Below.refl _ _).drew) ?_
    try simp only [Act.put, List.setIfInBounds_toArray, List.set_cons_zero, List.set_cons_succ]
    refine anyH_take 10 24 (.bool true) rfl rfl (by kernel_rfl) (by kernel_rfl) (by kernel_rfl) (fun _ _ _ h => h) (Or.inl ⟨by rfl, by intro w hSw; go_simp⟩) ((Below.refl _ _).drew) ?_
    try simp only [Act.put, List.setIfInBounds_toArray, List.set_cons_zero, List.set_cons_succ]
    refine anyH_take 11 4 (.bool true) rfl rfl (by kernel_rfl) (by kernel_rfl) (by kernel_rfl) (fun _ _ _ h => h) (Or.inl ⟨by rfl, by intro w hSw; go_simp⟩) ((Below.refl _ _).drew) ?_
    try simp only [Act.put, List.setIfInBounds_toArray, List.set_cons_zero, List.set_cons_succ]
    refine wpAnyH_done (by kernel_rfl) ?_ _
    go_wp2
    go_ret
    exact ⟨rfl, HB2.out.trans (((Below.refl W0.heap.size W0).drew).mono HB2.out.size)⟩
  | true =>
    obtain ⟨lv, hlv⟩ : ∃ x, ltr bt lf hb hl = x := ⟨_, rfl⟩
    rw [hlv]
    go_wp2_with (first
      | (go_at_call 53; refine K.mono ?_; rintro e w1 ⟨ha, hc, rfl, O1, b1⟩)
      | fail)
    have T1 := (b1.block _ (row_lt T0)).trans T0
    have B1 := b0.trans (b1.mono b0.size)
    obtain ⟨W0, hW0⟩ : ∃ W0, w1.alloc (.cells #[.int .i64 hp, .int .i64 hb, .int .i64 hl, .slice ha hls.length hc, .bool hpe, .int .i64 hm] 70) = W0 := ⟨_, rfl⟩
    have b2 : Below w1.heap.size w1 W0 := by rw [← hW0]; exact (Below.refl _ _).alloc (Nat.le_refl _) _
    have H1 : W0.heap[w1.heap.size]? = some (.cells #[.int .i64 hp, .int .i64 hb, .int .i64 hl, .slice ha hls.length hc, .bool hpe, .int .i64 hm] 70 (0, 0)) := by rw [← hW0]; exact heap_new rfl
    have P1 := (b2.block _ (row_lt T1)).trans T1
    have HB2 : Hid (Below w.heap.size w W0) := B1.trans (b2.mono B1.size)
    rw [hW0]
    obtain ⟨qs, hqs⟩ : ∃ q : Nat, w1.heap.size = q := ⟨_, rfl⟩
    rw [hqs] at H1
    simp only [hqs]
    obtain ⟨qp, hqp⟩ : ∃ q : Nat, w.heap.size = q := ⟨_, rfl⟩
    rw [hqp] at P1
    simp only [hqp]
    clear hW0 hqs hqp b2 B1 T1 b1 T0 b0 K O1
    have ks : ∀ X, Below W0.heap.size W0 X → X.heap[qs]? = some (.cells #[.int .i64 hp, .int .i64 hb, .int .i64 hl, .slice ha hls.length hc, .bool hpe, .int .i64 hm] 70 (0, 0)) := fun X h => (h.block _ (row_lt H1)).trans H1
    have kp : ∀ X, Below W0.heap.size W0 X → X.heap[qp]? = some (.cells #[.int .i64 kd, .int .i64 fr, .int .i64 ds, .int .i64 bt, .int .i64 lf, .int .i64 ec, .int .i64 el, .slice ia im ic] 40 (0, 0)) := fun X h => (h.block _ (row_lt P1)).trans P1
    refine wp_region_any (by kernel_rfl) ?_
    change wpAny _ _ _ _ _ _ _ (World.drew _)
    refine wpAny_narrow (fun W' => Below W0.heap.size W0 W') _ _ _ _ ?_
    refine anyH_take 0 14 (.bool true) rfl rfl (by kernel_rfl) (by kernel_rfl) (by kernel_rfl) (fun _ _ _ h => h) (Or.inl ⟨by rfl, by intro w hSw; go_simp⟩) ((Below.refl _ _).drew) ?_
    try simp only [Act.put, List.setIfInBounds_toArray, List.set_cons_zero, List.set_cons_succ]
    refine anyH_take 1 15 (.bool false) rfl rfl (by kernel_rfl) (by kernel_rfl) (by kernel_rfl) (fun _ _ _ h => h) (Or.inl ⟨by rfl, by intro w hSw; go_simp⟩) ((Below.refl _ _).drew) ?_
    try simp only [Act.put, List.setIfInBounds_toArray, List.set_cons_zero, List.set_cons_succ]
    refine anyH_take 2 16 (.bool false) rfl rfl (by kernel_rfl) (by kernel_rfl) (by kernel_rfl) (fun _ _ _ h => h) (Or.inl ⟨by rfl, by intro w hSw; go_simp⟩) ((Below.refl _ _).drew) ?_
    try simp only [Act.put, List.setIfInBounds_toArray, List.set_cons_zero, List.set_cons_succ]
    refine anyH_take 3 17 (.agg #[.int .i64 kd, .int .i64 fr, .int .i64 ds, .int .i64 bt, .int .i64 lf, .int .i64 ec, .int .i64 el, .slice ia im ic]) rfl rfl (by kernel_rfl) (by kernel_rfl) (by kernel_rfl) (fun _ _ _ h => h) (Or.inl ⟨by rfl, fun X hSw => exec_load40 rfl qp ⟨kd, fr, ds, bt, lf, ec, el, ia, im, ic⟩ rfl (kp X hSw)⟩) ((Below.refl _ _).drew) ?_
    try simp only [Act.put, List.setIfInBounds_toArray, List.set_cons_zero, List.set_cons_succ]
    refine anyH_take 6 20 (.agg #[.int .i64 hp, .int .i64 hb, .int .i64 hl, .slice ha hls.length hc, .bool hpe, .int .i64 hm]) rfl rfl (by kernel_rfl) (by kernel_rfl) (by kernel_rfl) (fun _ _ _ h => h) (Or.inl ⟨by rfl, fun X hSw => exec_load24 rfl qs 0 ⟨hp, hb, hl, ha, hls.length, hc, hpe, hm⟩ rfl (range_rowH (d := ⟨hp, hb, hl, ha, hls.length, hc, hpe, hm⟩) (ks X hSw))⟩) ((Below.refl _ _).drew) ?_
    try simp only [Act.put, List.setIfInBounds_toArray, List.set_cons_zero, List.set_cons_succ]
    refine wpAnyH_ready (rs := [4]) (by kernel_rfl) (by simp) ?_
    refine AllReadyH.cons rfl (fun K9 hK => ?_) AllReadyH.nil
    go_simp
    go_wp2_with (go_at_call 52; refine (sender_any ⟨kd, fr, ds, bt, lf, ec, el, ia, im, ic⟩ _).mono ?_; rintro e wD1 ⟨rfl, d1⟩)
    have D1 : Below W0.heap.size W0 wD1 := (Below.refl _ _).drew.trans d1
    refine hK.out _ _ D1 (fun hSD1 => ?_)
    clear hK
    try simp only [Act.put, List.setIfInBounds_toArray, List.set_cons_zero, List.set_cons_succ]
    refine anyH_take 5 19 (.agg #[.int .i64 bt, .int .i64 lf]) rfl rfl (by kernel_rfl) (by kernel_rfl) (by kernel_rfl) (fun _ _ _ h => h) (Or.inl ⟨by rfl, by intro w hSw; go_simp⟩) (D1) ?_
    try simp only [Act.put, List.setIfInBounds_toArray, List.set_cons_zero, List.set_cons_succ]
    refine wpAnyH_ready (rs := [7]) (by kernel_rfl) (by simp) ?_
    refine AllReadyH.cons rfl (fun K9 hK => ?_) AllReadyH.nil
    go_simp
    go_wp2_with (go_at_call 54; refine (named_any ⟨hp, hb, hl, ha, hls.length, hc, hpe, hm⟩ _).mono ?_; rintro e wD2 ⟨rfl, d2⟩)
    have D2 : Below W0.heap.size W0 wD2 := D1.trans (d2.mono D1.size)
    refine hK.out _ _ D2 (fun hSD2 => ?_)
    clear hK
    try simp only [Act.put, List.setIfInBounds_toArray, List.set_cons_zero, List.set_cons_succ]
    refine anyH_take 8 22 (.agg #[.int .i64 hb, .int .i64 hl]) rfl rfl (by kernel_rfl) (by kernel_rfl) (by kernel_rfl) (fun _ _ _ h => h) (Or.inl ⟨by rfl, by intro w hSw; go_simp⟩) (D2) ?_
    try simp only [Act.put, List.setIfInBounds_toArray, List.set_cons_zero, List.set_cons_succ]
    refine wpAnyH_ready (rs := [9]) (by kernel_rfl) (by simp) ?_
    refine AllReadyH.cons rfl (fun K9 hK => ?_) AllReadyH.nil
    go_simp
    go_wp2_with (go_at_call 41; refine (plater_any bt lf hb hl _).mono ?_; rw [hlv]; rintro e wD3 ⟨rfl, d3⟩)
    have D3 : Below W0.heap.size W0 wD3 := D2.trans (d3.mono D2.size)
    refine hK.out _ _ D3 (fun hSD3 => ?_)
    clear hK
    try simp only [Act.put, List.setIfInBounds_toArray, List.set_cons_zero, List.set_cons_succ]
    refine anyH_take 10 24 (.bool lv) rfl rfl (by kernel_rfl) (by kernel_rfl) (by kernel_rfl) (fun _ _ _ h => h) (Or.inl ⟨by rfl, by intro w hSw; go_simp⟩) (D3) ?_
    try simp only [Act.put, List.setIfInBounds_toArray, List.set_cons_zero, List.set_cons_succ]
    refine anyH_take 11 4 (.bool lv) rfl rfl (by kernel_rfl) (by kernel_rfl) (by kernel_rfl) (fun _ _ _ h => h) (Or.inl ⟨by rfl, by intro w hSw; go_simp⟩) (D3) ?_
    try simp only [Act.put, List.setIfInBounds_toArray, List.set_cons_zero, List.set_cons_succ]
    refine wpAnyH_done (by kernel_rfl) ?_ _
    go_wp2
    go_ret
    exact ⟨rfl, HB2.out.trans (D3.mono HB2.out.size)⟩
set_option maxRecDepth 100000 in
set_option maxHeartbeats 8000000 in
theorem parts_any (A : Option Addr) (c : Nat) (hs : List HS) (p : PK) (w : World) (R : Hs w A hs.length c hs) : Calls Try.prog 30 #[.slice A hs.length c, p.val] w fun e w' => e = .returned (.bool (hitH p.frm hs && same61 (findH p.frm hs).peer (findH p.frm hs).boot (findH p.frm hs).life p.frm p.boot p.life)) ∧ Below w.heap.size w w' := by
  obtain ⟨kd, fr, ds, bt, lf, ec, el, ia, im, ic⟩ := p
  dsimp only
  have b0 : Below w.heap.size w (w.alloc (.cells #[.int .i64 kd, .int .i64 fr, .int .i64 ds, .int .i64 bt, .int .i64 lf, .int .i64 ec, .int .i64 el, .slice ia im ic] 40)) := (Below.refl _ _).alloc (Nat.le_refl _) _
  have T0 : (w.alloc (.cells #[.int .i64 kd, .int .i64 fr, .int .i64 ds, .int .i64 bt, .int .i64 lf, .int .i64 ec, .int .i64 el, .slice ia im ic] 40)).heap[w.heap.size]? = some (.cells #[.int .i64 kd, .int .i64 fr, .int .i64 ds, .int .i64 bt, .int .i64 lf, .int .i64 ec, .int .i64 el, .slice ia im ic] 40 (0, 0)) := heap_new rfl
  have K := find_any fr A c hs _ (hs_below R b0)
  obtain ⟨⟨hp, hb, hl, hls, hpe, hm⟩, hh⟩ : ∃ x, findH fr hs = x := ⟨_, rfl⟩
  rw [hh] at K ⊢
  obtain ⟨ht, hht⟩ : ∃ x, hitH fr hs = x := ⟨_, rfl⟩
  rw [hht] at K ⊢
  dsimp only [HS.on, HR.val] at K
  dsimp only [PK.val]
  clear hh hht R
  go_enter Try.func30, Try.ntmps30
  cases ht with
  | false =>
    go_wp2_with (first
      | (go_at_call 53; refine K.mono ?_; rintro e w1 ⟨ha, hc, rfl, O1, b1⟩)
      | fail)
    have T1 := (b1.block _ (row_lt T0)).trans T0
    have B1 := b0.trans (b1.mono b0.size)
    obtain ⟨W0, hW0⟩ : ∃ W0, w1.alloc (.cells #[.int .i64 hp, .int .i64 hb, .int .i64 hl, .slice ha hls.length hc, .bool hpe, .int .i64 hm] 70) = W0 := ⟨_, rfl⟩
    have b2 : Below w1.heap.size w1 W0 := by rw [← hW0]; exact (Below.refl _ _).alloc (Nat.le_refl _) _
    have H1 : W0.heap[w1.heap.size]? = some (.cells #[.int .i64 hp, .int .i64 hb, .int .i64 hl, .slice ha hls.length hc, .bool hpe, .int .i64 hm] 70 (0, 0)) := by rw [← hW0]; exact heap_new rfl
    have P1 := (b2.block _ (row_lt T1)).trans T1
    have HB2 : Hid (Below w.heap.size w W0) := B1.trans (b2.mono B1.size)
    rw [hW0]
    obtain ⟨qs, hqs⟩ : ∃ q : Nat, w1.heap.size = q := ⟨_, rfl⟩
    rw [hqs] at H1
    simp only [hqs]
    obtain ⟨qp, hqp⟩ : ∃ q : Nat, w.heap.size = q := ⟨_, rfl⟩
    rw [hqp] at P1
    simp only [hqp]
    clear hW0 hqs hqp b2 B1 T1 b1 T0 b0 K O1
    have ks : ∀ X, Below W0.heap.size W0 X → X.heap[qs]? = some (.cells #[.int .i64 hp, .int .i64 hb, .int .i64 hl, .slice ha hls.length hc, .bool hpe, .int .i64 hm] 70 (0, 0)) := fun X h => (h.block _ (row_lt H1)).trans H1
    have kp : ∀ X, Below W0.heap.size W0 X → X.heap[qp]? = some (.cells #[.int .i64 kd, .int .i64 fr, .int .i64 ds, .int .i64 bt, .int .i64 lf, .int .i64 ec, .int .i64 el, .slice ia im ic] 40 (0, 0)) := fun X h => (h.block _ (row_lt P1)).trans P1
    refine wp_region_any (by kernel_rfl) ?_
    change wpAny _ _ _ _ _ _ _ (World.drew _)
    refine wpAny_narrow (fun W' => Below W0.heap.size W0 W') _ _ _ _ ?_
    refine anyH_take 0 14 (.bool false) rfl rfl (by kernel_rfl) (by kernel_rfl) (by kernel_rfl) (fun _ _ _ h => h) (Or.inl ⟨by rfl, by intro w hSw; go_simp⟩) ((Below.refl _ _).drew) ?_
    try simp only [Act.put, List.setIfInBounds_toArray, List.set_cons_zero, List.set_cons_succ]
    refine anyH_take 1 15 (.bool false) rfl rfl (by kernel_rfl) (by kernel_rfl) (by kernel_rfl) (fun _ _ _ h => h) (Or.inl ⟨by rfl, by intro w hSw; go_simp⟩) ((Below.refl _ _).drew) ?_
    try simp only [Act.put, List.setIfInBounds_toArray, List.set_cons_zero, List.set_cons_succ]
    refine anyH_take 2 16 (undef) rfl rfl (by kernel_rfl) (by kernel_rfl) (by kernel_rfl) (fun _ _ _ h => h) (Or.inr ⟨by rfl, rfl⟩) ((Below.refl _ _).drew) ?_
    try simp only [Act.put, List.setIfInBounds_toArray, List.set_cons_zero, List.set_cons_succ]
    refine anyH_take 3 17 (undef) rfl rfl (by kernel_rfl) (by kernel_rfl) (by kernel_rfl) (fun _ _ _ h => h) (Or.inr ⟨by rfl, rfl⟩) ((Below.refl _ _).drew) ?_
    try simp only [Act.put, List.setIfInBounds_toArray, List.set_cons_zero, List.set_cons_succ]
    refine anyH_take 4 18 (undef) rfl rfl (by kernel_rfl) (by kernel_rfl) (by kernel_rfl) (fun _ _ _ h => h) (Or.inr ⟨by rfl, rfl⟩) ((Below.refl _ _).drew) ?_
    try simp only [Act.put, List.setIfInBounds_toArray, List.set_cons_zero, List.set_cons_succ]
    refine anyH_take 5 19 (undef) rfl rfl (by kernel_rfl) (by kernel_rfl) (by kernel_rfl) (fun _ _ _ h => h) (Or.inr ⟨by rfl, rfl⟩) ((Below.refl _ _).drew) ?_
    try simp only [Act.put, List.setIfInBounds_toArray, List.set_cons_zero, List.set_cons_succ]
    refine anyH_take 6 20 (undef) rfl rfl (by kernel_rfl) (by kernel_rfl) (by kernel_rfl) (fun _ _ _ h => h) (Or.inr ⟨by rfl, rfl⟩) ((Below.refl _ _).drew) ?_
    try simp only [Act.put, List.setIfInBounds_toArray, List.set_cons_zero, List.set_cons_succ]
    refine anyH_take 7 21 (.bool false) rfl rfl (by kernel_rfl) (by kernel_rfl) (by kernel_rfl) (fun _ _ _ h => h) (Or.inl ⟨by rfl, by intro w hSw; go_simp⟩) ((Below.refl _ _).drew) ?_
    try simp only [Act.put, List.setIfInBounds_toArray, List.set_cons_zero, List.set_cons_succ]
    refine anyH_take 8 4 (.bool false) rfl rfl (by kernel_rfl) (by kernel_rfl) (by kernel_rfl) (fun _ _ _ h => h) (Or.inl ⟨by rfl, by intro w hSw; go_simp⟩) ((Below.refl _ _).drew) ?_
    try simp only [Act.put, List.setIfInBounds_toArray, List.set_cons_zero, List.set_cons_succ]
    refine wpAnyH_done (by kernel_rfl) ?_ _
    go_wp2
    go_ret
    exact ⟨rfl, HB2.out.trans (((Below.refl W0.heap.size W0).drew).mono HB2.out.size)⟩
  | true =>
    obtain ⟨lv, hlv⟩ : ∃ x, same61 hp hb hl fr bt lf = x := ⟨_, rfl⟩
    rw [hlv]
    go_wp2_with (first
      | (go_at_call 53; refine K.mono ?_; rintro e w1 ⟨ha, hc, rfl, O1, b1⟩)
      | fail)
    have T1 := (b1.block _ (row_lt T0)).trans T0
    have B1 := b0.trans (b1.mono b0.size)
    obtain ⟨W0, hW0⟩ : ∃ W0, w1.alloc (.cells #[.int .i64 hp, .int .i64 hb, .int .i64 hl, .slice ha hls.length hc, .bool hpe, .int .i64 hm] 70) = W0 := ⟨_, rfl⟩
    have b2 : Below w1.heap.size w1 W0 := by rw [← hW0]; exact (Below.refl _ _).alloc (Nat.le_refl _) _
    have H1 : W0.heap[w1.heap.size]? = some (.cells #[.int .i64 hp, .int .i64 hb, .int .i64 hl, .slice ha hls.length hc, .bool hpe, .int .i64 hm] 70 (0, 0)) := by rw [← hW0]; exact heap_new rfl
    have P1 := (b2.block _ (row_lt T1)).trans T1
    have HB2 : Hid (Below w.heap.size w W0) := B1.trans (b2.mono B1.size)
    rw [hW0]
    obtain ⟨qs, hqs⟩ : ∃ q : Nat, w1.heap.size = q := ⟨_, rfl⟩
    rw [hqs] at H1
    simp only [hqs]
    obtain ⟨qp, hqp⟩ : ∃ q : Nat, w.heap.size = q := ⟨_, rfl⟩
    rw [hqp] at P1
    simp only [hqp]
    clear hW0 hqs hqp b2 B1 T1 b1 T0 b0 K O1
    have ks : ∀ X, Below W0.heap.size W0 X → X.heap[qs]? = some (.cells #[.int .i64 hp, .int .i64 hb, .int .i64 hl, .slice ha hls.length hc, .bool hpe, .int .i64 hm] 70 (0, 0)) := fun X h => (h.block _ (row_lt H1)).trans H1
    have kp : ∀ X, Below W0.heap.size W0 X → X.heap[qp]? = some (.cells #[.int .i64 kd, .int .i64 fr, .int .i64 ds, .int .i64 bt, .int .i64 lf, .int .i64 ec, .int .i64 el, .slice ia im ic] 40 (0, 0)) := fun X h => (h.block _ (row_lt P1)).trans P1
    refine wp_region_any (by kernel_rfl) ?_
    change wpAny _ _ _ _ _ _ _ (World.drew _)
    refine wpAny_narrow (fun W' => Below W0.heap.size W0 W') _ _ _ _ ?_
    refine anyH_take 0 14 (.bool true) rfl rfl (by kernel_rfl) (by kernel_rfl) (by kernel_rfl) (fun _ _ _ h => h) (Or.inl ⟨by rfl, by intro w hSw; go_simp⟩) ((Below.refl _ _).drew) ?_
    try simp only [Act.put, List.setIfInBounds_toArray, List.set_cons_zero, List.set_cons_succ]
    refine anyH_take 1 15 (.bool true) rfl rfl (by kernel_rfl) (by kernel_rfl) (by kernel_rfl) (fun _ _ _ h => h) (Or.inl ⟨by rfl, by intro w hSw; go_simp⟩) ((Below.refl _ _).drew) ?_
    try simp only [Act.put, List.setIfInBounds_toArray, List.set_cons_zero, List.set_cons_succ]
    refine anyH_take 2 16 (.agg #[.int .i64 hp, .int .i64 hb, .int .i64 hl, .slice ha hls.length hc, .bool hpe, .int .i64 hm]) rfl rfl (by kernel_rfl) (by kernel_rfl) (by kernel_rfl) (fun _ _ _ h => h) (Or.inl ⟨by rfl, fun X hSw => exec_load24 rfl qs 0 ⟨hp, hb, hl, ha, hls.length, hc, hpe, hm⟩ rfl (range_rowH (d := ⟨hp, hb, hl, ha, hls.length, hc, hpe, hm⟩) (ks X hSw))⟩) ((Below.refl _ _).drew) ?_
    try simp only [Act.put, List.setIfInBounds_toArray, List.set_cons_zero, List.set_cons_succ]
    refine anyH_take 4 18 (.agg #[.int .i64 kd, .int .i64 fr, .int .i64 ds, .int .i64 bt, .int .i64 lf, .int .i64 ec, .int .i64 el, .slice ia im ic]) rfl rfl (by kernel_rfl) (by kernel_rfl) (by kernel_rfl) (fun _ _ _ h => h) (Or.inl ⟨by rfl, fun X hSw => exec_load40 rfl qp ⟨kd, fr, ds, bt, lf, ec, el, ia, im, ic⟩ rfl (kp X hSw)⟩) ((Below.refl _ _).drew) ?_
    try simp only [Act.put, List.setIfInBounds_toArray, List.set_cons_zero, List.set_cons_succ]
    refine wpAnyH_ready (rs := [3]) (by kernel_rfl) (by simp) ?_
    refine AllReadyH.cons rfl (fun K9 hK => ?_) AllReadyH.nil
    go_simp
    go_wp2_with (go_at_call 54; refine (named_any ⟨hp, hb, hl, ha, hls.length, hc, hpe, hm⟩ _).mono ?_; rintro e wD1 ⟨rfl, d1⟩)
    have D1 : Below W0.heap.size W0 wD1 := (Below.refl _ _).drew.trans d1
    refine hK.out _ _ D1 (fun hSD1 => ?_)
    clear hK
    try simp only [Act.put, List.setIfInBounds_toArray, List.set_cons_zero, List.set_cons_succ]
    refine wpAnyH_ready (rs := [5]) (by kernel_rfl) (by simp) ?_
    refine AllReadyH.cons rfl (fun K9 hK => ?_) AllReadyH.nil
    go_simp
    go_wp2_with (go_at_call 52; refine (sender_any ⟨kd, fr, ds, bt, lf, ec, el, ia, im, ic⟩ _).mono ?_; rintro e wD2 ⟨rfl, d2⟩)
    have D2 : Below W0.heap.size W0 wD2 := D1.trans (d2.mono D1.size)
    refine hK.out _ _ D2 (fun hSD2 => ?_)
    clear hK
    try simp only [Act.put, List.setIfInBounds_toArray, List.set_cons_zero, List.set_cons_succ]
    refine anyH_take 6 20 (.bool lv) rfl rfl (by kernel_rfl) (by kernel_rfl) (by kernel_rfl) (fun _ _ _ h => h) (Or.inl ⟨by rfl, fun X hSw => (exec_eql61 rfl hp hb hl fr bt lf rfl rfl X).trans (by rw [hlv])⟩) (D2) ?_
    try simp only [Act.put, List.setIfInBounds_toArray, List.set_cons_zero, List.set_cons_succ]
    refine anyH_take 7 21 (.bool lv) rfl rfl (by kernel_rfl) (by kernel_rfl) (by kernel_rfl) (fun _ _ _ h => h) (Or.inl ⟨by rfl, by intro w hSw; go_simp⟩) (D2) ?_
    try simp only [Act.put, List.setIfInBounds_toArray, List.set_cons_zero, List.set_cons_succ]
    refine anyH_take 8 4 (.bool lv) rfl rfl (by kernel_rfl) (by kernel_rfl) (by kernel_rfl) (fun _ _ _ h => h) (Or.inl ⟨by rfl, by intro w hSw; go_simp⟩) (D2) ?_
    try simp only [Act.put, List.setIfInBounds_toArray, List.set_cons_zero, List.set_cons_succ]
    refine wpAnyH_done (by kernel_rfl) ?_ _
    go_wp2
    go_ret
    exact ⟨rfl, HB2.out.trans (D2.mono HB2.out.size)⟩
end Go.Proofs.Yteoiogjaecpddaa

namespace Go.Proofs.Yteoiogjaecpddaa
open Go.ChangeShapes Go.WideShapes Go.ChangeAt Go.RowKit
set_option linter.unusedVariables false
set_option linter.unusedSimpArgs false

theorem find_peer {k : Int} {hs : List HS} (h : hitH k hs = true) : (findH k hs).peer = k := by
  unfold findH
  rw [if_pos h]
  have hp := hit_lt h
  unfold hitH hit at h
  rw [List.getElem?_eq_getElem hp] at h
  have : hs.getD (posH k hs) HS.z = hs[posH k hs]'hp := by simp [List.getD_eq_getElem?_getD, List.getElem?_eq_getElem hp]
  rw [this]
  exact of_decide_eq_true h
set_option maxRecDepth 100000 in
set_option maxHeartbeats 8000000 in
theorem rbegins_any (A : Option Addr) (c : Nat) (hs : List HS) (p : PK) (w : World) (R : Hs w A hs.length c hs) (hrise : Rise hs) : Calls Try.prog 29 #[.slice A hs.length c, p.val] w fun e w' => e = .returned (.bool (!hitH p.frm hs || ltr p.boot p.life (findH p.frm hs).boot (findH p.frm hs).life)) ∧ Below w.heap.size w w' := by
  obtain ⟨kd, fr, ds, bt, lf, ec, el, ia, im, ic⟩ := p
  dsimp only
  have b0 : Below w.heap.size w (w.alloc (.cells #[.int .i64 kd, .int .i64 fr, .int .i64 ds, .int .i64 bt, .int .i64 lf, .int .i64 ec, .int .i64 el, .slice ia im ic] 40)) := (Below.refl _ _).alloc (Nat.le_refl _) _
  have T0 : (w.alloc (.cells #[.int .i64 kd, .int .i64 fr, .int .i64 ds, .int .i64 bt, .int .i64 lf, .int .i64 ec, .int .i64 el, .slice ia im ic] 40)).heap[w.heap.size]? = some (.cells #[.int .i64 kd, .int .i64 fr, .int .i64 ds, .int .i64 bt, .int .i64 lf, .int .i64 ec, .int .i64 el, .slice ia im ic] 40 (0, 0)) := heap_new rfl
  have K := rfind_any fr A c hs _ (hs_below R b0) hrise
  obtain ⟨⟨hp, hb, hl, hls, hpe, hm⟩, hh⟩ : ∃ x, findH fr hs = x := ⟨_, rfl⟩
  rw [hh] at K ⊢
  obtain ⟨ht, hht⟩ : ∃ x, hitH fr hs = x := ⟨_, rfl⟩
  rw [hht] at K ⊢
  dsimp only [HS.on, HR.val] at K
  dsimp only [PK.val]
  clear hh hht R
  obtain ⟨lv, hlv⟩ : ∃ x, ltr bt lf hb hl = x := ⟨_, rfl⟩
  rw [hlv]
  cases ht with
  | false =>
    go_enter Try.func29, Try.ntmps29
    go_wp2_with (first | (go_at_call 55; refine K.mono ?_; rintro e w1 ⟨ha, hc, rfl, O1, b1⟩; have T1 := (b1.block _ (row_lt T0)).trans T0; have T2 := heap_old (o := .cells #[.int .i64 hp, .int .i64 hb, .int .i64 hl, .slice ha hls.length hc, .bool hpe, .int .i64 hm] 70) (row_lt T1) T1; have ⟨k0, k1, k2, k3, k4, k5, k6, k7⟩ := cel8 T2) | (go_at_call 12; refine (rlater_any bt lf hb hl _).mono ?_; rw [hlv]; rintro e w3 ⟨rfl, hw3⟩; rw [hw3]; clear hw3 w3))
    go_ret
    exact ⟨rfl, (b0.trans (b1.mono b0.size)).alloc (Nat.le_trans b0.size b1.size) _⟩
  | true =>
    go_enter Try.func29, Try.ntmps29
    go_wp2_with (first | (go_at_call 55; refine K.mono ?_; rintro e w1 ⟨ha, hc, rfl, O1, b1⟩; have T1 := (b1.block _ (row_lt T0)).trans T0; have T2 := heap_old (o := .cells #[.int .i64 hp, .int .i64 hb, .int .i64 hl, .slice ha hls.length hc, .bool hpe, .int .i64 hm] 70) (row_lt T1) T1; have ⟨k0, k1, k2, k3, k4, k5, k6, k7⟩ := cel8 T2) | (go_at_call 12; refine (rlater_any bt lf hb hl _).mono ?_; rw [hlv]; rintro e w3 ⟨rfl, hw3⟩; rw [hw3]; clear hw3 w3))
    go_ret
    exact ⟨rfl, (b0.trans (b1.mono b0.size)).alloc (Nat.le_trans b0.size b1.size) _⟩
set_option maxRecDepth 100000 in
set_option maxHeartbeats 8000000 in
theorem rparts_any (A : Option Addr) (c : Nat) (hs : List HS) (p : PK) (w : World) (R : Hs w A hs.length c hs) (hrise : Rise hs) : Calls Try.prog 31 #[.slice A hs.length c, p.val] w fun e w' => e = .returned (.bool (hitH p.frm hs && (decide ((findH p.frm hs).boot = p.boot) && decide ((findH p.frm hs).life = p.life)))) ∧ Below w.heap.size w w' := by
  obtain ⟨kd, fr, ds, bt, lf, ec, el, ia, im, ic⟩ := p
  dsimp only
  have b0 : Below w.heap.size w (w.alloc (.cells #[.int .i64 kd, .int .i64 fr, .int .i64 ds, .int .i64 bt, .int .i64 lf, .int .i64 ec, .int .i64 el, .slice ia im ic] 40)) := (Below.refl _ _).alloc (Nat.le_refl _) _
  have T0 : (w.alloc (.cells #[.int .i64 kd, .int .i64 fr, .int .i64 ds, .int .i64 bt, .int .i64 lf, .int .i64 ec, .int .i64 el, .slice ia im ic] 40)).heap[w.heap.size]? = some (.cells #[.int .i64 kd, .int .i64 fr, .int .i64 ds, .int .i64 bt, .int .i64 lf, .int .i64 ec, .int .i64 el, .slice ia im ic] 40 (0, 0)) := heap_new rfl
  have K := rfind_any fr A c hs _ (hs_below R b0) hrise
  obtain ⟨⟨hp, hb, hl, hls, hpe, hm⟩, hh⟩ : ∃ x, findH fr hs = x := ⟨_, rfl⟩
  rw [hh] at K ⊢
  obtain ⟨ht, hht⟩ : ∃ x, hitH fr hs = x := ⟨_, rfl⟩
  rw [hht] at K ⊢
  dsimp only [HS.on, HR.val] at K
  dsimp only [PK.val]
  clear hh hht R
  cases ht with
  | false =>
    go_enter Try.func31, Try.ntmps31
    go_wp2_with (go_at_call 55; refine K.mono ?_; rintro e w1 ⟨ha, hc, rfl, O1, b1⟩; have T1 := (b1.block _ (row_lt T0)).trans T0; have T2 := heap_old (o := .cells #[.int .i64 hp, .int .i64 hb, .int .i64 hl, .slice ha hls.length hc, .bool hpe, .int .i64 hm] 70) (row_lt T1) T1; have ⟨k0, k1, k2, k3, k4, k5, k6, k7⟩ := cel8 T2)
    go_ret
    exact ⟨by simp_all, (b0.trans (b1.mono b0.size)).alloc (Nat.le_trans b0.size b1.size) _⟩
  | true =>
    by_cases e1 : hb = bt
    · have e1b : (hb == bt) = true := by simpa using e1
      rw [decide_eq_true e1]
      clear e1
      by_cases e2 : hl = lf
      · have e2b : (hl == lf) = true := by simpa using e2
        rw [decide_eq_true e2]
        clear e2
        go_enter Try.func31, Try.ntmps31
        go_wp2_with (go_at_call 55; refine K.mono ?_; rintro e w1 ⟨ha, hc, rfl, O1, b1⟩; have T1 := (b1.block _ (row_lt T0)).trans T0; have T2 := heap_old (o := .cells #[.int .i64 hp, .int .i64 hb, .int .i64 hl, .slice ha hls.length hc, .bool hpe, .int .i64 hm] 70) (row_lt T1) T1; have ⟨k0, k1, k2, k3, k4, k5, k6, k7⟩ := cel8 T2)
        go_ret
        exact ⟨by simp_all, (b0.trans (b1.mono b0.size)).alloc (Nat.le_trans b0.size b1.size) _⟩
      · have e2b : (hl == lf) = false := by simpa using e2
        rw [decide_eq_false e2]
        clear e2
        go_enter Try.func31, Try.ntmps31
        go_wp2_with (go_at_call 55; refine K.mono ?_; rintro e w1 ⟨ha, hc, rfl, O1, b1⟩; have T1 := (b1.block _ (row_lt T0)).trans T0; have T2 := heap_old (o := .cells #[.int .i64 hp, .int .i64 hb, .int .i64 hl, .slice ha hls.length hc, .bool hpe, .int .i64 hm] 70) (row_lt T1) T1; have ⟨k0, k1, k2, k3, k4, k5, k6, k7⟩ := cel8 T2)
        go_ret
        exact ⟨by simp_all, (b0.trans (b1.mono b0.size)).alloc (Nat.le_trans b0.size b1.size) _⟩
    · have e1b : (hb == bt) = false := by simpa using e1
      rw [decide_eq_false e1]
      clear e1
      go_enter Try.func31, Try.ntmps31
      go_wp2_with (go_at_call 55; refine K.mono ?_; rintro e w1 ⟨ha, hc, rfl, O1, b1⟩; have T1 := (b1.block _ (row_lt T0)).trans T0; have T2 := heap_old (o := .cells #[.int .i64 hp, .int .i64 hb, .int .i64 hl, .slice ha hls.length hc, .bool hpe, .int .i64 hm] 70) (row_lt T1) T1; have ⟨k0, k1, k2, k3, k4, k5, k6, k7⟩ := cel8 T2)
      go_ret
      exact ⟨by simp_all, (b0.trans (b1.mono b0.size)).alloc (Nat.le_trans b0.size b1.size) _⟩
end Go.Proofs.Yteoiogjaecpddaa

namespace Go.Proofs.Yteoiogjaecpddaa
open Go.ChangeShapes Go.WideShapes Go.ChangeAt Go.RowKit
set_option linter.unusedVariables false
set_option linter.unusedSimpArgs false

theorem parts_eq (k b f : Int) (hs : List HS) : (hitH k hs && same61 (findH k hs).peer (findH k hs).boot (findH k hs).life k b f) = (hitH k hs && (decide ((findH k hs).boot = b) && decide ((findH k hs).life = f))) := by
  cases h : hitH k hs with
  | false => rfl
  | true =>
    rw [find_peer h]
    simp [same61]
set_option maxRecDepth 100000 in
set_option maxHeartbeats 16000000 in
theorem judges_no (idn : Int) (a : Option Addr) (n cap : Nat) (l : List SN) (A : Option Addr) (c : Nat) (hs : List HS) (boot : Int) (kd fr ds bt lf ec el : Int) (ia : Option Addr) (im ic : Nat) (peer : Int) (fq : Bool) (w : World) (hr : RdS w a n cap l) (RH : Hs w A hs.length c hs) (KQ : ∀ W, Below w.heap.size w W → Calls Try.prog 25 #[.agg #[.int .i64 kd, .int .i64 fr, .int .i64 ds, .int .i64 bt, .int .i64 lf, .int .i64 ec, .int .i64 el, .slice ia im ic]] W fun e w' => e = .returned (.bool fq) ∧ Below W.heap.size W w') (hno : ¬ (fitS idn l = true ∧ fitsB idn hs = true ∧ inB 1 boot 1099511627776 = true ∧ fq = true ∧ nodeB peer = true)) : Calls Try.prog 5 #[.int .i64 idn, .slice a n cap, .slice A hs.length c, .int .i64 boot, .agg #[.int .i64 kd, .int .i64 fr, .int .i64 ds, .int .i64 bt, .int .i64 lf, .int .i64 ec, .int .i64 el, .slice ia im ic], .int .i64 peer] w fun e w' => e = .returned (.bool true) ∧ Below w.heap.size w w' := by
  have b0 : Below w.heap.size w (w.alloc (.cells #[.int .i64 kd, .int .i64 fr, .int .i64 ds, .int .i64 bt, .int .i64 lf, .int .i64 ec, .int .i64 el, .slice ia im ic] 40)) := (Below.refl _ _).alloc (Nat.le_refl _) _
  have T0 : (w.alloc (.cells #[.int .i64 kd, .int .i64 fr, .int .i64 ds, .int .i64 bt, .int .i64 lf, .int .i64 ec, .int .i64 el, .slice ia im ic] 40)).heap[w.heap.size]? = some (.cells #[.int .i64 kd, .int .i64 fr, .int .i64 ds, .int .i64 bt, .int .i64 lf, .int .i64 ec, .int .i64 el, .slice ia im ic] 40 (0, 0)) := heap_new rfl
  have K1 := dfit_any_ idn a n cap l _ (hr.below b0)
  have K2 := fun W (h : Below w.heap.size w W) => rfits_any idn A c hs W (hs_below RH h)
  obtain ⟨f, hf⟩ : ∃ f, fitS idn l = f := ⟨_, rfl⟩
  obtain ⟨g, hg⟩ : ∃ f, fitsB idn hs = f := ⟨_, rfl⟩
  rw [hf, hg] at hno
  rw [hf] at K1
  simp only [hg] at K2
  clear hf hg hr RH
  cases f with
  | false =>
    clear hno
    go_enter Try.func5, Try.ntmps5
    go_wp2_with (first | (go_at_call 10; refine K1.mono ?_; rintro e w1 ⟨rfl, b1⟩; clear K1; have B1 := b0.trans (b1.mono b0.size); have T1 := (b1.block _ (row_lt T0)).trans T0) | (go_at_call 24; refine (K2 _ B1).mono ?_; rintro e w2 ⟨rfl, b2⟩; clear K2; have B2 := B1.trans (b2.mono B1.size); have T2 := (b2.block _ (row_lt T1)).trans T1) | (go_at_call 15; refine (kwithin_any _ _ _ _).mono ?_; rintro e wx ⟨rfl, hw⟩; rw [hw]; clear hw wx) | ((with_reducible show wpList _ _ _ (Oper.mk _ (Op.load 40 (Operand.tmp 10)) _ _ _ _ :: _) _ _); refine wpList_load40x (by rfl) _ rfl w.heap.size kd fr ds bt lf ec el ia im ic rfl T2 ?_) | (go_at_call 25; refine (KQ _ B2).mono ?_; rintro e w3 ⟨rfl, b3⟩; clear KQ; have B3 := B2.trans (b3.mono B2.size)) | (go_at_call 14; refine (knode_any _ _).mono ?_; rintro e wx ⟨rfl, hw⟩; rw [hw]; clear hw wx) | (go_at_call 13; refine (awake_any _).mono ?_; rintro e w9 ⟨rfl, b9⟩))
    go_ret
    exact ⟨rfl, B1.trans (b9.mono B1.size)⟩
  | true =>
    cases g with
    | false =>
      clear hno
      go_enter Try.func5, Try.ntmps5
      go_wp2_with (first | (go_at_call 10; refine K1.mono ?_; rintro e w1 ⟨rfl, b1⟩; clear K1; have B1 := b0.trans (b1.mono b0.size); have T1 := (b1.block _ (row_lt T0)).trans T0) | (go_at_call 24; refine (K2 _ B1).mono ?_; rintro e w2 ⟨rfl, b2⟩; clear K2; have B2 := B1.trans (b2.mono B1.size); have T2 := (b2.block _ (row_lt T1)).trans T1) | (go_at_call 15; refine (kwithin_any _ _ _ _).mono ?_; rintro e wx ⟨rfl, hw⟩; rw [hw]; clear hw wx) | ((with_reducible show wpList _ _ _ (Oper.mk _ (Op.load 40 (Operand.tmp 10)) _ _ _ _ :: _) _ _); refine wpList_load40x (by rfl) _ rfl w.heap.size kd fr ds bt lf ec el ia im ic rfl T2 ?_) | (go_at_call 25; refine (KQ _ B2).mono ?_; rintro e w3 ⟨rfl, b3⟩; clear KQ; have B3 := B2.trans (b3.mono B2.size)) | (go_at_call 14; refine (knode_any _ _).mono ?_; rintro e wx ⟨rfl, hw⟩; rw [hw]; clear hw wx) | (go_at_call 13; refine (awake_any _).mono ?_; rintro e w9 ⟨rfl, b9⟩))
      go_ret
      exact ⟨rfl, B2.trans (b9.mono B2.size)⟩
    | true =>
      cases hbt : inB 1 boot 1099511627776 with
      | false =>
        clear hno
        go_enter Try.func5, Try.ntmps5
        go_wp2_with (first | (go_at_call 10; refine K1.mono ?_; rintro e w1 ⟨rfl, b1⟩; clear K1; have B1 := b0.trans (b1.mono b0.size); have T1 := (b1.block _ (row_lt T0)).trans T0) | (go_at_call 24; refine (K2 _ B1).mono ?_; rintro e w2 ⟨rfl, b2⟩; clear K2; have B2 := B1.trans (b2.mono B1.size); have T2 := (b2.block _ (row_lt T1)).trans T1) | (go_at_call 15; refine (kwithin_any _ _ _ _).mono ?_; rintro e wx ⟨rfl, hw⟩; rw [hw]; clear hw wx) | ((with_reducible show wpList _ _ _ (Oper.mk _ (Op.load 40 (Operand.tmp 10)) _ _ _ _ :: _) _ _); refine wpList_load40x (by rfl) _ rfl w.heap.size kd fr ds bt lf ec el ia im ic rfl T2 ?_) | (go_at_call 25; refine (KQ _ B2).mono ?_; rintro e w3 ⟨rfl, b3⟩; clear KQ; have B3 := B2.trans (b3.mono B2.size)) | (go_at_call 14; refine (knode_any _ _).mono ?_; rintro e wx ⟨rfl, hw⟩; rw [hw]; clear hw wx) | (go_at_call 13; refine (awake_any _).mono ?_; rintro e w9 ⟨rfl, b9⟩))
        go_ret
        exact ⟨rfl, B2.trans (b9.mono B2.size)⟩
      | true =>
        cases fq with
        | false =>
          clear hno
          go_enter Try.func5, Try.ntmps5
          go_wp2_with (first | (go_at_call 10; refine K1.mono ?_; rintro e w1 ⟨rfl, b1⟩; clear K1; have B1 := b0.trans (b1.mono b0.size); have T1 := (b1.block _ (row_lt T0)).trans T0) | (go_at_call 24; refine (K2 _ B1).mono ?_; rintro e w2 ⟨rfl, b2⟩; clear K2; have B2 := B1.trans (b2.mono B1.size); have T2 := (b2.block _ (row_lt T1)).trans T1) | (go_at_call 15; refine (kwithin_any _ _ _ _).mono ?_; rintro e wx ⟨rfl, hw⟩; rw [hw]; clear hw wx) | ((with_reducible show wpList _ _ _ (Oper.mk _ (Op.load 40 (Operand.tmp 10)) _ _ _ _ :: _) _ _); refine wpList_load40x (by rfl) _ rfl w.heap.size kd fr ds bt lf ec el ia im ic rfl T2 ?_) | (go_at_call 25; refine (KQ _ B2).mono ?_; rintro e w3 ⟨rfl, b3⟩; clear KQ; have B3 := B2.trans (b3.mono B2.size)) | (go_at_call 14; refine (knode_any _ _).mono ?_; rintro e wx ⟨rfl, hw⟩; rw [hw]; clear hw wx) | (go_at_call 13; refine (awake_any _).mono ?_; rintro e w9 ⟨rfl, b9⟩))
          go_ret
          exact ⟨rfl, B3.trans (b9.mono B3.size)⟩
        | true =>
          cases hnd : nodeB peer with
          | false =>
            clear hno
            go_enter Try.func5, Try.ntmps5
            go_wp2_with (first | (go_at_call 10; refine K1.mono ?_; rintro e w1 ⟨rfl, b1⟩; clear K1; have B1 := b0.trans (b1.mono b0.size); have T1 := (b1.block _ (row_lt T0)).trans T0) | (go_at_call 24; refine (K2 _ B1).mono ?_; rintro e w2 ⟨rfl, b2⟩; clear K2; have B2 := B1.trans (b2.mono B1.size); have T2 := (b2.block _ (row_lt T1)).trans T1) | (go_at_call 15; refine (kwithin_any _ _ _ _).mono ?_; rintro e wx ⟨rfl, hw⟩; rw [hw]; clear hw wx) | ((with_reducible show wpList _ _ _ (Oper.mk _ (Op.load 40 (Operand.tmp 10)) _ _ _ _ :: _) _ _); refine wpList_load40x (by rfl) _ rfl w.heap.size kd fr ds bt lf ec el ia im ic rfl T2 ?_) | (go_at_call 25; refine (KQ _ B2).mono ?_; rintro e w3 ⟨rfl, b3⟩; clear KQ; have B3 := B2.trans (b3.mono B2.size)) | (go_at_call 14; refine (knode_any _ _).mono ?_; rintro e wx ⟨rfl, hw⟩; rw [hw]; clear hw wx) | (go_at_call 13; refine (awake_any _).mono ?_; rintro e w9 ⟨rfl, b9⟩))
            go_ret
            exact ⟨rfl, B3.trans (b9.mono B3.size)⟩
          | true => exact absurd ⟨rfl, rfl, hbt, rfl, hnd⟩ hno
set_option maxRecDepth 100000 in
set_option maxHeartbeats 16000000 in
theorem judges_walk0 (idn : Int) (a : Option Addr) (n cap : Nat) (l : List SN) (A : Option Addr) (c : Nat) (hs : List HS) (boot : Int) (kd fr ds bt lf ec el : Int) (ia : Option Addr) (im ic : Nat) (peer : Int) (fq : Bool) (w : World) (hr : RdS w a n cap l) (RH : Hs w A hs.length c hs) (KQ : ∀ W, Below w.heap.size w W → Calls Try.prog 25 #[.agg #[.int .i64 kd, .int .i64 fr, .int .i64 ds, .int .i64 bt, .int .i64 lf, .int .i64 ec, .int .i64 el, .slice ia im ic]] W fun e w' => e = .returned (.bool fq) ∧ Below W.heap.size W w') : Calls Try.prog 5 #[.int .i64 idn, .slice a n cap, .slice A hs.length c, .int .i64 boot, .agg #[.int .i64 kd, .int .i64 fr, .int .i64 ds, .int .i64 bt, .int .i64 lf, .int .i64 ec, .int .i64 el, .slice ia im ic], .int .i64 peer] w fun e w' => e = .returned (.bool true) ∧ Below w.heap.size w w' := by
  by_cases hall : fitS idn l = true ∧ fitsB idn hs = true ∧ inB 1 boot 1099511627776 = true ∧ fq = true ∧ nodeB peer = true
  case neg => exact judges_no idn a n cap l A c hs boot kd fr ds bt lf ec el ia im ic peer fq w hr RH KQ hall
  obtain ⟨hf, hfs, hbt, rfl, hnd⟩ := hall
  have F := fit_iff.1 hf
  have HRI := fits_rise hfs
  have b0 : Below w.heap.size w (w.alloc (.cells #[.int .i64 kd, .int .i64 fr, .int .i64 ds, .int .i64 bt, .int .i64 lf, .int .i64 ec, .int .i64 el, .slice ia im ic] 40)) := (Below.refl _ _).alloc (Nat.le_refl _) _
  have T0 : (w.alloc (.cells #[.int .i64 kd, .int .i64 fr, .int .i64 ds, .int .i64 bt, .int .i64 lf, .int .i64 ec, .int .i64 el, .slice ia im ic] 40)).heap[w.heap.size]? = some (.cells #[.int .i64 kd, .int .i64 fr, .int .i64 ds, .int .i64 bt, .int .i64 lf, .int .i64 ec, .int .i64 el, .slice ia im ic] 40 (0, 0)) := heap_new rfl
  have K1 := dfit_any_ idn a n cap l _ (hr.below b0)
  rw [hf] at K1
  have K2 := fun W (h : Below w.heap.size w W) => rfits_any idn A c hs W (hs_below RH h)
  simp only [hfs] at K2
  have J1 := fun W (h : Below w.heap.size w W) => judge_any a n cap l boot ⟨kd, fr, ds, bt, lf, ec, el, ia, im, ic⟩ W (hr.below h)
  have J2 := fun W (h : Below w.heap.size w W) => rjudge_any a n cap l boot ⟨kd, fr, ds, bt, lf, ec, el, ia, im, ic⟩ W (hr.below h) F.2.1
  have G1 := fun W (h : Below w.heap.size w W) => begins_any A c hs ⟨kd, fr, ds, bt, lf, ec, el, ia, im, ic⟩ W (hs_below RH h)
  have G2 := fun W (h : Below w.heap.size w W) => rbegins_any A c hs ⟨kd, fr, ds, bt, lf, ec, el, ia, im, ic⟩ W (hs_below RH h) HRI
  have P1 := fun W (h : Below w.heap.size w W) => parts_any A c hs ⟨kd, fr, ds, bt, lf, ec, el, ia, im, ic⟩ W (hs_below RH h)
  have P2 := fun W (h : Below w.heap.size w W) => rparts_any A c hs ⟨kd, fr, ds, bt, lf, ec, el, ia, im, ic⟩ W (hs_below RH h) HRI
  have E1 := fun W (h : Below w.heap.size w W) => hello_any idn boot peer a n cap l W (hr.below h)
  have E2 := fun W (h : Below w.heap.size w W) => rhello_any idn boot peer a n cap l W (hr.below h) F.2.1
  have V1 := fun W (h : Below w.heap.size w W) => welcome_any idn boot a n cap l ⟨kd, fr, ds, bt, lf, ec, el, ia, im, ic⟩ W (hr.below h)
  have V2 := fun W (h : Below w.heap.size w W) => rwelcome_any idn boot a n cap l ⟨kd, fr, ds, bt, lf, ec, el, ia, im, ic⟩ W (hr.below h) F.2.1
  simp only [PK.val] at J1 J2 G1 G2 P1 P2 E1 E2 V1 V2
  simp only [parts_eq] at P1
  obtain ⟨jv, hjv⟩ : ∃ v, judV (getL fr l) boot ⟨kd, fr, ds, bt, lf, ec, el, ia, im, ic⟩ = v := ⟨_, rfl⟩
  simp only [hjv] at J1 J2
  obtain ⟨bv, hbv⟩ : ∃ v, (!hitH fr hs || ltr bt lf (findH fr hs).boot (findH fr hs).life) = v := ⟨_, rfl⟩
  simp only [hbv] at G1 G2
  obtain ⟨pv, hpv⟩ : ∃ v, (hitH fr hs && (decide ((findH fr hs).boot = bt) && decide ((findH fr hs).life = lf))) = v := ⟨_, rfl⟩
  simp only [hpv] at P1 P2
  obtain ⟨m1, hm1⟩ : ∃ v, (getL peer l).mine = v := ⟨_, rfl⟩
  simp only [hm1] at E1 E2
  obtain ⟨m2, hm2⟩ : ∃ v, (getL fr l).mine = v := ⟨_, rfl⟩
  simp only [hm2] at V1 V2
  clear hjv hbv hpv hm1 hm2 hf hfs F HRI hr RH
  go_enter Try.func5, Try.ntmps5
  go_wp2_with (first
    | (go_at_call 10; refine K1.mono ?_; rintro e w1 ⟨rfl, b1⟩; clear K1; have B1 := b0.trans (b1.mono b0.size); have T1 := (b1.block _ (row_lt T0)).trans T0)
    | (go_at_call 24; refine (K2 _ B1).mono ?_; rintro e w2 ⟨rfl, b2⟩; clear K2; have B2 := B1.trans (b2.mono B1.size); have T2 := (b2.block _ (row_lt T1)).trans T1)
    | (go_at_call 15; refine (kwithin_any _ _ _ _).mono ?_; rintro e wx ⟨rfl, hw⟩; rw [hw]; clear hw wx)
    | ((with_reducible show wpList _ _ _ (Oper.mk _ (Op.load 40 (Operand.tmp 10)) _ _ _ _ :: _) _ _); refine wpList_load40x (by rfl) _ rfl w.heap.size kd fr ds bt lf ec el ia im ic rfl T2 ?_)
    | (go_at_call 25; refine (KQ _ B2).mono ?_; rintro e W0 ⟨rfl, b3⟩; clear KQ)
    | (go_at_call 14; refine (knode_any _ _).mono ?_; rintro e wx ⟨rfl, hw⟩; rw [hw]; clear hw wx)
    | fail)
  have B3 := B2.trans (b3.mono B2.size)
  have T3 := (b3.block _ (row_lt T2)).trans T2
  obtain ⟨qp, hqp⟩ : ∃ q : Nat, w.heap.size = q := ⟨_, rfl⟩
  rw [hqp] at T3
  simp only [hqp]
  have kp : ∀ X, Below W0.heap.size W0 X → X.heap[qp]? = some (.cells #[.int .i64 kd, .int .i64 fr, .int .i64 ds, .int .i64 bt, .int .i64 lf, .int .i64 ec, .int .i64 el, .slice ia im ic] 40 (0, 0)) := fun X h => (h.block _ (row_lt T3)).trans T3
  have kb : ∀ X, Below W0.heap.size W0 X → Below w.heap.size w X := fun X h => B3.trans (h.mono B3.size)
  clear hqp B3 b3 B2 b2 B1 b1 T2 T1 T0 b0
  refine wp_region_any (by kernel_rfl) ?_
  change wpAny _ _ _ _ _ _ _ (World.drew _)
  refine wpAny_narrow (fun W' => Below W0.heap.size W0 W') _ _ _ _ ?_
  refine anyH_take 0 39 (.slice a n cap) rfl rfl (by kernel_rfl) (by kernel_rfl) (by kernel_rfl) (fun _ _ _ h => h) (Or.inl ⟨by rfl, by intro w hSw; go_simp⟩) ((Below.refl _ _).drew) ?_
  try simp only [Act.put, List.setIfInBounds_toArray, List.set_cons_zero, List.set_cons_succ]
  refine anyH_take 1 40 (.int .i64 boot) rfl rfl (by kernel_rfl) (by kernel_rfl) (by kernel_rfl) (fun _ _ _ h => h) (Or.inl ⟨by rfl, by intro w hSw; go_simp⟩) ((Below.refl _ _).drew) ?_
  try simp only [Act.put, List.setIfInBounds_toArray, List.set_cons_zero, List.set_cons_succ]
  refine anyH_take 2 41 (.agg #[.int .i64 kd, .int .i64 fr, .int .i64 ds, .int .i64 bt, .int .i64 lf, .int .i64 ec, .int .i64 el, .slice ia im ic]) rfl rfl (by kernel_rfl) (by kernel_rfl) (by kernel_rfl) (fun _ _ _ h => h) (Or.inl ⟨by rfl, fun X hSw => exec_load40 rfl qp ⟨kd, fr, ds, bt, lf, ec, el, ia, im, ic⟩ rfl (kp X hSw)⟩) ((Below.refl _ _).drew) ?_
  try simp only [Act.put, List.setIfInBounds_toArray, List.set_cons_zero, List.set_cons_succ]
  refine anyH_take 4 43 (.slice a n cap) rfl rfl (by kernel_rfl) (by kernel_rfl) (by kernel_rfl) (fun _ _ _ h => h) (Or.inl ⟨by rfl, by intro w hSw; go_simp⟩) ((Below.refl _ _).drew) ?_
  try simp only [Act.put, List.setIfInBounds_toArray, List.set_cons_zero, List.set_cons_succ]
  refine anyH_take 5 44 (.int .i64 boot) rfl rfl (by kernel_rfl) (by kernel_rfl) (by kernel_rfl) (fun _ _ _ h => h) (Or.inl ⟨by rfl, by intro w hSw; go_simp⟩) ((Below.refl _ _).drew) ?_
  try simp only [Act.put, List.setIfInBounds_toArray, List.set_cons_zero, List.set_cons_succ]
  refine anyH_take 6 45 (.agg #[.int .i64 kd, .int .i64 fr, .int .i64 ds, .int .i64 bt, .int .i64 lf, .int .i64 ec, .int .i64 el, .slice ia im ic]) rfl rfl (by kernel_rfl) (by kernel_rfl) (by kernel_rfl) (fun _ _ _ h => h) (Or.inl ⟨by rfl, fun X hSw => exec_load40 rfl qp ⟨kd, fr, ds, bt, lf, ec, el, ia, im, ic⟩ rfl (kp X hSw)⟩) ((Below.refl _ _).drew) ?_
  try simp only [Act.put, List.setIfInBounds_toArray, List.set_cons_zero, List.set_cons_succ]
  refine wpAnyH_ready (rs := [3]) (by kernel_rfl) (by simp) ?_
  refine AllReadyH.cons rfl (fun K9 hK => ?_) AllReadyH.nil
  go_simp
  go_wp2_with (go_at_call 26; refine (J1 _ (kb _ (Below.refl _ _).drew)).mono ?_; rintro e wD1 ⟨rfl, d1⟩)
  have D1 : Below W0.heap.size W0 wD1 := (Below.refl _ _).drew.trans d1
  refine hK.out _ _ D1 (fun hSD1 => ?_)
  clear hK
  try simp only [Act.put, List.setIfInBounds_toArray, List.set_cons_zero, List.set_cons_succ]
  refine wpAnyH_ready (rs := [7]) (by kernel_rfl) (by simp) ?_
  refine AllReadyH.cons rfl (fun K9 hK => ?_) AllReadyH.nil
  go_simp
  go_wp2_with (go_at_call 27; refine (J2 _ (kb _ D1)).mono ?_; rintro e wD2 ⟨rfl, d2⟩)
  have D2 : Below W0.heap.size W0 wD2 := D1.trans (d2.mono D1.size)
  refine hK.out _ _ D2 (fun hSD2 => ?_)
  clear hK
  try simp only [Act.put, List.setIfInBounds_toArray, List.set_cons_zero, List.set_cons_succ]
  refine anyH_take 8 47 (.bool false) rfl rfl (by kernel_rfl) (by kernel_rfl) (by kernel_rfl) (fun _ _ _ h => h) (Or.inl ⟨by rfl, by intro w hSw; go_simp⟩) (D2) ?_
  try simp only [Act.put, List.setIfInBounds_toArray, List.set_cons_zero, List.set_cons_succ]
  refine anyH_take 9 48 (.bool false) rfl rfl (by kernel_rfl) (by kernel_rfl) (by kernel_rfl) (fun _ _ _ h => h) (Or.inl ⟨by rfl, by intro w hSw; go_simp⟩) (D2) ?_
  try simp only [Act.put, List.setIfInBounds_toArray, List.set_cons_zero, List.set_cons_succ]
  refine anyH_take 10 49 (.slice A hs.length c) rfl rfl (by kernel_rfl) (by kernel_rfl) (by kernel_rfl) (fun _ _ _ h => h) (Or.inl ⟨by rfl, by intro w hSw; go_simp⟩) (D2) ?_
  try simp only [Act.put, List.setIfInBounds_toArray, List.set_cons_zero, List.set_cons_succ]
  refine anyH_take 11 50 (.agg #[.int .i64 kd, .int .i64 fr, .int .i64 ds, .int .i64 bt, .int .i64 lf, .int .i64 ec, .int .i64 el, .slice ia im ic]) rfl rfl (by kernel_rfl) (by kernel_rfl) (by kernel_rfl) (fun _ _ _ h => h) (Or.inl ⟨by rfl, fun X hSw => exec_load40 rfl qp ⟨kd, fr, ds, bt, lf, ec, el, ia, im, ic⟩ rfl (kp X hSw)⟩) (D2) ?_
  try simp only [Act.put, List.setIfInBounds_toArray, List.set_cons_zero, List.set_cons_succ]
  refine anyH_take 13 52 (.slice A hs.length c) rfl rfl (by kernel_rfl) (by kernel_rfl) (by kernel_rfl) (fun _ _ _ h => h) (Or.inl ⟨by rfl, by intro w hSw; go_simp⟩) (D2) ?_
  try simp only [Act.put, List.setIfInBounds_toArray, List.set_cons_zero, List.set_cons_succ]
  refine anyH_take 14 53 (.agg #[.int .i64 kd, .int .i64 fr, .int .i64 ds, .int .i64 bt, .int .i64 lf, .int .i64 ec, .int .i64 el, .slice ia im ic]) rfl rfl (by kernel_rfl) (by kernel_rfl) (by kernel_rfl) (fun _ _ _ h => h) (Or.inl ⟨by rfl, fun X hSw => exec_load40 rfl qp ⟨kd, fr, ds, bt, lf, ec, el, ia, im, ic⟩ rfl (kp X hSw)⟩) (D2) ?_
  try simp only [Act.put, List.setIfInBounds_toArray, List.set_cons_zero, List.set_cons_succ]
  refine wpAnyH_ready (rs := [12]) (by kernel_rfl) (by simp) ?_
  refine AllReadyH.cons rfl (fun K9 hK => ?_) AllReadyH.nil
  go_simp
  go_wp2_with (go_at_call 28; refine (G1 _ (kb _ D2)).mono ?_; rintro e wD3 ⟨rfl, d3⟩)
  have D3 : Below W0.heap.size W0 wD3 := D2.trans (d3.mono D2.size)
  refine hK.out _ _ D3 (fun hSD3 => ?_)
  clear hK
  try simp only [Act.put, List.setIfInBounds_toArray, List.set_cons_zero, List.set_cons_succ]
  refine wpAnyH_ready (rs := [15]) (by kernel_rfl) (by simp) ?_
  refine AllReadyH.cons rfl (fun K9 hK => ?_) AllReadyH.nil
  go_simp
  go_wp2_with (go_at_call 29; refine (G2 _ (kb _ D3)).mono ?_; rintro e wD4 ⟨rfl, d4⟩)
  have D4 : Below W0.heap.size W0 wD4 := D3.trans (d4.mono D3.size)
  refine hK.out _ _ D4 (fun hSD4 => ?_)
  clear hK
  try simp only [Act.put, List.setIfInBounds_toArray, List.set_cons_zero, List.set_cons_succ]
  refine anyH_take 16 55 (.bool false) rfl rfl (by kernel_rfl) (by kernel_rfl) (by kernel_rfl) (fun _ _ _ h => h) (Or.inl ⟨by rfl, by intro w hSw; go_simp⟩) (D4) ?_
  try simp only [Act.put, List.setIfInBounds_toArray, List.set_cons_zero, List.set_cons_succ]
  refine anyH_take 17 56 (.bool false) rfl rfl (by kernel_rfl) (by kernel_rfl) (by kernel_rfl) (fun _ _ _ h => h) (Or.inl ⟨by rfl, by intro w hSw; go_simp⟩) (D4) ?_
  try simp only [Act.put, List.setIfInBounds_toArray, List.set_cons_zero, List.set_cons_succ]
  refine anyH_take 18 57 (.bool false) rfl rfl (by kernel_rfl) (by kernel_rfl) (by kernel_rfl) (fun _ _ _ h => h) (Or.inl ⟨by rfl, by intro w hSw; go_simp⟩) (D4) ?_
  try simp only [Act.put, List.setIfInBounds_toArray, List.set_cons_zero, List.set_cons_succ]
  refine anyH_take 19 58 (.slice A hs.length c) rfl rfl (by kernel_rfl) (by kernel_rfl) (by kernel_rfl) (fun _ _ _ h => h) (Or.inl ⟨by rfl, by intro w hSw; go_simp⟩) (D4) ?_
  try simp only [Act.put, List.setIfInBounds_toArray, List.set_cons_zero, List.set_cons_succ]
  refine anyH_take 20 59 (.agg #[.int .i64 kd, .int .i64 fr, .int .i64 ds, .int .i64 bt, .int .i64 lf, .int .i64 ec, .int .i64 el, .slice ia im ic]) rfl rfl (by kernel_rfl) (by kernel_rfl) (by kernel_rfl) (fun _ _ _ h => h) (Or.inl ⟨by rfl, fun X hSw => exec_load40 rfl qp ⟨kd, fr, ds, bt, lf, ec, el, ia, im, ic⟩ rfl (kp X hSw)⟩) (D4) ?_
  try simp only [Act.put, List.setIfInBounds_toArray, List.set_cons_zero, List.set_cons_succ]
  refine anyH_take 22 61 (.slice A hs.length c) rfl rfl (by kernel_rfl) (by kernel_rfl) (by kernel_rfl) (fun _ _ _ h => h) (Or.inl ⟨by rfl, by intro w hSw; go_simp⟩) (D4) ?_
  try simp only [Act.put, List.setIfInBounds_toArray, List.set_cons_zero, List.set_cons_succ]
  refine anyH_take 23 62 (.agg #[.int .i64 kd, .int .i64 fr, .int .i64 ds, .int .i64 bt, .int .i64 lf, .int .i64 ec, .int .i64 el, .slice ia im ic]) rfl rfl (by kernel_rfl) (by kernel_rfl) (by kernel_rfl) (fun _ _ _ h => h) (Or.inl ⟨by rfl, fun X hSw => exec_load40 rfl qp ⟨kd, fr, ds, bt, lf, ec, el, ia, im, ic⟩ rfl (kp X hSw)⟩) (D4) ?_
  try simp only [Act.put, List.setIfInBounds_toArray, List.set_cons_zero, List.set_cons_succ]
  refine wpAnyH_ready (rs := [21]) (by kernel_rfl) (by simp) ?_
  refine AllReadyH.cons rfl (fun K9 hK => ?_) AllReadyH.nil
  go_simp
  go_wp2_with (go_at_call 30; refine (P1 _ (kb _ D4)).mono ?_; rintro e wD5 ⟨rfl, d5⟩)
  have D5 : Below W0.heap.size W0 wD5 := D4.trans (d5.mono D4.size)
  refine hK.out _ _ D5 (fun hSD5 => ?_)
  clear hK
  try simp only [Act.put, List.setIfInBounds_toArray, List.set_cons_zero, List.set_cons_succ]
  refine wpAnyH_ready (rs := [24]) (by kernel_rfl) (by simp) ?_
  refine AllReadyH.cons rfl (fun K9 hK => ?_) AllReadyH.nil
  go_simp
  go_wp2_with (go_at_call 31; refine (P2 _ (kb _ D5)).mono ?_; rintro e wD6 ⟨rfl, d6⟩)
  have D6 : Below W0.heap.size W0 wD6 := D5.trans (d6.mono D5.size)
  refine hK.out _ _ D6 (fun hSD6 => ?_)
  clear hK
  try simp only [Act.put, List.setIfInBounds_toArray, List.set_cons_zero, List.set_cons_succ]
  refine anyH_take 25 64 (.bool false) rfl rfl (by kernel_rfl) (by kernel_rfl) (by kernel_rfl) (fun _ _ _ h => h) (Or.inl ⟨by rfl, by intro w hSw; go_simp⟩) (D6) ?_
  try simp only [Act.put, List.setIfInBounds_toArray, List.set_cons_zero, List.set_cons_succ]
  refine anyH_take 26 65 (.bool false) rfl rfl (by kernel_rfl) (by kernel_rfl) (by kernel_rfl) (fun _ _ _ h => h) (Or.inl ⟨by rfl, by intro w hSw; go_simp⟩) (D6) ?_
  try simp only [Act.put, List.setIfInBounds_toArray, List.set_cons_zero, List.set_cons_succ]
  refine wpAnyH_done (by kernel_rfl) ?_ _
  have kp2 : ∀ X, Below wD6.heap.size wD6 X → X.heap[qp]? = some (.cells #[.int .i64 kd, .int .i64 fr, .int .i64 ds, .int .i64 bt, .int .i64 lf, .int .i64 ec, .int .i64 el, .slice ia im ic] 40 (0, 0)) := fun X h => kp X (D6.trans (h.mono D6.size))
  have kb2 : ∀ X, Below wD6.heap.size wD6 X → Below w.heap.size w X := fun X h => kb X (D6.trans (h.mono D6.size))
  clear J1 J2 G1 G2 P1 P2
  go_wp2_with (fail)
  refine wp_region_any (by kernel_rfl) ?_
  change wpAny _ _ _ _ _ _ _ (World.drew _)
  refine wpAny_narrow (fun W' => Below wD6.heap.size wD6 W') _ _ _ _ ?_
  refine anyH_take 0 66 (.int .i64 idn) rfl rfl (by kernel_rfl) (by kernel_rfl) (by kernel_rfl) (fun _ _ _ h => h) (Or.inl ⟨by rfl, by intro w hSw; go_simp⟩) ((Below.refl _ _).drew) ?_
  try simp only [Act.put, List.setIfInBounds_toArray, List.set_cons_zero, List.set_cons_succ]
  refine anyH_take 1 67 (.int .i64 boot) rfl rfl (by kernel_rfl) (by kernel_rfl) (by kernel_rfl) (fun _ _ _ h => h) (Or.inl ⟨by rfl, by intro w hSw; go_simp⟩) ((Below.refl _ _).drew) ?_
  try simp only [Act.put, List.setIfInBounds_toArray, List.set_cons_zero, List.set_cons_succ]
  refine anyH_take 2 68 (.slice a n cap) rfl rfl (by kernel_rfl) (by kernel_rfl) (by kernel_rfl) (fun _ _ _ h => h) (Or.inl ⟨by rfl, by intro w hSw; go_simp⟩) ((Below.refl _ _).drew) ?_
  try simp only [Act.put, List.setIfInBounds_toArray, List.set_cons_zero, List.set_cons_succ]
  refine anyH_take 3 69 (.int .i64 peer) rfl rfl (by kernel_rfl) (by kernel_rfl) (by kernel_rfl) (fun _ _ _ h => h) (Or.inl ⟨by rfl, by intro w hSw; go_simp⟩) ((Below.refl _ _).drew) ?_
  try simp only [Act.put, List.setIfInBounds_toArray, List.set_cons_zero, List.set_cons_succ]
  refine anyH_take 5 71 (.int .i64 idn) rfl rfl (by kernel_rfl) (by kernel_rfl) (by kernel_rfl) (fun _ _ _ h => h) (Or.inl ⟨by rfl, by intro w hSw; go_simp⟩) ((Below.refl _ _).drew) ?_
  try simp only [Act.put, List.setIfInBounds_toArray, List.set_cons_zero, List.set_cons_succ]
  refine anyH_take 6 72 (.int .i64 boot) rfl rfl (by kernel_rfl) (by kernel_rfl) (by kernel_rfl) (fun _ _ _ h => h) (Or.inl ⟨by rfl, by intro w hSw; go_simp⟩) ((Below.refl _ _).drew) ?_
  try simp only [Act.put, List.setIfInBounds_toArray, List.set_cons_zero, List.set_cons_succ]
  refine anyH_take 7 73 (.slice a n cap) rfl rfl (by kernel_rfl) (by kernel_rfl) (by kernel_rfl) (fun _ _ _ h => h) (Or.inl ⟨by rfl, by intro w hSw; go_simp⟩) ((Below.refl _ _).drew) ?_
  try simp only [Act.put, List.setIfInBounds_toArray, List.set_cons_zero, List.set_cons_succ]
  refine anyH_take 8 74 (.int .i64 peer) rfl rfl (by kernel_rfl) (by kernel_rfl) (by kernel_rfl) (fun _ _ _ h => h) (Or.inl ⟨by rfl, by intro w hSw; go_simp⟩) ((Below.refl _ _).drew) ?_
  try simp only [Act.put, List.setIfInBounds_toArray, List.set_cons_zero, List.set_cons_succ]
  refine wpAnyH_ready (rs := [4]) (by kernel_rfl) (by simp) ?_
  refine AllReadyH.cons rfl (fun K9 hK => ?_) AllReadyH.nil
  go_simp
  go_wp2_with (go_at_call 33; refine (E1 _ (kb2 _ (Below.refl _ _).drew)).mono ?_; rintro e wF1 ⟨rfl, d1⟩)
  have F1 : Below wD6.heap.size wD6 wF1 := (Below.refl _ _).drew.trans d1
  refine hK.out _ _ F1 (fun hSF1 => ?_)
  clear hK
  try simp only [Act.put, List.setIfInBounds_toArray, List.set_cons_zero, List.set_cons_succ]
  refine wpAnyH_ready (rs := [9]) (by kernel_rfl) (by simp) ?_
  refine AllReadyH.cons rfl (fun K9 hK => ?_) AllReadyH.nil
  go_simp
  go_wp2_with (go_at_call 34; refine (E2 _ (kb2 _ F1)).mono ?_; rintro e wF2 ⟨rfl, d2⟩)
  have F2 : Below wD6.heap.size wD6 wF2 := F1.trans (d2.mono F1.size)
  refine hK.out _ _ F2 (fun hSF2 => ?_)
  clear hK
  try simp only [Act.put, List.setIfInBounds_toArray, List.set_cons_zero, List.set_cons_succ]
  refine wpAnyH_ready (rs := [10]) (by kernel_rfl) (by simp) ?_
  refine AllReadyH.cons rfl (fun K9 hK => ?_) AllReadyH.nil
  go_simp
  go_wp2_with (go_at_call 32; refine (psame_any 1 idn peer boot m1 0 0 _).mono ?_; rintro e wF3 ⟨rfl, d3⟩)
  have F3 : Below wD6.heap.size wD6 wF3 := F2.trans (d3.mono F2.size)
  refine hK.out _ _ F3 (fun hSF3 => ?_)
  clear hK
  try simp only [Act.put, List.setIfInBounds_toArray, List.set_cons_zero, List.set_cons_succ]
  refine anyH_take 11 77 (.bool true) rfl rfl (by kernel_rfl) (by kernel_rfl) (by kernel_rfl) (fun _ _ _ h => h) (Or.inl ⟨by rfl, by intro w hSw; go_simp⟩) (F3) ?_
  try simp only [Act.put, List.setIfInBounds_toArray, List.set_cons_zero, List.set_cons_succ]
  refine anyH_take 12 78 (.int .i64 idn) rfl rfl (by kernel_rfl) (by kernel_rfl) (by kernel_rfl) (fun _ _ _ h => h) (Or.inl ⟨by rfl, by intro w hSw; go_simp⟩) (F3) ?_
  try simp only [Act.put, List.setIfInBounds_toArray, List.set_cons_zero, List.set_cons_succ]
  refine anyH_take 13 79 (.int .i64 boot) rfl rfl (by kernel_rfl) (by kernel_rfl) (by kernel_rfl) (fun _ _ _ h => h) (Or.inl ⟨by rfl, by intro w hSw; go_simp⟩) (F3) ?_
  try simp only [Act.put, List.setIfInBounds_toArray, List.set_cons_zero, List.set_cons_succ]
  refine anyH_take 14 80 (.slice a n cap) rfl rfl (by kernel_rfl) (by kernel_rfl) (by kernel_rfl) (fun _ _ _ h => h) (Or.inl ⟨by rfl, by intro w hSw; go_simp⟩) (F3) ?_
  try simp only [Act.put, List.setIfInBounds_toArray, List.set_cons_zero, List.set_cons_succ]
  refine anyH_take 15 81 (.agg #[.int .i64 kd, .int .i64 fr, .int .i64 ds, .int .i64 bt, .int .i64 lf, .int .i64 ec, .int .i64 el, .slice ia im ic]) rfl rfl (by kernel_rfl) (by kernel_rfl) (by kernel_rfl) (fun _ _ _ h => h) (Or.inl ⟨by rfl, fun X hSw => exec_load40 rfl qp ⟨kd, fr, ds, bt, lf, ec, el, ia, im, ic⟩ rfl (kp2 X hSw)⟩) (F3) ?_
  try simp only [Act.put, List.setIfInBounds_toArray, List.set_cons_zero, List.set_cons_succ]
  refine anyH_take 17 83 (.int .i64 idn) rfl rfl (by kernel_rfl) (by kernel_rfl) (by kernel_rfl) (fun _ _ _ h => h) (Or.inl ⟨by rfl, by intro w hSw; go_simp⟩) (F3) ?_
  try simp only [Act.put, List.setIfInBounds_toArray, List.set_cons_zero, List.set_cons_succ]
  refine anyH_take 18 84 (.int .i64 boot) rfl rfl (by kernel_rfl) (by kernel_rfl) (by kernel_rfl) (fun _ _ _ h => h) (Or.inl ⟨by rfl, by intro w hSw; go_simp⟩) (F3) ?_
  try simp only [Act.put, List.setIfInBounds_toArray, List.set_cons_zero, List.set_cons_succ]
  refine anyH_take 19 85 (.slice a n cap) rfl rfl (by kernel_rfl) (by kernel_rfl) (by kernel_rfl) (fun _ _ _ h => h) (Or.inl ⟨by rfl, by intro w hSw; go_simp⟩) (F3) ?_
  try simp only [Act.put, List.setIfInBounds_toArray, List.set_cons_zero, List.set_cons_succ]
  refine anyH_take 20 86 (.agg #[.int .i64 kd, .int .i64 fr, .int .i64 ds, .int .i64 bt, .int .i64 lf, .int .i64 ec, .int .i64 el, .slice ia im ic]) rfl rfl (by kernel_rfl) (by kernel_rfl) (by kernel_rfl) (fun _ _ _ h => h) (Or.inl ⟨by rfl, fun X hSw => exec_load40 rfl qp ⟨kd, fr, ds, bt, lf, ec, el, ia, im, ic⟩ rfl (kp2 X hSw)⟩) (F3) ?_
  try simp only [Act.put, List.setIfInBounds_toArray, List.set_cons_zero, List.set_cons_succ]
  refine wpAnyH_ready (rs := [16]) (by kernel_rfl) (by simp) ?_
  refine AllReadyH.cons rfl (fun K9 hK => ?_) AllReadyH.nil
  go_simp
  go_wp2_with (go_at_call 35; refine (V1 _ (kb2 _ F3)).mono ?_; rintro e wF4 ⟨rfl, d4⟩)
  have F4 : Below wD6.heap.size wD6 wF4 := F3.trans (d4.mono F3.size)
  refine hK.out _ _ F4 (fun hSF4 => ?_)
  clear hK
  try simp only [Act.put, List.setIfInBounds_toArray, List.set_cons_zero, List.set_cons_succ]
  refine wpAnyH_ready (rs := [21]) (by kernel_rfl) (by simp) ?_
  refine AllReadyH.cons rfl (fun K9 hK => ?_) AllReadyH.nil
  go_simp
  go_wp2_with (go_at_call 36; refine (V2 _ (kb2 _ F4)).mono ?_; rintro e wF5 ⟨rfl, d5⟩)
  have F5 : Below wD6.heap.size wD6 wF5 := F4.trans (d5.mono F4.size)
  refine hK.out _ _ F5 (fun hSF5 => ?_)
  clear hK
  try simp only [Act.put, List.setIfInBounds_toArray, List.set_cons_zero, List.set_cons_succ]
  refine wpAnyH_ready (rs := [22]) (by kernel_rfl) (by simp) ?_
  refine AllReadyH.cons rfl (fun K9 hK => ?_) AllReadyH.nil
  go_simp
  go_wp2_with (go_at_call 32; refine (psame_any 2 idn fr boot m2 bt lf _).mono ?_; rintro e wF6 ⟨rfl, d6⟩)
  have F6 : Below wD6.heap.size wD6 wF6 := F5.trans (d6.mono F5.size)
  refine hK.out _ _ F6 (fun hSF6 => ?_)
  clear hK
  try simp only [Act.put, List.setIfInBounds_toArray, List.set_cons_zero, List.set_cons_succ]
  refine anyH_take 23 89 (.bool true) rfl rfl (by kernel_rfl) (by kernel_rfl) (by kernel_rfl) (fun _ _ _ h => h) (Or.inl ⟨by rfl, by intro w hSw; go_simp⟩) (F6) ?_
  try simp only [Act.put, List.setIfInBounds_toArray, List.set_cons_zero, List.set_cons_succ]
  refine anyH_take 24 90 (.bool true) rfl rfl (by kernel_rfl) (by kernel_rfl) (by kernel_rfl) (fun _ _ _ h => h) (Or.inl ⟨by rfl, by intro w hSw; go_simp⟩) (F6) ?_
  try simp only [Act.put, List.setIfInBounds_toArray, List.set_cons_zero, List.set_cons_succ]
  refine wpAnyH_ready (rs := [25]) (by kernel_rfl) (by simp) ?_
  refine AllReadyH.cons rfl (fun K9 hK => ?_) AllReadyH.nil
  go_simp
  go_wp2_with (go_at_call 13; refine (awake_any _).mono ?_; rintro e wF7 ⟨rfl, d7⟩)
  have F7 : Below wD6.heap.size wD6 wF7 := F6.trans (d7.mono F6.size)
  refine hK.out _ _ F7 (fun hSF7 => ?_)
  clear hK
  try simp only [Act.put, List.setIfInBounds_toArray, List.set_cons_zero, List.set_cons_succ]
  refine anyH_take 26 92 (.bool true) rfl rfl (by kernel_rfl) (by kernel_rfl) (by kernel_rfl) (fun _ _ _ h => h) (Or.inl ⟨by rfl, by intro w hSw; go_simp⟩) (F7) ?_
  try simp only [Act.put, List.setIfInBounds_toArray, List.set_cons_zero, List.set_cons_succ]
  refine anyH_take 27 12 (.bool true) rfl rfl (by kernel_rfl) (by kernel_rfl) (by kernel_rfl) (fun _ _ _ h => h) (Or.inl ⟨by rfl, by intro w hSw; go_simp⟩) (F7) ?_
  try simp only [Act.put, List.setIfInBounds_toArray, List.set_cons_zero, List.set_cons_succ]
  refine wpAnyH_done (by kernel_rfl) ?_ _
  go_wp2
  go_ret
  exact ⟨rfl, kb2 _ F7⟩
end Go.Proofs.Yteoiogjaecpddaa

namespace Go.Proofs.Yteoiogjaecpddaa
open Go.ChangeShapes Go.WideShapes Go.ChangeAt Go.RowKit
set_option linter.unusedVariables false

theorem judges_walk (idn : Int) (a : Option Addr) (n cap : Nat) (l : List SN) (A : Option Addr) (c : Nat) (hs : List HS) (boot : Int) (p : P.Pkt) (pa : Option Addr) (pn pc : Nat) (peer : Int) (w : World) (hr : RdS w a n cap l) (RH : Hs w A hs.length c hs) (R : P.RowI w pa pn pc p.items) : Calls Try.prog 5 #[.int .i64 idn, .slice a n cap, .slice A hs.length c, .int .i64 boot, P.pkv p pa pn pc, .int .i64 peer] w fun e w' => e = .returned (.bool true) ∧ Below w.heap.size w w' :=
  judges_walk0 idn a n cap l A c hs boot p.kind p.src p.dst p.boot p.life p.echo p.echoLife pa pn pc peer (P.fitP p) w hr RH (fun W h => P.rfit_any p pa pn pc W (R.below h))
end Go.Proofs.Yteoiogjaecpddaa

namespace Go.Proofs.Yteoiogjaecpddaa
open Go.ChangeShapes Go.WideShapes Go.ChangeAt Go.RowKit Go.Deep
set_option linter.unusedVariables false
set_option linter.unusedSimpArgs false
theorem range_csH {W : World} {b off : Nat} {l : List HR} (h : ∀ j, j < l.length → W.rangeAt b (off + j * 6) (l.getD j HR.z).cells) : W.rangeAt b off (csH l) := by
  intro q v hv
  have hq := (List.getElem?_eq_some_iff.1 hv).1
  rw [csH_len] at hq
  have e := csH_get l (q / 6) (q % 6) _ (get_zH l (q / 6) (by omega)) (by omega)
  rw [show 6 * (q / 6) + q % 6 = q by omega, hv] at e
  have := h (q / 6) (by omega) (q % 6) v e.symm
  rw [show off + q / 6 * 6 + q % 6 = off + q by omega] at this
  exact this
theorem weights_in {H : Type} {P : Program} {e : TypeId} : ∀ {l : List (DataW H)} {d : DataW H}, d ∈ l → ∀ n ∈ d.weights P e, n ∈ DataW.weightsAll P e l
  | d' :: r, d, hd, n, hn => by
    simp only [DataW.weightsAll, List.mem_append]
    rcases List.mem_cons.1 hd with rfl | h
    · exact Or.inl hn
    · exact Or.inr (weights_in h n hn)
theorem open_hlvs {H : Type} {enc : TypeId × Value → H} {W : World} {fuel : Nat} {v : Value} {d : DataW H} {ps : List MemPlace}
    (hf : DataW.trod enc Try.prog W 0 (fun _ => true) true fuel 37 [v] = some (d, ps)) (hB : ∀ k ∈ d.weights Try.prog 37, k ≤ reachBytes) :
    ∃ a cap, ∃ l : List HS, v = .slice a l.length cap ∧ Hs W a l.length cap l := by
  rcases open_slice Try.underlying37 hf with ⟨hcs, hx⟩ | ⟨x, len, c, m, n, D, Pl, hcs, _, hl, hm, hmm, hx, hel⟩
  · simp [Value.cells] at hcs
    subst hcs
    exact ⟨none, 0, [], rfl, rfl, [], rdH_nil _, fun i hi => by cases hi⟩
  · simp [Value.cells] at hcs
    subst hcs
    have hmc : m = c := by simpa using hmm
    subst hmc
    simp only [Prod.mk.injEq] at hx
    obtain ⟨hd, _⟩ := hx
    rw [cn24] at hel
    have each : ∀ i, i < len → ∃ q : HS × Option Addr × Nat, (∀ j v, (q.1.on q.2.1 q.2.2).cells[j]? = some v → W.cell? ((x.add (i * 6)).add j) = some v) ∧ RdO W q.1 q.2.1 q.2.2 := by
      intro i hi
      obtain ⟨cs', h1, h2⟩ := hel i (by omega)
      obtain ⟨_, hlen, hcell⟩ := World.cells?_some h1
      obtain ⟨h, a, k, hcs', R⟩ := open_halfc hlen h2 (fun k hk => hB k (by
        rw [hd]
        simp only [DataW.weights, Try.underlying37]
        refine List.mem_cons.2 (.inr (List.mem_append.2 (.inl ?_)))
        exact weights_in (List.mem_map.2 ⟨i, List.mem_range.2 hi, rfl⟩) k hk))
      refine ⟨(h, a, k), fun j v hj => ?_, R⟩
      have hjl : j < 6 := (List.getElem?_eq_some_iff.1 hj).1
      have hc := hcell j hjl
      rw [hcs'] at hc
      rw [hc]
      exact hj
    haveI : Inhabited (HS × Option Addr × Nat) := ⟨(HS.z, none, 0)⟩
    obtain ⟨F, hF⟩ := choose_lt each
    have h0 := hB (m * 64) (by
      rw [hd]
      simp only [DataW.weights, Try.underlying37]
      refine List.mem_cons.2 (.inl ?_)
      rw [by24]
      simp only [List.length_map, List.length_range, List.length_take, List.length_drop]
      first | omega | (simp; omega))
    unfold reachBytes at h0
    have hlen : ((List.range len).map (fun i => (F i).1)).length = len := by simp
    have hlen2 : ((List.range len).map (fun i => (F i).1.on (F i).2.1 (F i).2.2)).length = len := by simp
    have hg1 : ∀ j, j < len → ((List.range len).map (fun i => (F i).1)).getD j HS.z = (F j).1 := fun j hj => by rw [List.getD_eq_getElem?_getD]; simp [hj]
    have hg2 : ∀ j, j < len → ((List.range len).map (fun i => (F i).1.on (F i).2.1 (F i).2.2)).getD j HR.z = (F j).1.on (F j).2.1 (F j).2.2 := fun j hj => by rw [List.getD_eq_getElem?_getD]; simp [hj]
    refine ⟨some x, m, (List.range len).map (fun i => (F i).1), by rw [hlen], ?_⟩
    rw [hlen]
    refine ⟨hlen, (List.range len).map (fun i => (F i).1.on (F i).2.1 (F i).2.2), ⟨hlen2, by omega, by omega, ?_⟩, fun i hi => ⟨(F i).2.1, (F i).2.2, ?_⟩⟩
    · by_cases h0 : len = 0
      · exact .inr (.inl ⟨h0, x, rfl⟩)
      · obtain ⟨b, off, spot⟩ := x
        have hc := (hF 0 (by omega)).1 0 _ rfl
        have hspot : spot = none := by simpa [Addr.add] using World.cell?_spot hc
        subst hspot
        refine .inr (.inr ⟨b, off, rfl, World.block_lt_of_cell? _ _ hc, range_csH fun j hj => ?_⟩)
        rw [hlen2] at hj
        rw [hg2 j hj]
        intro i v hv
        have := (hF j hj).1 i v hv
        rw [add_plain', add_plain'] at this
        exact this
    · rw [hg1 i hi, hg2 i hi]
      exact ⟨rfl, (hF i hi).2⟩
theorem open_halves {H : Type} {enc : TypeId × Value → H} {W : World} {a : Option Addr} {len cap : Nat} {d : DataW H} {ps : List MemPlace} (h : DataW.Trod enc Try.prog W 0 (fun _ => true) true 37 (.slice a len cap) d ps) (hB : ∀ k ∈ d.weights Try.prog 37, k ≤ reachBytes) :
    ∃ l : List HS, l.length = len ∧ Hs W a l.length cap l := by
  obtain ⟨fuel, hf⟩ := h
  obtain ⟨a', cap', l, e, R⟩ := open_hlvs hf hB
  cases e
  exact ⟨l, rfl, R⟩
end Go.Proofs.Yteoiogjaecpddaa

namespace Go.Proofs.Yteoiogjaecpddaa.shakeJudges
open Go.ChangeShapes Go.WideShapes Go.ChangeAt Go.RowKit Go.Deep
set_option linter.unusedVariables false
set_option linter.unusedSimpArgs false

theorem own : ownKnob Try.prog.godebug = none := by kernel_rfl
theorem laidOut : laidOutB Try.prog = true := by kernel_rfl

set_option maxRecDepth 100000 in
theorem lifted (os : Os) (started : os.Started) (H : Type) (enc : TypeId × Value → H) :
    ReturnsInHanded {} Try.checked os 5 .any (Rows.shakeJudgesSpec.pre6 enc Try.prog Try.f5 Rows.shakeJudgesRow.domain false) (Rows.shakeJudgesSpec.post enc Try.prog Try.f5 false true false false) := by
  refine returnsInHanded_of_change_sized (C := Try.checked) own started (by kernel_rfl) Try.func5
    (ChangeSpec.witness6 (enc := enc) (C := Try.checked) false ⟨#[], #[.int .i64 0, .slice none 0 0, .slice none 0 0, .int .i64 0, .agg #[.int .i64 0, .int .i64 0, .int .i64 0, .int .i64 0, .int .i64 0, .int .i64 0, .int .i64 0, .slice none 0 0], .int .i64 0], []⟩ 8 (by kernel_rfl) (by kernel_rfl) (by kernel_rfl) (by kernel_rfl)) ?_
  intro W base args ds gs before hval0 hW hcnd hsz0 _
  have hsz : (DataW.weightsEach Try.prog (Try.f5.params.toList ++ Rows.shakeJudgesSpec.plain.varTypes Try.prog) (ds ++ gs)).all (· ≤ reachBytes) = true := hsz0
  clear hsz0
  have hval : ∀ (j : Nat) t v, Try.f5.params[j]? = some t → args[j]? = some v → Value.okWide Try.prog W .any base t v := hval0
  have hW' := hW
  obtain ⟨p, q, hA0, hV, rfl, hfz, hnd⟩ := hW
  have hA : DataW.TrodAll enc Try.prog W 0 (fun _ => true) true Try.f5.params.toList args.toList ds p := hA0
  rw [Try.params5] at hA hval hsz
  obtain ⟨v0, vs0, d0, ds0, p0, q0, hargs, rfl, rfl, h0, r0⟩ := trodAll_cons hA
  obtain ⟨v1, vs1, d1, ds1, p1, q1, rfl, rfl, rfl, h1, r1⟩ := trodAll_cons r0
  obtain ⟨v2, vs2, d2, ds2, p2, q2, rfl, rfl, rfl, h2, r2⟩ := trodAll_cons r1
  obtain ⟨v3, vs3, d3, ds3, p3, q3, rfl, rfl, rfl, h3, r3⟩ := trodAll_cons r2
  obtain ⟨v4, vs4, d4, ds4, p4, q4, rfl, rfl, rfl, h4, r4⟩ := trodAll_cons r3
  obtain ⟨v5, vs5, d5, ds5, p5, q5, rfl, rfl, rfl, h5, r5⟩ := trodAll_cons r4
  obtain ⟨rfl, rfl, rfl⟩ := trodAll_nil r5
  obtain rfl : args = #[v0, v1, v2, v3, v4, v5] := by cases args; simp_all
  obtain ⟨rfl, rfl⟩ := trodVars_none hV
  obtain ⟨a0, rfl, rfl, rfl, w0⟩ := open_int Try.underlying3 (hval 0 3 v0 rfl rfl) h0
  have k1 := h1
  have lt1 : ∀ x ∈ p1, x.block < W.heap.size := by obtain ⟨m, hm⟩ := k1; exact DataW.trod_lt m _ _ _ hm
  obtain ⟨a1, len1, cap1, rfl⟩ := okWide_slice Try.underlying22 (hval 1 22 v1 rfl rfl)
  obtain ⟨l1, O1⟩ := open_lS k1 (sized_arg hsz (j := 1) (t := 22) rfl rfl)
  have k2 := h2
  have lt2 : ∀ x ∈ p2, x.block < W.heap.size := by obtain ⟨m, hm⟩ := k2; exact DataW.trod_lt m _ _ _ hm
  obtain ⟨a2, len2, cap2, rfl⟩ := okWide_slice Try.underlying37 (hval 2 37 v2 rfl rfl)
  obtain ⟨l2, rfl, O2⟩ := open_halves k2 (sized_arg hsz (j := 2) (t := 37) rfl rfl)
  obtain ⟨a3, rfl, rfl, rfl, w3⟩ := open_int Try.underlying2 (hval 3 2 v3 rfl rfl) h3
  have k4 := h4
  have lt4 : ∀ x ∈ p4, x.block < W.heap.size := by obtain ⟨m, hm⟩ := k4; exact DataW.trod_lt m _ _ _ hm
  obtain ⟨z4, a4, len4, cap4, rfl, O4, _⟩ := P.open_pkt (hval 4 40 v4 rfl rfl) k4
  obtain ⟨a5, rfl, rfl, rfl, w5⟩ := open_int Try.underlying3 (hval 5 3 v5 rfl rfl) h5
  clear hA0 hval0
  refine (judges_walk a0 a1 len1 cap1 l1 a2 cap2 l2 a3 z4 a4 len4 cap4 a5 W O1 O2 O4).mono fun e W' ⟨he, bel⟩ => ?_
  subst he
  exact ⟨_, rfl, _, _, _, [], _, [], hW', trodAll_mk1 (shut_bool Try.underlying4 _), (trodAll_cons_mk (shut_int Try.underlying3 w0) (trodAll_cons_mk (Below.trod laidOut (by kernel_rfl) (of_decide_eq_true (by kernel_rfl)) k1 bel lt1) (trodAll_cons_mk (Below.trod laidOut (by kernel_rfl) (of_decide_eq_true (by kernel_rfl)) k2 bel lt2) (trodAll_cons_mk (shut_int Try.underlying2 w3) (trodAll_cons_mk (Below.trod laidOut (by kernel_rfl) (of_decide_eq_true (by kernel_rfl)) k4 bel lt4) (trodAll_cons_mk (shut_int Try.underlying3 w5) trodAll_mk0)))))), rfl, bel.frame _, fun h => by cases h⟩

theorem over : Rows.shakeJudgesRow.holds Try.pinned (OpenSpec.ofChange Rows.shakeJudgesSpec) :=
  OpenClaim.holds_of_wide 5 Try.f5 rfl rfl rfl rfl rfl rfl rfl ⟨rfl, rfl, rfl, rfl, rfl⟩ rfl rfl rfl rfl rfl (by kernel_rfl) Try.func5 (by kernel_rfl)
    (of_decide_eq_true (by kernel_rfl)) (by unfold Func.isWrapper; first | (rw [if_pos (by decide +kernel)]; kernel_rfl) | (rw [if_neg (by decide +kernel)]; exact ⟨rfl, rfl⟩))
    (fun os started H enc _ => lifted os started H enc)

/-- The statement. -/
theorem proved : Rows.ShakeJudgesSaid := over
#print axioms proved
end Go.Proofs.Yteoiogjaecpddaa.shakeJudges
