/-
  The law ShakeTurns.
-/
import Derived.Test.YteoiogjaecpddaaSC
namespace Go.Proofs.Yteoiogjaecpddaa
open Go.ChangeShapes Go.WideShapes Go.ChangeAt Go.RowKit
set_option linter.unusedVariables false
set_option linter.unusedSimpArgs false
attribute [local go_sem] field61 field33 field33b field33c

theorem jud_good {s : SN} {boot : Int} {p : PK} (h : judV s boot p = 2) : ltr s.boot s.life p.boot p.life = false ∧ p.kind ≠ 1 ∧ p.echo = boot ∧ p.elife = s.mine := by
  unfold judV at h
  split at h
  · cases h
  · rename_i h1
    split at h
    · rename_i h2
      exact ⟨Bool.eq_false_iff.2 h1, h2⟩
    · split at h <;> cases h
theorem jud_ne {s : SN} {boot : Int} {p : PK} (h : p.elife ≠ s.mine) : (judV s boot p == 2) = false := by
  unfold judV
  split
  · rfl
  · rw [if_neg (fun k => h k.2.2)]
    split <;> rfl
theorem jud_stale {s : SN} {boot : Int} {p : PK} (h : ltr s.boot s.life p.boot p.life = true) : judV s boot p = 1 := by
  unfold judV
  rw [if_pos h]
set_option maxRecDepth 100000 in
set_option maxHeartbeats 16000000 in
theorem turns_no (idn : Int) (a : Option Addr) (n cap : Nat) (l : List SN) (boot : Int) (kd fr ds bt lf ec el : Int) (ia : Option Addr) (im ic : Nat) (later : Int) (fq : Bool) (w : World) (hr : RdS w a n cap l) (KQ : ∀ W, Below w.heap.size w W → Calls Try.prog 25 #[.agg #[.int .i64 kd, .int .i64 fr, .int .i64 ds, .int .i64 bt, .int .i64 lf, .int .i64 ec, .int .i64 el, .slice ia im ic]] W fun e w' => e = .returned (.bool fq) ∧ Below W.heap.size W w') (hno : ¬ (fitS idn l = true ∧ inB 1 boot 1099511627776 = true ∧ fq = true ∧ fr ≠ idn ∧ judV (getL fr l) boot ⟨kd, fr, ds, bt, lf, ec, el, ia, im, ic⟩ = 2)) : Calls Try.prog 7 #[.int .i64 idn, .slice a n cap, .int .i64 boot, .agg #[.int .i64 kd, .int .i64 fr, .int .i64 ds, .int .i64 bt, .int .i64 lf, .int .i64 ec, .int .i64 el, .slice ia im ic], .int .i64 later] w fun e w' => e = .returned (.bool true) ∧ Below w.heap.size w w' := by
  have b0 : Below w.heap.size w (w.alloc (.cells #[.int .i64 kd, .int .i64 fr, .int .i64 ds, .int .i64 bt, .int .i64 lf, .int .i64 ec, .int .i64 el, .slice ia im ic] 40)) := (Below.refl _ _).alloc (Nat.le_refl _) _
  have T0 : (w.alloc (.cells #[.int .i64 kd, .int .i64 fr, .int .i64 ds, .int .i64 bt, .int .i64 lf, .int .i64 ec, .int .i64 el, .slice ia im ic] 40)).heap[w.heap.size]? = some (.cells #[.int .i64 kd, .int .i64 fr, .int .i64 ds, .int .i64 bt, .int .i64 lf, .int .i64 ec, .int .i64 el, .slice ia im ic] 40 (0, 0)) := heap_new rfl
  have K1 := dfit_any_ idn a n cap l _ (hr.below b0)
  have KJ := fun W (h : Below w.heap.size w W) => judge_any a n cap l boot ⟨kd, fr, ds, bt, lf, ec, el, ia, im, ic⟩ W (hr.below h)
  dsimp only [PK.val] at KJ
  obtain ⟨f, hf⟩ : ∃ f, fitS idn l = f := ⟨_, rfl⟩
  obtain ⟨jv, hjv⟩ : ∃ v, judV (getL fr l) boot ⟨kd, fr, ds, bt, lf, ec, el, ia, im, ic⟩ = v := ⟨_, rfl⟩
  rw [hf, hjv] at hno
  rw [hf] at K1
  simp only [hjv] at KJ
  clear hf hjv hr
  cases f with
  | false =>
    clear hno
    go_enter Try.func7, Try.ntmps7
    go_wp2_with (first | (go_at_call 10; refine K1.mono ?_; rintro e w1 ⟨rfl, b1⟩; clear K1; have B1 := b0.trans (b1.mono b0.size); have T1 := (b1.block _ (row_lt T0)).trans T0) | (go_at_call 15; refine (kwithin_any _ _ _ _).mono ?_; rintro e wx ⟨rfl, hw⟩; rw [hw]; clear hw wx) | ((with_reducible show wpList _ _ _ (Oper.mk _ (Op.load 40 (Operand.tmp 8)) _ _ _ _ :: _) _ _); refine wpList_load40x (by rfl) _ rfl w.heap.size kd fr ds bt lf ec el ia im ic rfl (by first | exact T2 | exact T1) ?_) | (go_at_call 25; refine (KQ _ B1).mono ?_; rintro e w2 ⟨rfl, b2⟩; clear KQ; have B2 := B1.trans (b2.mono B1.size); have T2 := (b2.block _ (row_lt T1)).trans T1; have ⟨k0, k1, k2, k3, k4, k5, k6, k7⟩ := cel8 T2) | (go_at_call 26; refine (KJ _ B2).mono ?_; rintro e w3 ⟨rfl, b3⟩; clear KJ; have B3 := B2.trans (b3.mono B2.size)) | (go_at_call 13; refine (awake_any _).mono ?_; rintro e w9 ⟨rfl, b9⟩))
    go_ret
    exact ⟨rfl, B1.trans (b9.mono B1.size)⟩
  | true =>
    cases hbt : inB 1 boot 1099511627776 with
    | false =>
      clear hno
      go_enter Try.func7, Try.ntmps7
      go_wp2_with (first | (go_at_call 10; refine K1.mono ?_; rintro e w1 ⟨rfl, b1⟩; clear K1; have B1 := b0.trans (b1.mono b0.size); have T1 := (b1.block _ (row_lt T0)).trans T0) | (go_at_call 15; refine (kwithin_any _ _ _ _).mono ?_; rintro e wx ⟨rfl, hw⟩; rw [hw]; clear hw wx) | ((with_reducible show wpList _ _ _ (Oper.mk _ (Op.load 40 (Operand.tmp 8)) _ _ _ _ :: _) _ _); refine wpList_load40x (by rfl) _ rfl w.heap.size kd fr ds bt lf ec el ia im ic rfl (by first | exact T2 | exact T1) ?_) | (go_at_call 25; refine (KQ _ B1).mono ?_; rintro e w2 ⟨rfl, b2⟩; clear KQ; have B2 := B1.trans (b2.mono B1.size); have T2 := (b2.block _ (row_lt T1)).trans T1; have ⟨k0, k1, k2, k3, k4, k5, k6, k7⟩ := cel8 T2) | (go_at_call 26; refine (KJ _ B2).mono ?_; rintro e w3 ⟨rfl, b3⟩; clear KJ; have B3 := B2.trans (b3.mono B2.size)) | (go_at_call 13; refine (awake_any _).mono ?_; rintro e w9 ⟨rfl, b9⟩))
      go_ret
      exact ⟨rfl, B1.trans (b9.mono B1.size)⟩
    | true =>
      cases fq with
      | false =>
        clear hno
        go_enter Try.func7, Try.ntmps7
        go_wp2_with (first | (go_at_call 10; refine K1.mono ?_; rintro e w1 ⟨rfl, b1⟩; clear K1; have B1 := b0.trans (b1.mono b0.size); have T1 := (b1.block _ (row_lt T0)).trans T0) | (go_at_call 15; refine (kwithin_any _ _ _ _).mono ?_; rintro e wx ⟨rfl, hw⟩; rw [hw]; clear hw wx) | ((with_reducible show wpList _ _ _ (Oper.mk _ (Op.load 40 (Operand.tmp 8)) _ _ _ _ :: _) _ _); refine wpList_load40x (by rfl) _ rfl w.heap.size kd fr ds bt lf ec el ia im ic rfl (by first | exact T2 | exact T1) ?_) | (go_at_call 25; refine (KQ _ B1).mono ?_; rintro e w2 ⟨rfl, b2⟩; clear KQ; have B2 := B1.trans (b2.mono B1.size); have T2 := (b2.block _ (row_lt T1)).trans T1; have ⟨k0, k1, k2, k3, k4, k5, k6, k7⟩ := cel8 T2) | (go_at_call 26; refine (KJ _ B2).mono ?_; rintro e w3 ⟨rfl, b3⟩; clear KJ; have B3 := B2.trans (b3.mono B2.size)) | (go_at_call 13; refine (awake_any _).mono ?_; rintro e w9 ⟨rfl, b9⟩))
        go_ret
        exact ⟨rfl, B2.trans (b9.mono B2.size)⟩
      | true =>
        by_cases he : fr = idn
        · have heb : (fr == idn) = true := by simpa using he
          clear he hno
          go_enter Try.func7, Try.ntmps7
          go_wp2_with (first | (go_at_call 10; refine K1.mono ?_; rintro e w1 ⟨rfl, b1⟩; clear K1; have B1 := b0.trans (b1.mono b0.size); have T1 := (b1.block _ (row_lt T0)).trans T0) | (go_at_call 15; refine (kwithin_any _ _ _ _).mono ?_; rintro e wx ⟨rfl, hw⟩; rw [hw]; clear hw wx) | ((with_reducible show wpList _ _ _ (Oper.mk _ (Op.load 40 (Operand.tmp 8)) _ _ _ _ :: _) _ _); refine wpList_load40x (by rfl) _ rfl w.heap.size kd fr ds bt lf ec el ia im ic rfl (by first | exact T2 | exact T1) ?_) | (go_at_call 25; refine (KQ _ B1).mono ?_; rintro e w2 ⟨rfl, b2⟩; clear KQ; have B2 := B1.trans (b2.mono B1.size); have T2 := (b2.block _ (row_lt T1)).trans T1; have ⟨k0, k1, k2, k3, k4, k5, k6, k7⟩ := cel8 T2) | (go_at_call 26; refine (KJ _ B2).mono ?_; rintro e w3 ⟨rfl, b3⟩; clear KJ; have B3 := B2.trans (b3.mono B2.size)) | (go_at_call 13; refine (awake_any _).mono ?_; rintro e w9 ⟨rfl, b9⟩))
          go_ret
          exact ⟨rfl, B2.trans (b9.mono B2.size)⟩
        · have heb : (fr == idn) = false := by simpa using he
          have hj2 : (jv != 2) = true := by simpa using fun h : jv = 2 => hno ⟨rfl, hbt, rfl, he, h⟩
          clear he hno
          go_enter Try.func7, Try.ntmps7
          go_wp2_with (first | (go_at_call 10; refine K1.mono ?_; rintro e w1 ⟨rfl, b1⟩; clear K1; have B1 := b0.trans (b1.mono b0.size); have T1 := (b1.block _ (row_lt T0)).trans T0) | (go_at_call 15; refine (kwithin_any _ _ _ _).mono ?_; rintro e wx ⟨rfl, hw⟩; rw [hw]; clear hw wx) | ((with_reducible show wpList _ _ _ (Oper.mk _ (Op.load 40 (Operand.tmp 8)) _ _ _ _ :: _) _ _); refine wpList_load40x (by rfl) _ rfl w.heap.size kd fr ds bt lf ec el ia im ic rfl (by first | exact T2 | exact T1) ?_) | (go_at_call 25; refine (KQ _ B1).mono ?_; rintro e w2 ⟨rfl, b2⟩; clear KQ; have B2 := B1.trans (b2.mono B1.size); have T2 := (b2.block _ (row_lt T1)).trans T1; have ⟨k0, k1, k2, k3, k4, k5, k6, k7⟩ := cel8 T2) | (go_at_call 26; refine (KJ _ B2).mono ?_; rintro e w3 ⟨rfl, b3⟩; clear KJ; have B3 := B2.trans (b3.mono B2.size)) | (go_at_call 13; refine (awake_any _).mono ?_; rintro e w9 ⟨rfl, b9⟩))
          go_ret
          exact ⟨rfl, B3.trans (b9.mono B3.size)⟩
set_option maxRecDepth 100000 in
set_option maxHeartbeats 16000000 in
theorem turns_walk0 (idn : Int) (a : Option Addr) (n cap : Nat) (l : List SN) (boot : Int) (kd fr ds bt lf ec el : Int) (ia : Option Addr) (im ic : Nat) (later : Int) (fq : Bool) (w : World) (hr : RdS w a n cap l) (KQ : ∀ W, Below w.heap.size w W → Calls Try.prog 25 #[.agg #[.int .i64 kd, .int .i64 fr, .int .i64 ds, .int .i64 bt, .int .i64 lf, .int .i64 ec, .int .i64 el, .slice ia im ic]] W fun e w' => e = .returned (.bool fq) ∧ Below W.heap.size W w') (HQ : fq = true → 1 ≤ bt ∧ bt ≤ 1099511627776) : Calls Try.prog 7 #[.int .i64 idn, .slice a n cap, .int .i64 boot, .agg #[.int .i64 kd, .int .i64 fr, .int .i64 ds, .int .i64 bt, .int .i64 lf, .int .i64 ec, .int .i64 el, .slice ia im ic], .int .i64 later] w fun e w' => e = .returned (.bool true) ∧ Below w.heap.size w w' := by
  by_cases hall : fitS idn l = true ∧ inB 1 boot 1099511627776 = true ∧ fq = true ∧ fr ≠ idn ∧ judV (getL fr l) boot ⟨kd, fr, ds, bt, lf, ec, el, ia, im, ic⟩ = 2
  case neg => exact turns_no idn a n cap l boot kd fr ds bt lf ec el ia im ic later fq w hr KQ hall
  obtain ⟨hf, hbt, rfl, hne, hj⟩ := hall
  have hB := HQ rfl
  have F := fit_iff.1 hf
  have hneb : (fr == idn) = false := by simpa using hne
  have b0 : Below w.heap.size w (w.alloc (.cells #[.int .i64 kd, .int .i64 fr, .int .i64 ds, .int .i64 bt, .int .i64 lf, .int .i64 ec, .int .i64 el, .slice ia im ic] 40)) := (Below.refl _ _).alloc (Nat.le_refl _) _
  have T0 : (w.alloc (.cells #[.int .i64 kd, .int .i64 fr, .int .i64 ds, .int .i64 bt, .int .i64 lf, .int .i64 ec, .int .i64 el, .slice ia im ic] 40)).heap[w.heap.size]? = some (.cells #[.int .i64 kd, .int .i64 fr, .int .i64 ds, .int .i64 bt, .int .i64 lf, .int .i64 ec, .int .i64 el, .slice ia im ic] 40 (0, 0)) := heap_new rfl
  have K1 := dfit_any_ idn a n cap l _ (hr.below b0)
  rw [hf] at K1
  have KJ := fun W (h : Below w.heap.size w W) => judge_any a n cap l boot ⟨kd, fr, ds, bt, lf, ec, el, ia, im, ic⟩ W (hr.below h)
  simp only [hj, PK.val] at KJ
  have hg := jud_good hj
  have KG := fun W (h : Below w.heap.size w W) => get_any a n cap l fr W (hr.below h)
  have KD := fun W (h : Below w.heap.size w W) => drp_any idn fr a n cap l W (hr.below h) F
  have KS := fun (hb : 1 ≤ later) W (h : Below w.heap.size w W) => see_any idn fr later 0 a n cap l W (hr.below h) F hb
  have KJD := fun a2 c2 W (R : RdS W a2 (drpL fr l).length c2 (drpL fr l)) => judge_any a2 _ c2 _ boot ⟨kd, fr, ds, bt, lf, ec, el, ia, im, ic⟩ W R
  have KJS := fun a2 c2 W (R : RdS W a2 (seeL fr later 0 l).length c2 (seeL fr later 0 l)) => judge_any a2 _ c2 _ boot ⟨kd, fr, ds, bt, lf, ec, el, ia, im, ic⟩ W R
  simp only [get_drp, if_true, PK.val] at KJD
  have hld : (drpL fr l).length ≤ 17 := Nat.le_trans (ins_len _ _) (by have := fit_len F; omega)
  have hls : (seeL fr later 0 l).length ≤ 17 := by unfold seeL; split; exact Nat.le_trans (ins_len _ _) (by have := fit_len F; omega); have := fit_len F; omega
  have hrg := (get_rng (k := fr) F).2.2
  have HST : Hid (bt < later → judV (getL fr (seeL fr later 0 l)) boot ⟨kd, fr, ds, bt, lf, ec, el, ia, im, ic⟩ = 1) := by
    intro hlt
    refine jud_stale ?_
    have h1 := ltr_no.1 hg.1
    dsimp only at h1
    have hl : ltr later 0 (getL fr l).boot (getL fr l).life = true := ltr_iff.2 (.inl (by omega))
    rw [get_see, if_pos ⟨rfl, hl⟩]
    exact ltr_iff.2 (.inl hlt)
  obtain ⟨⟨s0, s1, s2, s3⟩, hs⟩ : ∃ s, getL fr l = s := ⟨_, rfl⟩
  simp only [hs] at KG KJD hg hrg
  try dsimp only at hg hrg
  have HJD : Hid (s3 < 1099511627776 → (judV (drop1 ⟨s0, s1, s2, s3⟩) boot ⟨kd, fr, ds, bt, lf, ec, el, ia, im, ic⟩ == 2) = false) := by
    intro h
    refine jud_ne ?_
    show el ≠ (if 1099511627775 < s3 then 1099511627775 else s3) + 1
    rw [hg.2.2.2, if_neg (by omega)]
    omega
  obtain ⟨jd, hjd⟩ : ∃ v, judV (drop1 ⟨s0, s1, s2, s3⟩) boot ⟨kd, fr, ds, bt, lf, ec, el, ia, im, ic⟩ = v := ⟨_, rfl⟩
  rw [hjd] at HJD
  simp only [hjd] at KJD
  obtain ⟨DL, hDL⟩ : ∃ s, drpL fr l = s := ⟨_, rfl⟩
  rw [hDL] at hld
  simp only [hDL] at KD KJD
  simp only [SN.val] at KG
  have HLD : Hid (DL.length ≤ 17) := hld
  have HLS : Hid ((seeL fr later 0 l).length ≤ 17) := hls
  have hwb : IntKind.i64.wrap (bt + 1) = bt + 1 := by rw [IntKind.wrap_i64]; omega
  clear hs hjd hDL hg hrg hj hf hne F hr HQ hld hls
  go_enter Try.func7, Try.ntmps7
  go_wp2_with (first
    | (go_at_call 10; refine K1.mono ?_; rintro e w1 ⟨rfl, b1⟩; clear K1; have B1 := b0.trans (b1.mono b0.size); have T1 := (b1.block _ (row_lt T0)).trans T0)
    | (go_at_call 15; refine (kwithin_any _ _ _ _).mono ?_; rintro e wx ⟨rfl, hw⟩; rw [hw]; clear hw wx)
    | ((with_reducible show wpList _ _ _ (Oper.mk _ (Op.load 40 (Operand.tmp 8)) _ _ _ _ :: _) _ _); refine wpList_load40x (by rfl) _ rfl w.heap.size kd fr ds bt lf ec el ia im ic rfl (by first | exact T2 | exact T1) ?_)
    | (go_at_call 25; refine (KQ _ B1).mono ?_; rintro e w2 ⟨rfl, b2⟩; clear KQ; have B2 := B1.trans (b2.mono B1.size); have T2 := (b2.block _ (row_lt T1)).trans T1; have ⟨k0, k1, k2, k3, k4, k5, k6, k7⟩ := cel8 T2)
    | (go_at_call 26; refine (KJ _ B2).mono ?_; rintro e W0 ⟨rfl, b3⟩; clear KJ)
    | fail)
  have B3 := B2.trans (b3.mono B2.size)
  have T3 := (b3.block _ (row_lt T2)).trans T2
  have HB3 : Hid (Below w.heap.size w W0) := B3
  obtain ⟨qp, hqp⟩ : ∃ q : Nat, w.heap.size = q := ⟨_, rfl⟩
  rw [hqp] at T3
  simp only [hqp]
  have kp : ∀ X, Below W0.heap.size W0 X → X.heap[qp]? = some (.cells #[.int .i64 kd, .int .i64 fr, .int .i64 ds, .int .i64 bt, .int .i64 lf, .int .i64 ec, .int .i64 el, .slice ia im ic] 40 (0, 0)) := fun X h => (h.block _ (row_lt T3)).trans T3
  have kb : ∀ X, Below W0.heap.size W0 X → Below w.heap.size w X := fun X h => B3.trans (h.mono B3.size)
  clear hqp B3 b3 B2 b2 B1 b1 T2 T1 T0 b0
  by_cases hm : s3 < 1099511627776
  case pos =>
    have hjb := HJD.out hm
    refine wp_region_any (by kernel_rfl) ?_
    change wpAny _ _ _ _ _ _ _ (World.drew _)
    refine wpAny_narrow (fun W' => Below W0.heap.size W0 W') _ _ _ _ ?_
    refine anyH_take 0 39 (.slice a n cap) rfl rfl (by kernel_rfl) (by kernel_rfl) (by kernel_rfl) (fun _ _ _ h => h) (Or.inl ⟨by rfl, by intro w hSw; go_simp⟩) ((Below.refl _ _).drew) ?_
    try simp only [Act.put, List.setIfInBounds_toArray, List.set_cons_zero, List.set_cons_succ]
    refine anyH_take 1 40 (.pointer (some ⟨qp, 1, none⟩)) rfl rfl (by kernel_rfl) (by kernel_rfl) (by kernel_rfl) (fun _ _ _ h => h) (Or.inl ⟨by rfl, by intro w hSw; go_simp⟩) ((Below.refl _ _).drew) ?_
    try simp only [Act.put, List.setIfInBounds_toArray, List.set_cons_zero, List.set_cons_succ]
    refine anyH_take 2 41 (.int .i64 fr) rfl rfl (by kernel_rfl) (by kernel_rfl) (by kernel_rfl) (fun _ _ _ h => h) (Or.inl ⟨by rfl, by intro w hSw; have s1 := row_cell (kp _ hSw) 1 _ rfl; go_simp⟩) ((Below.refl _ _).drew) ?_
    try simp only [Act.put, List.setIfInBounds_toArray, List.set_cons_zero, List.set_cons_succ]
    refine wpAnyH_ready (rs := [3]) (by kernel_rfl) (by simp) ?_
    refine AllReadyH.cons rfl (fun K9 hK => ?_) AllReadyH.nil
    go_simp
    go_wp2_with (go_at_call 19; refine (KG _ (kb _ (Below.refl _ _).drew)).mono ?_; rintro e wD1 ⟨rfl, d1⟩)
    have D1 : Below W0.heap.size W0 wD1 := (Below.refl _ _).drew.trans d1
    refine hK.out _ _ D1 (fun hSD1 => ?_)
    clear hK
    try simp only [Act.put, List.setIfInBounds_toArray, List.set_cons_zero, List.set_cons_succ]
    refine anyH_take 4 43 (.int .i64 s3) rfl rfl (by kernel_rfl) (by kernel_rfl) (by kernel_rfl) (fun _ _ _ h => h) (Or.inl ⟨by rfl, by intro w hSw; go_simp⟩) (D1) ?_
    try simp only [Act.put, List.setIfInBounds_toArray, List.set_cons_zero, List.set_cons_succ]
    refine anyH_take 5 44 (.bool true) rfl rfl (by kernel_rfl) (by kernel_rfl) (by kernel_rfl) (fun _ _ _ h => h) (Or.inl ⟨by rfl, by intro w hSw; go_simp⟩) (D1) ?_
    try simp only [Act.put, List.setIfInBounds_toArray, List.set_cons_zero, List.set_cons_succ]
    refine anyH_take 6 45 (.bool true) rfl rfl (by kernel_rfl) (by kernel_rfl) (by kernel_rfl) (fun _ _ _ h => h) (Or.inl ⟨by rfl, by intro w hSw; go_simp⟩) (D1) ?_
    try simp only [Act.put, List.setIfInBounds_toArray, List.set_cons_zero, List.set_cons_succ]
    refine anyH_take 7 46 (.slice a n cap) rfl rfl (by kernel_rfl) (by kernel_rfl) (by kernel_rfl) (fun _ _ _ h => h) (Or.inl ⟨by rfl, by intro w hSw; go_simp⟩) (D1) ?_
    try simp only [Act.put, List.setIfInBounds_toArray, List.set_cons_zero, List.set_cons_succ]
    refine anyH_take 8 47 (.pointer (some ⟨qp, 1, none⟩)) rfl rfl (by kernel_rfl) (by kernel_rfl) (by kernel_rfl) (fun _ _ _ h => h) (Or.inl ⟨by rfl, by intro w hSw; go_simp⟩) (D1) ?_
    try simp only [Act.put, List.setIfInBounds_toArray, List.set_cons_zero, List.set_cons_succ]
    refine anyH_take 9 48 (.int .i64 fr) rfl rfl (by kernel_rfl) (by kernel_rfl) (by kernel_rfl) (fun _ _ _ h => h) (Or.inl ⟨by rfl, by intro w hSw; have s1 := row_cell (kp _ hSw) 1 _ rfl; go_simp⟩) (D1) ?_
    try simp only [Act.put, List.setIfInBounds_toArray, List.set_cons_zero, List.set_cons_succ]
    refine anyH_take 11 50 (.int .i64 boot) rfl rfl (by kernel_rfl) (by kernel_rfl) (by kernel_rfl) (fun _ _ _ h => h) (Or.inl ⟨by rfl, by intro w hSw; go_simp⟩) (D1) ?_
    try simp only [Act.put, List.setIfInBounds_toArray, List.set_cons_zero, List.set_cons_succ]
    refine anyH_take 12 51 (.agg #[.int .i64 kd, .int .i64 fr, .int .i64 ds, .int .i64 bt, .int .i64 lf, .int .i64 ec, .int .i64 el, .slice ia im ic]) rfl rfl (by kernel_rfl) (by kernel_rfl) (by kernel_rfl) (fun _ _ _ h => h) (Or.inl ⟨by rfl, fun X hSw => exec_load40 rfl qp ⟨kd, fr, ds, bt, lf, ec, el, ia, im, ic⟩ rfl (kp X hSw)⟩) (D1) ?_
    try simp only [Act.put, List.setIfInBounds_toArray, List.set_cons_zero, List.set_cons_succ]
    refine wpAnyH_ready (rs := [10]) (by kernel_rfl) (by simp) ?_
    refine AllReadyH.cons rfl (fun K9 hK => ?_) AllReadyH.nil
    go_simp
    go_wp2_with (go_at_call 18; refine (KD _ (kb _ D1)).mono ?_; rintro e wD2 ⟨a2, c2, rfl, L2, f2, d2⟩)
    have D2 : Below W0.heap.size W0 wD2 := D1.trans (d2.mono D1.size)
    refine hK.out _ _ D2 (fun hSD2 => ?_)
    clear hK
    try simp only [Act.put, List.setIfInBounds_toArray, List.set_cons_zero, List.set_cons_succ]
    refine wpAnyH_ready (rs := [13]) (by kernel_rfl) (by simp) ?_
    refine AllReadyH.cons rfl (fun K9 hK => ?_) AllReadyH.nil
    go_simp
    go_wp2_with (go_at_call 26; refine (KJD a2 c2 _ (L2.rd (by have := HLD.out; omega))).mono ?_; rintro e wD3 ⟨rfl, d3⟩)
    have D3 : Below W0.heap.size W0 wD3 := D2.trans (d3.mono D2.size)
    refine hK.out _ _ D3 (fun hSD3 => ?_)
    clear hK
    try simp only [Act.put, List.setIfInBounds_toArray, List.set_cons_zero, List.set_cons_succ]
    refine anyH_take 14 53 (.bool false) rfl rfl (by kernel_rfl) (by kernel_rfl) (by kernel_rfl) (fun _ _ _ h => h) (Or.inl ⟨by rfl, by intro w hSw; go_simp⟩) (D3) ?_
    try simp only [Act.put, List.setIfInBounds_toArray, List.set_cons_zero, List.set_cons_succ]
    refine anyH_take 15 54 (.bool false) rfl rfl (by kernel_rfl) (by kernel_rfl) (by kernel_rfl) (fun _ _ _ h => h) (Or.inl ⟨by rfl, by intro w hSw; go_simp⟩) (D3) ?_
    try simp only [Act.put, List.setIfInBounds_toArray, List.set_cons_zero, List.set_cons_succ]
    refine wpAnyH_done (by kernel_rfl) ?_ _
    have ⟨k0, k1, k2, k3, k4, k5, k6, k7⟩ := cel8 (kp _ D3)
    cases hlt : inB (bt + 1) later 1099511627776 with
    | false =>
      go_wp2_with (first | (go_at_call 15; refine (kwithin_any _ _ _ _).mono ?_; rintro e wx ⟨rfl, hw⟩; rw [hw]; clear hw wx) | (go_at_call 13; refine (awake_any _).mono ?_; rintro e w9 ⟨rfl, b9⟩))
      go_ret
      exact ⟨rfl, (kb _ D3).trans (b9.mono (kb _ D3).size)⟩
    | true =>
      have hlp : bt + 1 ≤ later ∧ later ≤ 1099511627776 := of_decide_eq_true hlt
      have hst := HST.out (by omega)
      have KS1 := KS (by omega)
      simp only [hst, PK.val] at KJS
      have HL2 : Hid ((seeL fr later 0 l).length ≤ 17) := HLS.out
      clear hlp hst KS
      go_wp2_with (first | (go_at_call 15; refine (kwithin_any _ _ _ _).mono ?_; rintro e wx ⟨rfl, hw⟩; rw [hw]; clear hw wx) | fail)
      have kp2 : ∀ X, Below wD3.heap.size wD3 X → X.heap[qp]? = some (.cells #[.int .i64 kd, .int .i64 fr, .int .i64 ds, .int .i64 bt, .int .i64 lf, .int .i64 ec, .int .i64 el, .slice ia im ic] 40 (0, 0)) := fun X h => kp X (D3.trans (h.mono D3.size))
      have kb2 : ∀ X, Below wD3.heap.size wD3 X → Below w.heap.size w X := fun X h => kb X (D3.trans (h.mono D3.size))
      refine wp_region_any (by kernel_rfl) ?_
      change wpAny _ _ _ _ _ _ _ (World.drew _)
      refine wpAny_narrow (fun W' => Below wD3.heap.size wD3 W') _ _ _ _ ?_
      refine anyH_take 0 62 (.slice a n cap) rfl rfl (by kernel_rfl) (by kernel_rfl) (by kernel_rfl) (fun _ _ _ h => h) (Or.inl ⟨by rfl, by intro w hSw; go_simp⟩) ((Below.refl _ _).drew) ?_
      try simp only [Act.put, List.setIfInBounds_toArray, List.set_cons_zero, List.set_cons_succ]
      refine anyH_take 1 63 (.pointer (some ⟨qp, 1, none⟩)) rfl rfl (by kernel_rfl) (by kernel_rfl) (by kernel_rfl) (fun _ _ _ h => h) (Or.inl ⟨by rfl, by intro w hSw; go_simp⟩) ((Below.refl _ _).drew) ?_
      try simp only [Act.put, List.setIfInBounds_toArray, List.set_cons_zero, List.set_cons_succ]
      refine anyH_take 2 64 (.int .i64 fr) rfl rfl (by kernel_rfl) (by kernel_rfl) (by kernel_rfl) (fun _ _ _ h => h) (Or.inl ⟨by rfl, by intro w hSw; have s1 := row_cell (kp2 _ hSw) 1 _ rfl; go_simp⟩) ((Below.refl _ _).drew) ?_
      try simp only [Act.put, List.setIfInBounds_toArray, List.set_cons_zero, List.set_cons_succ]
      refine anyH_take 3 65 (.int .i64 later) rfl rfl (by kernel_rfl) (by kernel_rfl) (by kernel_rfl) (fun _ _ _ h => h) (Or.inl ⟨by rfl, by intro w hSw; go_simp⟩) ((Below.refl _ _).drew) ?_
      try simp only [Act.put, List.setIfInBounds_toArray, List.set_cons_zero, List.set_cons_succ]
      refine anyH_take 5 67 (.int .i64 boot) rfl rfl (by kernel_rfl) (by kernel_rfl) (by kernel_rfl) (fun _ _ _ h => h) (Or.inl ⟨by rfl, by intro w hSw; go_simp⟩) ((Below.refl _ _).drew) ?_
      try simp only [Act.put, List.setIfInBounds_toArray, List.set_cons_zero, List.set_cons_succ]
      refine anyH_take 6 68 (.agg #[.int .i64 kd, .int .i64 fr, .int .i64 ds, .int .i64 bt, .int .i64 lf, .int .i64 ec, .int .i64 el, .slice ia im ic]) rfl rfl (by kernel_rfl) (by kernel_rfl) (by kernel_rfl) (fun _ _ _ h => h) (Or.inl ⟨by rfl, fun X hSw => exec_load40 rfl qp ⟨kd, fr, ds, bt, lf, ec, el, ia, im, ic⟩ rfl (kp2 X hSw)⟩) ((Below.refl _ _).drew) ?_
      try simp only [Act.put, List.setIfInBounds_toArray, List.set_cons_zero, List.set_cons_succ]
      refine wpAnyH_ready (rs := [4]) (by kernel_rfl) (by simp) ?_
      refine AllReadyH.cons rfl (fun K9 hK => ?_) AllReadyH.nil
      go_simp
      go_wp2_with (go_at_call 17; refine (KS1 _ (kb2 _ (Below.refl _ _).drew)).mono ?_; rintro e wE1 ⟨a3, c3, rfl, L3, f3, e1⟩)
      have E1 : Below wD3.heap.size wD3 wE1 := (Below.refl _ _).drew.trans e1
      refine hK.out _ _ E1 (fun hSE1 => ?_)
      clear hK
      try simp only [Act.put, List.setIfInBounds_toArray, List.set_cons_zero, List.set_cons_succ]
      refine wpAnyH_ready (rs := [7]) (by kernel_rfl) (by simp) ?_
      refine AllReadyH.cons rfl (fun K9 hK => ?_) AllReadyH.nil
      go_simp
      go_wp2_with (go_at_call 26; refine (KJS a3 c3 _ (L3.rd (by have := HL2.out; omega))).mono ?_; rintro e wE2 ⟨rfl, e2⟩)
      have E2 : Below wD3.heap.size wD3 wE2 := E1.trans (e2.mono E1.size)
      refine hK.out _ _ E2 (fun hSE2 => ?_)
      clear hK
      try simp only [Act.put, List.setIfInBounds_toArray, List.set_cons_zero, List.set_cons_succ]
      refine anyH_take 8 70 (.bool true) rfl rfl (by kernel_rfl) (by kernel_rfl) (by kernel_rfl) (fun _ _ _ h => h) (Or.inl ⟨by rfl, by intro w hSw; go_simp⟩) (E2) ?_
      try simp only [Act.put, List.setIfInBounds_toArray, List.set_cons_zero, List.set_cons_succ]
      refine anyH_take 9 71 (.bool true) rfl rfl (by kernel_rfl) (by kernel_rfl) (by kernel_rfl) (fun _ _ _ h => h) (Or.inl ⟨by rfl, by intro w hSw; go_simp⟩) (E2) ?_
      try simp only [Act.put, List.setIfInBounds_toArray, List.set_cons_zero, List.set_cons_succ]
      refine wpAnyH_ready (rs := [10]) (by kernel_rfl) (by simp) ?_
      refine AllReadyH.cons rfl (fun K9 hK => ?_) AllReadyH.nil
      go_simp
      go_wp2_with (go_at_call 13; refine (awake_any _).mono ?_; rintro e wE3 ⟨rfl, e3⟩)
      have E3 : Below wD3.heap.size wD3 wE3 := E2.trans (e3.mono E2.size)
      refine hK.out _ _ E3 (fun hSE3 => ?_)
      clear hK
      try simp only [Act.put, List.setIfInBounds_toArray, List.set_cons_zero, List.set_cons_succ]
      refine anyH_take 11 73 (.bool true) rfl rfl (by kernel_rfl) (by kernel_rfl) (by kernel_rfl) (fun _ _ _ h => h) (Or.inl ⟨by rfl, by intro w hSw; go_simp⟩) (E3) ?_
      try simp only [Act.put, List.setIfInBounds_toArray, List.set_cons_zero, List.set_cons_succ]
      refine anyH_take 12 10 (.bool true) rfl rfl (by kernel_rfl) (by kernel_rfl) (by kernel_rfl) (fun _ _ _ h => h) (Or.inl ⟨by rfl, by intro w hSw; go_simp⟩) (E3) ?_
      try simp only [Act.put, List.setIfInBounds_toArray, List.set_cons_zero, List.set_cons_succ]
      refine wpAnyH_done (by kernel_rfl) ?_ _
      go_wp2
      go_ret
      exact ⟨rfl, kb2 _ E3⟩
  case neg =>
    refine wp_region_any (by kernel_rfl) ?_
    change wpAny _ _ _ _ _ _ _ (World.drew _)
    refine wpAny_narrow (fun W' => Below W0.heap.size W0 W') _ _ _ _ ?_
    refine anyH_take 0 39 (.slice a n cap) rfl rfl (by kernel_rfl) (by kernel_rfl) (by kernel_rfl) (fun _ _ _ h => h) (Or.inl ⟨by rfl, by intro w hSw; go_simp⟩) ((Below.refl _ _).drew) ?_
    try simp only [Act.put, List.setIfInBounds_toArray, List.set_cons_zero, List.set_cons_succ]
    refine anyH_take 1 40 (.pointer (some ⟨qp, 1, none⟩)) rfl rfl (by kernel_rfl) (by kernel_rfl) (by kernel_rfl) (fun _ _ _ h => h) (Or.inl ⟨by rfl, by intro w hSw; go_simp⟩) ((Below.refl _ _).drew) ?_
    try simp only [Act.put, List.setIfInBounds_toArray, List.set_cons_zero, List.set_cons_succ]
    refine anyH_take 2 41 (.int .i64 fr) rfl rfl (by kernel_rfl) (by kernel_rfl) (by kernel_rfl) (fun _ _ _ h => h) (Or.inl ⟨by rfl, by intro w hSw; have s1 := row_cell (kp _ hSw) 1 _ rfl; go_simp⟩) ((Below.refl _ _).drew) ?_
    try simp only [Act.put, List.setIfInBounds_toArray, List.set_cons_zero, List.set_cons_succ]
    refine wpAnyH_ready (rs := [3]) (by kernel_rfl) (by simp) ?_
    refine AllReadyH.cons rfl (fun K9 hK => ?_) AllReadyH.nil
    go_simp
    go_wp2_with (go_at_call 19; refine (KG _ (kb _ (Below.refl _ _).drew)).mono ?_; rintro e wD1 ⟨rfl, d1⟩)
    have D1 : Below W0.heap.size W0 wD1 := (Below.refl _ _).drew.trans d1
    refine hK.out _ _ D1 (fun hSD1 => ?_)
    clear hK
    try simp only [Act.put, List.setIfInBounds_toArray, List.set_cons_zero, List.set_cons_succ]
    refine anyH_take 4 43 (.int .i64 s3) rfl rfl (by kernel_rfl) (by kernel_rfl) (by kernel_rfl) (fun _ _ _ h => h) (Or.inl ⟨by rfl, by intro w hSw; go_simp⟩) (D1) ?_
    try simp only [Act.put, List.setIfInBounds_toArray, List.set_cons_zero, List.set_cons_succ]
    refine anyH_take 5 44 (.bool false) rfl rfl (by kernel_rfl) (by kernel_rfl) (by kernel_rfl) (fun _ _ _ h => h) (Or.inl ⟨by rfl, by intro w hSw; go_simp⟩) (D1) ?_
    try simp only [Act.put, List.setIfInBounds_toArray, List.set_cons_zero, List.set_cons_succ]
    refine anyH_take 6 45 (.bool false) rfl rfl (by kernel_rfl) (by kernel_rfl) (by kernel_rfl) (fun _ _ _ h => h) (Or.inl ⟨by rfl, by intro w hSw; go_simp⟩) (D1) ?_
    try simp only [Act.put, List.setIfInBounds_toArray, List.set_cons_zero, List.set_cons_succ]
    refine anyH_take 7 46 (undef) rfl rfl (by kernel_rfl) (by kernel_rfl) (by kernel_rfl) (fun _ _ _ h => h) (Or.inr ⟨by rfl, rfl⟩) (D1) ?_
    try simp only [Act.put, List.setIfInBounds_toArray, List.set_cons_zero, List.set_cons_succ]
    refine anyH_take 8 47 (undef) rfl rfl (by kernel_rfl) (by kernel_rfl) (by kernel_rfl) (fun _ _ _ h => h) (Or.inr ⟨by rfl, rfl⟩) (D1) ?_
    try simp only [Act.put, List.setIfInBounds_toArray, List.set_cons_zero, List.set_cons_succ]
    refine anyH_take 9 48 (undef) rfl rfl (by kernel_rfl) (by kernel_rfl) (by kernel_rfl) (fun _ _ _ h => h) (Or.inr ⟨by rfl, rfl⟩) (D1) ?_
    try simp only [Act.put, List.setIfInBounds_toArray, List.set_cons_zero, List.set_cons_succ]
    refine anyH_take 10 49 (undef) rfl rfl (by kernel_rfl) (by kernel_rfl) (by kernel_rfl) (fun _ _ _ h => h) (Or.inr ⟨by rfl, rfl⟩) (D1) ?_
    try simp only [Act.put, List.setIfInBounds_toArray, List.set_cons_zero, List.set_cons_succ]
    refine anyH_take 11 50 (undef) rfl rfl (by kernel_rfl) (by kernel_rfl) (by kernel_rfl) (fun _ _ _ h => h) (Or.inr ⟨by rfl, rfl⟩) (D1) ?_
    try simp only [Act.put, List.setIfInBounds_toArray, List.set_cons_zero, List.set_cons_succ]
    refine anyH_take 12 51 (undef) rfl rfl (by kernel_rfl) (by kernel_rfl) (by kernel_rfl) (fun _ _ _ h => h) (Or.inr ⟨by rfl, rfl⟩) (D1) ?_
    try simp only [Act.put, List.setIfInBounds_toArray, List.set_cons_zero, List.set_cons_succ]
    refine anyH_take 13 52 (undef) rfl rfl (by kernel_rfl) (by kernel_rfl) (by kernel_rfl) (fun _ _ _ h => h) (Or.inr ⟨by rfl, rfl⟩) (D1) ?_
    try simp only [Act.put, List.setIfInBounds_toArray, List.set_cons_zero, List.set_cons_succ]
    refine anyH_take 14 53 (undef) rfl rfl (by kernel_rfl) (by kernel_rfl) (by kernel_rfl) (fun _ _ _ h => h) (Or.inr ⟨by rfl, rfl⟩) (D1) ?_
    try simp only [Act.put, List.setIfInBounds_toArray, List.set_cons_zero, List.set_cons_succ]
    refine anyH_take 15 54 (.bool false) rfl rfl (by kernel_rfl) (by kernel_rfl) (by kernel_rfl) (fun _ _ _ h => h) (Or.inl ⟨by rfl, by intro w hSw; go_simp⟩) (D1) ?_
    try simp only [Act.put, List.setIfInBounds_toArray, List.set_cons_zero, List.set_cons_succ]
    refine wpAnyH_done (by kernel_rfl) ?_ _
    have ⟨k0, k1, k2, k3, k4, k5, k6, k7⟩ := cel8 (kp _ D1)
    cases hlt : inB (bt + 1) later 1099511627776 with
    | false =>
      go_wp2_with (first | (go_at_call 15; refine (kwithin_any _ _ _ _).mono ?_; rintro e wx ⟨rfl, hw⟩; rw [hw]; clear hw wx) | (go_at_call 13; refine (awake_any _).mono ?_; rintro e w9 ⟨rfl, b9⟩))
      go_ret
      exact ⟨rfl, (kb _ D1).trans (b9.mono (kb _ D1).size)⟩
    | true =>
      have hlp : bt + 1 ≤ later ∧ later ≤ 1099511627776 := of_decide_eq_true hlt
      have hst := HST.out (by omega)
      have KS1 := KS (by omega)
      simp only [hst, PK.val] at KJS
      have HL2 : Hid ((seeL fr later 0 l).length ≤ 17) := HLS.out
      clear hlp hst KS
      go_wp2_with (first | (go_at_call 15; refine (kwithin_any _ _ _ _).mono ?_; rintro e wx ⟨rfl, hw⟩; rw [hw]; clear hw wx) | fail)
      have kp2 : ∀ X, Below wD1.heap.size wD1 X → X.heap[qp]? = some (.cells #[.int .i64 kd, .int .i64 fr, .int .i64 ds, .int .i64 bt, .int .i64 lf, .int .i64 ec, .int .i64 el, .slice ia im ic] 40 (0, 0)) := fun X h => kp X (D1.trans (h.mono D1.size))
      have kb2 : ∀ X, Below wD1.heap.size wD1 X → Below w.heap.size w X := fun X h => kb X (D1.trans (h.mono D1.size))
      refine wp_region_any (by kernel_rfl) ?_
      change wpAny _ _ _ _ _ _ _ (World.drew _)
      refine wpAny_narrow (fun W' => Below wD1.heap.size wD1 W') _ _ _ _ ?_
      refine anyH_take 0 62 (.slice a n cap) rfl rfl (by kernel_rfl) (by kernel_rfl) (by kernel_rfl) (fun _ _ _ h => h) (Or.inl ⟨by rfl, by intro w hSw; go_simp⟩) ((Below.refl _ _).drew) ?_
      try simp only [Act.put, List.setIfInBounds_toArray, List.set_cons_zero, List.set_cons_succ]
      refine anyH_take 1 63 (.pointer (some ⟨qp, 1, none⟩)) rfl rfl (by kernel_rfl) (by kernel_rfl) (by kernel_rfl) (fun _ _ _ h => h) (Or.inl ⟨by rfl, by intro w hSw; go_simp⟩) ((Below.refl _ _).drew) ?_
      try simp only [Act.put, List.setIfInBounds_toArray, List.set_cons_zero, List.set_cons_succ]
      refine anyH_take 2 64 (.int .i64 fr) rfl rfl (by kernel_rfl) (by kernel_rfl) (by kernel_rfl) (fun _ _ _ h => h) (Or.inl ⟨by rfl, by intro w hSw; have s1 := row_cell (kp2 _ hSw) 1 _ rfl; go_simp⟩) ((Below.refl _ _).drew) ?_
      try simp only [Act.put, List.setIfInBounds_toArray, List.set_cons_zero, List.set_cons_succ]
      refine anyH_take 3 65 (.int .i64 later) rfl rfl (by kernel_rfl) (by kernel_rfl) (by kernel_rfl) (fun _ _ _ h => h) (Or.inl ⟨by rfl, by intro w hSw; go_simp⟩) ((Below.refl _ _).drew) ?_
      try simp only [Act.put, List.setIfInBounds_toArray, List.set_cons_zero, List.set_cons_succ]
      refine anyH_take 5 67 (.int .i64 boot) rfl rfl (by kernel_rfl) (by kernel_rfl) (by kernel_rfl) (fun _ _ _ h => h) (Or.inl ⟨by rfl, by intro w hSw; go_simp⟩) ((Below.refl _ _).drew) ?_
      try simp only [Act.put, List.setIfInBounds_toArray, List.set_cons_zero, List.set_cons_succ]
      refine anyH_take 6 68 (.agg #[.int .i64 kd, .int .i64 fr, .int .i64 ds, .int .i64 bt, .int .i64 lf, .int .i64 ec, .int .i64 el, .slice ia im ic]) rfl rfl (by kernel_rfl) (by kernel_rfl) (by kernel_rfl) (fun _ _ _ h => h) (Or.inl ⟨by rfl, fun X hSw => exec_load40 rfl qp ⟨kd, fr, ds, bt, lf, ec, el, ia, im, ic⟩ rfl (kp2 X hSw)⟩) ((Below.refl _ _).drew) ?_
      try simp only [Act.put, List.setIfInBounds_toArray, List.set_cons_zero, List.set_cons_succ]
      refine wpAnyH_ready (rs := [4]) (by kernel_rfl) (by simp) ?_
      refine AllReadyH.cons rfl (fun K9 hK => ?_) AllReadyH.nil
      go_simp
      go_wp2_with (go_at_call 17; refine (KS1 _ (kb2 _ (Below.refl _ _).drew)).mono ?_; rintro e wE1 ⟨a3, c3, rfl, L3, f3, e1⟩)
      have E1 : Below wD1.heap.size wD1 wE1 := (Below.refl _ _).drew.trans e1
      refine hK.out _ _ E1 (fun hSE1 => ?_)
      clear hK
      try simp only [Act.put, List.setIfInBounds_toArray, List.set_cons_zero, List.set_cons_succ]
      refine wpAnyH_ready (rs := [7]) (by kernel_rfl) (by simp) ?_
      refine AllReadyH.cons rfl (fun K9 hK => ?_) AllReadyH.nil
      go_simp
      go_wp2_with (go_at_call 26; refine (KJS a3 c3 _ (L3.rd (by have := HL2.out; omega))).mono ?_; rintro e wE2 ⟨rfl, e2⟩)
      have E2 : Below wD1.heap.size wD1 wE2 := E1.trans (e2.mono E1.size)
      refine hK.out _ _ E2 (fun hSE2 => ?_)
      clear hK
      try simp only [Act.put, List.setIfInBounds_toArray, List.set_cons_zero, List.set_cons_succ]
      refine anyH_take 8 70 (.bool true) rfl rfl (by kernel_rfl) (by kernel_rfl) (by kernel_rfl) (fun _ _ _ h => h) (Or.inl ⟨by rfl, by intro w hSw; go_simp⟩) (E2) ?_
      try simp only [Act.put, List.setIfInBounds_toArray, List.set_cons_zero, List.set_cons_succ]
      refine anyH_take 9 71 (.bool true) rfl rfl (by kernel_rfl) (by kernel_rfl) (by kernel_rfl) (fun _ _ _ h => h) (Or.inl ⟨by rfl, by intro w hSw; go_simp⟩) (E2) ?_
      try simp only [Act.put, List.setIfInBounds_toArray, List.set_cons_zero, List.set_cons_succ]
      refine wpAnyH_ready (rs := [10]) (by kernel_rfl) (by simp) ?_
      refine AllReadyH.cons rfl (fun K9 hK => ?_) AllReadyH.nil
      go_simp
      go_wp2_with (go_at_call 13; refine (awake_any _).mono ?_; rintro e wE3 ⟨rfl, e3⟩)
      have E3 : Below wD1.heap.size wD1 wE3 := E2.trans (e3.mono E2.size)
      refine hK.out _ _ E3 (fun hSE3 => ?_)
      clear hK
      try simp only [Act.put, List.setIfInBounds_toArray, List.set_cons_zero, List.set_cons_succ]
      refine anyH_take 11 73 (.bool true) rfl rfl (by kernel_rfl) (by kernel_rfl) (by kernel_rfl) (fun _ _ _ h => h) (Or.inl ⟨by rfl, by intro w hSw; go_simp⟩) (E3) ?_
      try simp only [Act.put, List.setIfInBounds_toArray, List.set_cons_zero, List.set_cons_succ]
      refine anyH_take 12 10 (.bool true) rfl rfl (by kernel_rfl) (by kernel_rfl) (by kernel_rfl) (fun _ _ _ h => h) (Or.inl ⟨by rfl, by intro w hSw; go_simp⟩) (E3) ?_
      try simp only [Act.put, List.setIfInBounds_toArray, List.set_cons_zero, List.set_cons_succ]
      refine wpAnyH_done (by kernel_rfl) ?_ _
      go_wp2
      go_ret
      exact ⟨rfl, kb2 _ E3⟩
end Go.Proofs.Yteoiogjaecpddaa
