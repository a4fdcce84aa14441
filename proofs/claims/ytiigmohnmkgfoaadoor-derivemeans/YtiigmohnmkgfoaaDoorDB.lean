/-
  Package derive: means and counts; the document's own.
-/
import Derived.Test.YtiigmohnmkgfoaaDoorDA
import Derived.Test.YtiigmohnmkgfoaaDoorDM
import Derived.Test.YtiigmohnmkgfoaaDoorWholes
import Derived.Test.YtiigmohnmkgfoaaDoorRatio
namespace Go.Proofs.YtiigmohnmkgfoaaDoor
open Go.ChangeShapes Go.WideShapes Go.ChangeAt Go.RowKit
set_option linter.unusedVariables false
set_option linter.unusedSimpArgs false

theorem chk_three (e s : Int) : chkE e s = 0 ∨ chkE e s = 10 ∨ chkE e s = 47 := by
  unfold chkE
  split
  · split <;> simp
  · simp
theorem chk_ok {e s : Int} (h : chkE e s = 0) : 1 ≤ s ∧ s ≤ 1048576 ∧ Sm e := by
  unfold chkE at h
  split at h
  · rename_i h1
    split at h
    · rename_i h2
      exact ⟨(scB_t h1).1, (scB_t h1).2, fitB_t h2⟩
    · cases h
  · cases h
def meaE (e s : Int) : Int := if chkE e s = 0 then mkE e s else chkE e s
def meaN (e s : Int) : Int := if chkE e s = 0 then mkN e s else 0
def meaD (e s : Int) : Int := if chkE e s = 0 then mkD e s else 0
abbrev meaV (e s : Int) : Value := .tuple #[fr (meaN e s) (meaD e s), .int .i64 (meaE e s)]
theorem mk_small {e s : Int} (h : chkE e s = 0) : mkE e s = 0 := by
  obtain ⟨h1, h2, h3⟩ := chk_ok h
  unfold Sm at h3
  unfold mkE bigB
  rw [if_neg (by omega)]
  have a : mkT e s ≤ sz e := Nat.div_le_self _ _
  have b : mkL e s ≤ sz s := Nat.div_le_self _ _
  unfold sz at a b
  rw [if_neg]
  simp only [decide_eq_true_eq]
  omega
set_option maxRecDepth 100000 in
theorem mean_any (e s : Int) (w : World) : Calls Tryd.prog 8 #[.int .i64 e, .int .i64 s] w fun en w' => en = .returned (meaV e s) ∧ Below w.heap.size w w' := by
  have KC := fun W => check_any e s W
  have main : ∀ c, (c = 10 ∨ c = 47) → chkE e s = c → Calls Tryd.prog 8 #[.int .i64 e, .int .i64 s] w fun en w' => en = .returned (.tuple #[fr 0 0, .int .i64 c]) ∧ Below w.heap.size w w' := fun c hc h => by
    rw [h] at KC
    clear h
    have hn : (c != 0) = true := by rcases hc with rfl | rfl <;> rfl
    clear hc
    go_enter Tryd.func8, Tryd.ntmps8
    go_wp2_with (go_at_call 23; refine (KC _).mono ?_; rintro e w1 ⟨rfl, rfl⟩)
    go_returns
    exact ⟨rfl, by go_grown⟩
  rcases chk_three e s with h | h | h
  · obtain ⟨h1, h2, h3⟩ := chk_ok h
    obtain ⟨h3a, h3b⟩ := h3
    have KM := fun W => make_any e s W (by omega) (by omega) (by omega) (by omega)
    rw [show meaV e s = .tuple #[fr (mkN e s) (mkD e s), .int .i64 (mkE e s)] by simp [meaV, meaN, meaD, meaE, h]]
    rw [h] at KC
    clear h main
    obtain ⟨n, hn⟩ : ∃ n, mkN e s = n := ⟨_, rfl⟩
    obtain ⟨d, hd⟩ : ∃ d, mkD e s = d := ⟨_, rfl⟩
    obtain ⟨x, hx⟩ : ∃ x, mkE e s = x := ⟨_, rfl⟩
    simp only [hn, hd, hx] at KM ⊢
    clear hn hd hx
    go_enter Tryd.func8, Tryd.ntmps8
    go_wp2_with (first
      | (go_at_call 23; refine (KC _).mono ?_; rintro e w1 ⟨rfl, rfl⟩)
      | (go_at_call 24; refine (KM _).mono ?_; rintro e w1 ⟨rfl, hb⟩; obtain ⟨q0, q1, f0, f1, z⟩ := ((Two.new w _ _ _).below hb); have hB : Below w.heap.size w w1 := Below.trans (by go_grown) (hb.mono (by simp)); clear hb))
    exact bodyPost_ret (v := .tuple #[fr n d, .int .i64 x]) (by simp [results, Tryd.results8, go_sem, q0, q1, z]) rfl ⟨rfl, by go_grown⟩
  · rw [show meaV e s = .tuple #[fr 0 0, .int .i64 10] by simp [meaV, meaN, meaD, meaE, h]]
    exact main 10 (.inl rfl) h
  · rw [show meaV e s = .tuple #[fr 0 0, .int .i64 47] by simp [meaV, meaN, meaD, meaE, h]]
    exact main 47 (.inr rfl) h
set_option maxRecDepth 100000 in
theorem rmean_any (e s : Int) (w : World) : Calls Tryd.prog 9 #[.int .i64 e, .int .i64 s] w fun en w' => en = .returned (meaV e s) ∧ Below w.heap.size w w' := by
  have KS := fun W => scaled_any s W
  have KF := fun W => rfits_any e W
  cases hs : scB s 1048576 with
  | false =>
    have h : chkE e s = 47 := by simp [chkE, hs]
    rw [show meaV e s = .tuple #[fr 0 0, .int .i64 47] by simp [meaV, meaN, meaD, meaE, h]]
    rw [hs] at KS
    clear hs h KF
    go_enter Tryd.func9, Tryd.ntmps9
    go_wp2_with (go_at_call 25; refine (KS _).mono ?_; rintro e w1 ⟨rfl, rfl⟩)
    go_returns
    exact ⟨rfl, by go_grown⟩
  | true =>
    cases hf : fitB e with
    | false =>
      have h : chkE e s = 10 := by simp [chkE, hs, hf]
      rw [show meaV e s = .tuple #[fr 0 0, .int .i64 10] by simp [meaV, meaN, meaD, meaE, h]]
      rw [hs] at KS
      rw [hf] at KF
      clear hs hf h
      go_enter Tryd.func9, Tryd.ntmps9
      go_wp2_with (first | (go_at_call 25; refine (KS _).mono ?_; rintro e w1 ⟨rfl, rfl⟩) | (go_at_call 26; refine (KF _).mono ?_; rintro e w1 ⟨rfl, rfl⟩))
      go_returns
      exact ⟨rfl, by go_grown⟩
    | true =>
      have h : chkE e s = 0 := by simp [chkE, hs, hf]
      obtain ⟨h1, h2, h3⟩ := chk_ok h
      obtain ⟨h3a, h3b⟩ := h3
      have KM := fun W => rmake_any e s W (by omega) (by omega) (by omega) (by omega)
      rw [show meaV e s = .tuple #[fr (mkN e s) (mkD e s), .int .i64 (mkE e s)] by simp [meaV, meaN, meaD, meaE, h]]
      rw [hs] at KS
      rw [hf] at KF
      clear hs hf h
      obtain ⟨n, hn⟩ : ∃ n, mkN e s = n := ⟨_, rfl⟩
      obtain ⟨d, hd⟩ : ∃ d, mkD e s = d := ⟨_, rfl⟩
      obtain ⟨x, hx⟩ : ∃ x, mkE e s = x := ⟨_, rfl⟩
      simp only [hn, hd, hx] at KM ⊢
      clear hn hd hx
      go_enter Tryd.func9, Tryd.ntmps9
      go_wp2_with (first
        | (go_at_call 25; refine (KS _).mono ?_; rintro e w1 ⟨rfl, rfl⟩) | (go_at_call 26; refine (KF _).mono ?_; rintro e w1 ⟨rfl, rfl⟩)
        | (go_at_call 27; refine (KM _).mono ?_; rintro e w1 ⟨rfl, hb⟩; obtain ⟨q0, q1, f0, f1, z⟩ := ((Two.new w _ _ _).below hb); have hB : Below w.heap.size w w1 := Below.trans (by go_grown) (hb.mono (by simp)); clear hb))
      exact bodyPost_ret (v := .tuple #[fr n d, .int .i64 x]) (by simp [results, Tryd.results9, go_sem, q0, q1, z]) rfl ⟨rfl, by go_grown⟩
def cntE (e s : Int) : Int := if chkE e s = 0 then (if e ≤ 0 then 50 else 0) else chkE e s
def cntV (e s : Int) : Int := if cntE e s = 0 then cntI s e else 0
abbrev cntT (e s : Int) : Value := .tuple #[.int .i64 (cntV e s), .int .i64 (cntE e s)]
theorem cnt_four (e s : Int) : cntE e s = 0 ∨ cntE e s = 10 ∨ cntE e s = 47 ∨ cntE e s = 50 := by
  unfold cntE
  rcases chk_three e s with h | h | h
  · rw [if_pos h]; split <;> simp
  · rw [if_neg (by omega), h]; simp
  · rw [if_neg (by omega), h]; simp
theorem ro_mk {s e : Int} (h1 : 0 < s) (h2 : s ≤ 1048576) (h3 : 0 < e) (h4 : e ≤ 2147483647) : mkE s e = 0 ∧ roV (mkN s e) (mkD s e) = cntI s e ∧ 0 < mkD s e ∧ mkD s e ≤ 2147483647 := by
  have hE : mkE s e = 0 := by
    unfold mkE bigB
    rw [if_neg (by omega)]
    have a : mkT s e ≤ sz s := Nat.div_le_self _ _
    have b : mkL s e ≤ sz e := Nat.div_le_self _ _
    unfold sz at a b
    rw [if_neg]
    simp only [decide_eq_true_eq]
    omega
  obtain ⟨p1, p2, p3, p4⟩ := mk_parts s (d := e) (by omega)
  have g0 := mkG_pos (n := s) (d := e) (by omega)
  have hN : mkN s e = mkT s e := by
    unfold mkN
    rw [if_pos hE, if_pos (by rw [decide_eq_false (by omega), decide_eq_false (by omega)])]
  have hD : mkD s e = mkL s e := by unfold mkD; rw [if_pos hE]
  have e1 : s = (mkT s e : Int) * (mkG s e : Int) := by
    have : ((sz s : Nat) : Int) = (mkT s e : Int) * (mkG s e : Int) := by rw [p1]; exact Int.natCast_mul _ _
    rw [sz_pos (by omega)] at this
    exact this
  have e2 : e = (mkL s e : Int) * (mkG s e : Int) := by
    have : ((sz e : Nat) : Int) = (mkL s e : Int) * (mkG s e : Int) := by rw [p2]; exact Int.natCast_mul _ _
    rw [sz_pos (by omega)] at this
    exact this
  refine ⟨hE, ?_, by rw [hD]; omega, (mk_sm s e).2.2⟩
  rw [hN, hD]
  obtain ⟨t, ht⟩ : ∃ t : Nat, mkT s e = t := ⟨_, rfl⟩
  obtain ⟨l, hl⟩ : ∃ l : Nat, mkL s e = l := ⟨_, rfl⟩
  obtain ⟨g, hg⟩ : ∃ g : Nat, mkG s e = g := ⟨_, rfl⟩
  rw [ht, hg] at e1
  rw [hl, hg] at e2
  rw [ht, hl]
  rw [hg] at g0
  unfold roV roU cntI
  rw [if_neg (by omega), e1, e2]
  have a1 : 2 * ((t : Int) * g) + (l : Int) * g = (2 * t + l) * g := by rw [Int.add_mul, Int.mul_assoc]
  have a2 : 2 * ((l : Int) * g) = (2 * l) * g := by rw [Int.mul_assoc]
  rw [a1, a2, Int.mul_ediv_mul_of_pos_left _ _ (by omega)]
set_option maxRecDepth 100000 in
theorem count_any (e s : Int) (w : World) : Calls Tryd.prog 10 #[.int .i64 e, .int .i64 s] w fun en w' => en = .returned (cntT e s) ∧ Below w.heap.size w w' := by
  have KC := fun W => check_any e s W
  rcases chk_three e s with h | h | h
  · obtain ⟨h1, h2, h3⟩ := chk_ok h
    obtain ⟨h3a, h3b⟩ := h3
    by_cases h0 : e ≤ 0
    · have hE : cntE e s = 50 := by simp [cntE, h, h0]
      rw [show cntT e s = .tuple #[.int .i64 (0), .int .i64 50] by simp [cntT, cntV, hE]]
      rw [h] at KC
      clear h hE
      go_enter Tryd.func10, Tryd.ntmps10
      go_wp2_with (go_at_call 23; refine (KC _).mono ?_; rintro e w1 ⟨rfl, rfl⟩)
      exact bodyPost_ret (results_tmp2 rfl _ _ _) rfl ⟨rfl, by go_grown⟩
    · have hE : cntE e s = 0 := by simp [cntE, h, h0]
      rw [show cntT e s = .tuple #[.int .i64 (cntI s e), .int .i64 0] by simp [cntT, cntV, hE]]
      obtain ⟨m1, m2, m3, m4⟩ := ro_mk (s := s) (e := e) (by omega) h2 (by omega) h3b
      have KM := fun W => make_any s e W (by omega) (by omega) (by omega) (by omega)
      have KR := fun W => round_any (mkN s e) (mkD s e) W (mk_sm s e).1 m3 m4
      rw [m2] at KR
      rw [m1] at KM
      rw [h] at KC
      clear h hE m1 m2 m3 m4
      obtain ⟨n, hn⟩ : ∃ n, mkN s e = n := ⟨_, rfl⟩
      obtain ⟨d, hd⟩ : ∃ d, mkD s e = d := ⟨_, rfl⟩
      obtain ⟨x, hx⟩ : ∃ x, cntI s e = x := ⟨_, rfl⟩
      simp only [hn, hd, hx] at KM KR ⊢
      clear hn hd hx
      go_enter Tryd.func10, Tryd.ntmps10
      go_wp2_with (first
        | (go_at_call 23; refine (KC _).mono ?_; rintro e wx ⟨rfl, hwx⟩; rw [hwx]; clear hwx wx)
        | (go_at_call 24; refine (KM _).mono ?_; rintro e w1 ⟨rfl, hb1⟩)
        | (go_at_call 28; refine (KR _).mono ?_; rintro e w2 ⟨rfl, hb⟩; have hB : Below w.heap.size w w2 := Below.trans (hb1.alloc hb1.size _) (hb.mono (by have := hb1.size; simp; omega)); clear hb))
      exact bodyPost_ret (results_tmp2 rfl _ _ _) rfl ⟨rfl, hB⟩
  · have hE : cntE e s = 10 := by simp [cntE, h]
    rw [show cntT e s = .tuple #[.int .i64 (0), .int .i64 10] by simp [cntT, cntV, hE]]
    rw [h] at KC
    clear h hE
    go_enter Tryd.func10, Tryd.ntmps10
    go_wp2_with (go_at_call 23; refine (KC _).mono ?_; rintro e w1 ⟨rfl, rfl⟩)
    exact bodyPost_ret (results_tmp2 rfl _ _ _) rfl ⟨rfl, by go_grown⟩
  · have hE : cntE e s = 47 := by simp [cntE, h]
    rw [show cntT e s = .tuple #[.int .i64 (0), .int .i64 47] by simp [cntT, cntV, hE]]
    rw [h] at KC
    clear h hE
    go_enter Tryd.func10, Tryd.ntmps10
    go_wp2_with (go_at_call 23; refine (KC _).mono ?_; rintro e w1 ⟨rfl, rfl⟩)
    exact bodyPost_ret (results_tmp2 rfl _ _ _) rfl ⟨rfl, by go_grown⟩
set_option maxRecDepth 100000 in
theorem rcount_any (e s : Int) (w : World) : Calls Tryd.prog 11 #[.int .i64 e, .int .i64 s] w fun en w' => en = .returned (cntT e s) ∧ w' = w := by
  have KS := fun W => scaled_any s W
  have KF := fun W => rfits_any e W
  cases hs : scB s 1048576 with
  | false =>
    have h : cntE e s = 47 := by simp [cntE, chkE, hs]
    rw [show cntT e s = .tuple #[.int .i64 (0), .int .i64 47] by simp [cntT, cntV, h]]
    rw [hs] at KS
    clear hs h KF
    go_enter Tryd.func11, Tryd.ntmps11
    go_wp2_with (go_at_call 25; refine (KS _).mono ?_; rintro e w1 ⟨rfl, rfl⟩)
    exact bodyPost_ret (results_tmp2 rfl _ _ _) rfl ⟨rfl, rfl⟩
  | true =>
    cases hf : fitB e with
    | false =>
      have h : cntE e s = 10 := by simp [cntE, chkE, hs, hf]
      rw [show cntT e s = .tuple #[.int .i64 (0), .int .i64 10] by simp [cntT, cntV, h]]
      rw [hs] at KS
      rw [hf] at KF
      clear hs hf h
      go_enter Tryd.func11, Tryd.ntmps11
      go_wp2_with (first | (go_at_call 25; refine (KS _).mono ?_; rintro e w1 ⟨rfl, rfl⟩) | (go_at_call 26; refine (KF _).mono ?_; rintro e w1 ⟨rfl, rfl⟩))
      exact bodyPost_ret (results_tmp2 rfl _ _ _) rfl ⟨rfl, rfl⟩
    | true =>
      have h : chkE e s = 0 := by simp [chkE, hs, hf]
      obtain ⟨h1, h2, h3⟩ := chk_ok h
      obtain ⟨h3a, h3b⟩ := h3
      by_cases h0 : e ≤ 0
      · have hE : cntE e s = 50 := by simp [cntE, h, h0]
        rw [show cntT e s = .tuple #[.int .i64 (0), .int .i64 50] by simp [cntT, cntV, hE]]
        rw [hs] at KS
        rw [hf] at KF
        clear hs hf h hE
        go_enter Tryd.func11, Tryd.ntmps11
        go_wp2_with (first | (go_at_call 25; refine (KS _).mono ?_; rintro e w1 ⟨rfl, rfl⟩) | (go_at_call 26; refine (KF _).mono ?_; rintro e w1 ⟨rfl, rfl⟩))
        exact bodyPost_ret (results_tmp2 rfl _ _ _) rfl ⟨rfl, rfl⟩
      · have hE : cntE e s = 0 := by simp [cntE, h, h0]
        have Ed : Hid ((2 * s + e).tdiv (2 * e) = cntI s e) := by
          show (2 * s + e).tdiv (2 * e) = cntI s e
          rw [Int.tdiv_eq_ediv_of_nonneg (by omega)]
          rfl
        rw [show cntT e s = .tuple #[.int .i64 (cntI s e), .int .i64 0] by simp [cntT, cntV, hE]]
        rw [hs] at KS
        rw [hf] at KF
        clear hs hf h hE
        go_enter Tryd.func11, Tryd.ntmps11
        go_wp2_with (first | (go_at_call 25; refine (KS _).mono ?_; rintro e w1 ⟨rfl, rfl⟩) | (go_at_call 26; refine (KF _).mono ?_; rintro e w1 ⟨rfl, rfl⟩))
        exact bodyPost_ret (results_tmp2 rfl _ _ _) rfl ⟨rfl, rfl⟩
end Go.Proofs.YtiigmohnmkgfoaaDoor
