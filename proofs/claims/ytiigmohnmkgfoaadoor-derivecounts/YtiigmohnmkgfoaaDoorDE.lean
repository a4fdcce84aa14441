/-
  Package derive: totals and variances; the document's own.
-/
import Derived.Test.YtiigmohnmkgfoaaDoorDB
namespace Go.Proofs.YtiigmohnmkgfoaaDoor
open Go.ChangeShapes Go.WideShapes Go.ChangeAt Go.RowKit
set_option linter.unusedVariables false
set_option linter.unusedSimpArgs false

theorem valid_sm {n d : Int} (h : validB n d = true) : Sm n ∧ Sm d ∧ 0 < d := by
  unfold validB at h
  rw [decide_eq_true_eq] at h
  unfold Sm
  omega
def totE (n d c : Int) : Int := if validB n d = true then (if fitB c = true then mkE (n * c) (d * 1) else 10) else 20
def totN (n d c : Int) : Int := if validB n d = true then (if fitB c = true then mkN (n * c) (d * 1) else 0) else 0
def totD (n d c : Int) : Int := if validB n d = true then (if fitB c = true then mkD (n * c) (d * 1) else 0) else 0
abbrev totT (n d c : Int) : Value := .tuple #[fr (totN n d c) (totD n d c), .int .i64 (totE n d c)]
def varE (sn sd mn md : Int) : Int := if validB sn sd = true ∧ validB mn md = true then (if mkE (mn * mn) (md * md) = 0 then mkE (sn * mkD (mn * mn) (md * md) - mkN (mn * mn) (md * md) * sd) (sd * mkD (mn * mn) (md * md)) else mkE (mn * mn) (md * md)) else 20
def varN (sn sd mn md : Int) : Int := if validB sn sd = true ∧ validB mn md = true then (if mkE (mn * mn) (md * md) = 0 then mkN (sn * mkD (mn * mn) (md * md) - mkN (mn * mn) (md * md) * sd) (sd * mkD (mn * mn) (md * md)) else 0) else 0
def varD (sn sd mn md : Int) : Int := if validB sn sd = true ∧ validB mn md = true then (if mkE (mn * mn) (md * md) = 0 then mkD (sn * mkD (mn * mn) (md * md) - mkN (mn * mn) (md * md) * sd) (sd * mkD (mn * mn) (md * md)) else 0) else 0
abbrev varT (sn sd mn md : Int) : Value := .tuple #[fr (varN sn sd mn md) (varD sn sd mn md), .int .i64 (varE sn sd mn md)]
theorem mkE_ten {n d : Int} (hd : d ≠ 0) : mkE n d = 0 ∨ mkE n d = 10 := by unfold mkE; rw [if_neg hd]; split <;> simp

set_option maxRecDepth 100000 in
set_option maxHeartbeats 1000000 in
theorem total_any (n d c : Int) (w : World) (hn : I64 n) (hd : I64 d) : Calls Tryd.prog 17 #[fr n d, .int .i64 c] w fun en w' => en = .returned (totT n d c) ∧ Below w.heap.size w w' := by
  have KV := fun W => valid_any n d W hn.1 hn.2 hd.1 hd.2
  have KF := fun W => fits_any c W
  clear hn hd
  cases hv : validB n d with
  | false =>
    rw [show totT n d c = .tuple #[fr 0 0, .int .i64 20] by simp [totT, totN, totD, totE, hv]]
    rw [hv] at KV
    clear hv KF
    go_enter Tryd.func17, Tryd.ntmps17
    go_wp2_with (go_at_call 34; refine (KV _).mono ?_; rintro e w1 ⟨rfl, hb⟩; have T1 : Two w1 (w.heap.size + 1) (.int .i64 0) (.int .i64 0) := Two.below (by exact (Two.at (Two.new _ _ _ _) (by simp))) hb; have T0 : Two w1 w.heap.size (.int .i64 n) (.int .i64 d) := Two.below (by exact ((Two.new w _ _ _).alloc _)) hb; have hB : Below w.heap.size w w1 := Below.trans (by go_grown) (hb.mono (by simp; omega)); clear hb; obtain ⟨q0, q1, f0, f1, z⟩ := id T1; obtain ⟨p0, p1, _, _, _⟩ := id T0)
    exact bodyPost_ret (v := .tuple #[fr 0 0, .int .i64 20]) (by simp [results, Tryd.results17, go_sem, q0, q1, z]) rfl ⟨rfl, by go_grown⟩
  | true =>
    cases hf : fitB c with
    | false =>
      rw [show totT n d c = .tuple #[fr 0 0, .int .i64 10] by simp [totT, totN, totD, totE, hv, hf]]
      rw [hv] at KV
      rw [hf] at KF
      clear hv hf
      go_enter Tryd.func17, Tryd.ntmps17
      go_wp2_with (first
        | (go_at_call 34; refine (KV _).mono ?_; rintro e w1 ⟨rfl, hb⟩; have T1 : Two w1 (w.heap.size + 1) (.int .i64 0) (.int .i64 0) := Two.below (by exact (Two.at (Two.new _ _ _ _) (by simp))) hb; have T0 : Two w1 w.heap.size (.int .i64 n) (.int .i64 d) := Two.below (by exact ((Two.new w _ _ _).alloc _)) hb; have hB : Below w.heap.size w w1 := Below.trans (by go_grown) (hb.mono (by simp; omega)); clear hb; obtain ⟨q0, q1, f0, f1, z⟩ := id T1; obtain ⟨p0, p1, _, _, _⟩ := id T0)
        | (go_at_call 35; refine (KF _).mono ?_; rintro e wx ⟨rfl, hwx⟩; rw [hwx]; clear hwx wx))
      exact bodyPost_ret (v := .tuple #[fr 0 0, .int .i64 10]) (by simp [results, Tryd.results17, go_sem, q0, q1, z]) rfl ⟨rfl, by go_grown⟩
    | true =>
      obtain ⟨s1, s2, s3⟩ := valid_sm hv
      have KM := fun W => mul_any n d c 1 W s1 s2 (fitB_t hf) (by unfold Sm; omega)
      rw [show totT n d c = .tuple #[fr (mkN (n * c) (d * 1)) (mkD (n * c) (d * 1)), .int .i64 (mkE (n * c) (d * 1))] by simp only [totT, totN, totD, totE, hv, hf, if_true]]
      rw [hv] at KV
      rw [hf] at KF
      clear hv hf s1 s2 s3
      obtain ⟨x, hx⟩ : ∃ x, mkN (n * c) (d * 1) = x := ⟨_, rfl⟩
      obtain ⟨y, hy⟩ : ∃ y, mkD (n * c) (d * 1) = y := ⟨_, rfl⟩
      obtain ⟨u, hu⟩ : ∃ u, mkE (n * c) (d * 1) = u := ⟨_, rfl⟩
      simp only [mkV, hx, hy, hu] at KM ⊢
      clear hx hy hu
      go_enter Tryd.func17, Tryd.ntmps17
      go_wp2_with (first
        | (go_at_call 34; refine (KV _).mono ?_; rintro e w1 ⟨rfl, hb⟩; have T1 : Two w1 (w.heap.size + 1) (.int .i64 0) (.int .i64 0) := Two.below (by exact (Two.at (Two.new _ _ _ _) (by simp))) hb; have T0 : Two w1 w.heap.size (.int .i64 n) (.int .i64 d) := Two.below (by exact ((Two.new w _ _ _).alloc _)) hb; have hB : Below w.heap.size w w1 := Below.trans (by go_grown) (hb.mono (by simp; omega)); clear hb; obtain ⟨q0, q1, f0, f1, z⟩ := id T1; obtain ⟨p0, p1, _, _, _⟩ := id T0)
        | (go_at_call 35; refine (KF _).mono ?_; rintro e wx ⟨rfl, hwx⟩; rw [hwx]; clear hwx wx)
        | (go_at_call 36; refine (KM _).mono ?_; rintro e w2 ⟨rfl, hb⟩; replace T1 := T1.below hb; clear q0 q1 f0 f1 z p0 p1; obtain ⟨q0, q1, f0, f1, z⟩ := id T1; have hB2 : Below w.heap.size w w2 := hB.trans (hb.mono hB.size); clear hb))
      exact bodyPost_ret (v := .tuple #[fr x y, .int .i64 u]) (by simp [results, Tryd.results17, go_sem, q0, q1, z]) rfl ⟨rfl, by go_grown⟩

set_option maxRecDepth 100000 in
set_option maxHeartbeats 1000000 in
theorem rtotal_any (n d c : Int) (w : World) (hn : I64 n) (hd : I64 d) : Calls Tryd.prog 18 #[fr n d, .int .i64 c] w fun en w' => en = .returned (totT n d c) ∧ Below w.heap.size w w' := by
  have KV := fun W => rvalid_any n d W hn.1 hn.2 hd.1 hd.2
  have KF := fun W => rfits_any c W
  clear hn hd
  cases hv : validB n d with
  | false =>
    rw [show totT n d c = .tuple #[fr 0 0, .int .i64 20] by simp [totT, totN, totD, totE, hv]]
    rw [hv] at KV
    clear hv KF
    go_enter Tryd.func18, Tryd.ntmps18
    go_wp2_with (go_at_call 21; refine (KV _).mono ?_; rintro e w1 ⟨rfl, hb⟩; have T1 : Two w1 (w.heap.size + 1) (.int .i64 0) (.int .i64 0) := Two.below (by exact (Two.at (Two.new _ _ _ _) (by simp))) hb; have T0 : Two w1 w.heap.size (.int .i64 n) (.int .i64 d) := Two.below (by exact ((Two.new w _ _ _).alloc _)) hb; have hB : Below w.heap.size w w1 := Below.trans (by go_grown) (hb.mono (by simp; omega)); clear hb; obtain ⟨q0, q1, f0, f1, z⟩ := id T1; obtain ⟨p0, p1, _, _, _⟩ := id T0)
    exact bodyPost_ret (v := .tuple #[fr 0 0, .int .i64 20]) (by simp [results, Tryd.results18, go_sem, q0, q1, z]) rfl ⟨rfl, by go_grown⟩
  | true =>
    cases hf : fitB c with
    | false =>
      rw [show totT n d c = .tuple #[fr 0 0, .int .i64 10] by simp [totT, totN, totD, totE, hv, hf]]
      rw [hv] at KV
      rw [hf] at KF
      clear hv hf
      go_enter Tryd.func18, Tryd.ntmps18
      go_wp2_with (first
        | (go_at_call 21; refine (KV _).mono ?_; rintro e w1 ⟨rfl, hb⟩; have T1 : Two w1 (w.heap.size + 1) (.int .i64 0) (.int .i64 0) := Two.below (by exact (Two.at (Two.new _ _ _ _) (by simp))) hb; have T0 : Two w1 w.heap.size (.int .i64 n) (.int .i64 d) := Two.below (by exact ((Two.new w _ _ _).alloc _)) hb; have hB : Below w.heap.size w w1 := Below.trans (by go_grown) (hb.mono (by simp; omega)); clear hb; obtain ⟨q0, q1, f0, f1, z⟩ := id T1; obtain ⟨p0, p1, _, _, _⟩ := id T0)
        | (go_at_call 26; refine (KF _).mono ?_; rintro e wx ⟨rfl, hwx⟩; rw [hwx]; clear hwx wx))
      exact bodyPost_ret (v := .tuple #[fr 0 0, .int .i64 10]) (by simp [results, Tryd.results18, go_sem, q0, q1, z]) rfl ⟨rfl, by go_grown⟩
    | true =>
      obtain ⟨s1, s2, s3⟩ := valid_sm hv
      have KM := fun W => rmul_any n d c 1 W s1 s2 (fitB_t hf) (by unfold Sm; omega)
      rw [show totT n d c = .tuple #[fr (mkN (n * c) (d * 1)) (mkD (n * c) (d * 1)), .int .i64 (mkE (n * c) (d * 1))] by simp only [totT, totN, totD, totE, hv, hf, if_true]]
      rw [hv] at KV
      rw [hf] at KF
      clear hv hf s1 s2 s3
      obtain ⟨x, hx⟩ : ∃ x, mkN (n * c) (d * 1) = x := ⟨_, rfl⟩
      obtain ⟨y, hy⟩ : ∃ y, mkD (n * c) (d * 1) = y := ⟨_, rfl⟩
      obtain ⟨u, hu⟩ : ∃ u, mkE (n * c) (d * 1) = u := ⟨_, rfl⟩
      simp only [mkV, hx, hy, hu] at KM ⊢
      clear hx hy hu
      go_enter Tryd.func18, Tryd.ntmps18
      go_wp2_with (first
        | (go_at_call 21; refine (KV _).mono ?_; rintro e w1 ⟨rfl, hb⟩; have T1 : Two w1 (w.heap.size + 1) (.int .i64 0) (.int .i64 0) := Two.below (by exact (Two.at (Two.new _ _ _ _) (by simp))) hb; have T0 : Two w1 w.heap.size (.int .i64 n) (.int .i64 d) := Two.below (by exact ((Two.new w _ _ _).alloc _)) hb; have hB : Below w.heap.size w w1 := Below.trans (by go_grown) (hb.mono (by simp; omega)); clear hb; obtain ⟨q0, q1, f0, f1, z⟩ := id T1; obtain ⟨p0, p1, _, _, _⟩ := id T0)
        | (go_at_call 26; refine (KF _).mono ?_; rintro e wx ⟨rfl, hwx⟩; rw [hwx]; clear hwx wx)
        | (go_at_call 37; refine (KM _).mono ?_; rintro e w2 ⟨rfl, hb⟩; replace T1 := T1.below hb; clear q0 q1 f0 f1 z p0 p1; obtain ⟨q0, q1, f0, f1, z⟩ := id T1; have hB2 : Below w.heap.size w w2 := hB.trans (hb.mono hB.size); clear hb))
      exact bodyPost_ret (v := .tuple #[fr x y, .int .i64 u]) (by simp [results, Tryd.results18, go_sem, q0, q1, z]) rfl ⟨rfl, by go_grown⟩

set_option maxRecDepth 100000 in
set_option maxHeartbeats 1000000 in
theorem variance_any (sn sd mn md : Int) (w : World) (h1 : I64 sn) (h2 : I64 sd) (h3 : I64 mn) (h4 : I64 md) : Calls Tryd.prog 19 #[fr sn sd, fr mn md] w fun en w' => en = .returned (varT sn sd mn md) ∧ Below w.heap.size w w' := by
  have KV := fun W => valid_any sn sd W h1.1 h1.2 h2.1 h2.2
  have KW := fun W => valid_any mn md W h3.1 h3.2 h4.1 h4.2
  clear h1 h2 h3 h4
  cases hv : validB sn sd with
  | false =>
    rw [show varT sn sd mn md = .tuple #[fr 0 0, .int .i64 20] by simp [varT, varN, varD, varE, hv]]
    rw [hv] at KV
    clear hv KW
    go_enter Tryd.func19, Tryd.ntmps19
    go_wp2_with (go_at_call 34; refine (KV _).mono ?_; clear KV; rintro e w1 ⟨rfl, hb⟩; have T2 : Two w1 (w.heap.size + 1 + 1) (.int .i64 0) (.int .i64 0) := Two.below (by exact (Two.at (Two.new _ _ _ _) (by simp))) hb; have T1 : Two w1 (w.heap.size + 1) (.int .i64 mn) (.int .i64 md) := Two.below (by exact (Two.at (Two.new _ _ _ _) (by simp)).alloc _) hb; have T0 : Two w1 w.heap.size (.int .i64 sn) (.int .i64 sd) := Two.below (by exact (((Two.new w _ _ _).alloc _).alloc _)) hb; have hB : Below w.heap.size w w1 := Below.trans (by go_grown) (hb.mono (by simp; omega)); clear hb; obtain ⟨q0, q1, f0, f1, z⟩ := id T2; obtain ⟨p0, p1, _, _, _⟩ := id T1; obtain ⟨o0, o1, _, _, _⟩ := id T0)
    exact bodyPost_ret (v := .tuple #[fr 0 0, .int .i64 20]) (by simp [results, Tryd.results19, go_sem, q0, q1, z]) rfl ⟨rfl, by go_grown⟩
  | true =>
    cases hm : validB mn md with
    | false =>
      rw [show varT sn sd mn md = .tuple #[fr 0 0, .int .i64 20] by simp [varT, varN, varD, varE, hv, hm]]
      rw [hv] at KV
      rw [hm] at KW
      clear hv hm
      go_enter Tryd.func19, Tryd.ntmps19
      go_wp2_with (first
        | (go_at_call 34; refine (KV _).mono ?_; clear KV; rintro e w1 ⟨rfl, hb⟩; have T2 : Two w1 (w.heap.size + 1 + 1) (.int .i64 0) (.int .i64 0) := Two.below (by exact (Two.at (Two.new _ _ _ _) (by simp))) hb; have T1 : Two w1 (w.heap.size + 1) (.int .i64 mn) (.int .i64 md) := Two.below (by exact (Two.at (Two.new _ _ _ _) (by simp)).alloc _) hb; have T0 : Two w1 w.heap.size (.int .i64 sn) (.int .i64 sd) := Two.below (by exact (((Two.new w _ _ _).alloc _).alloc _)) hb; have hB : Below w.heap.size w w1 := Below.trans (by go_grown) (hb.mono (by simp; omega)); clear hb; obtain ⟨q0, q1, f0, f1, z⟩ := id T2; obtain ⟨p0, p1, _, _, _⟩ := id T1; obtain ⟨o0, o1, _, _, _⟩ := id T0)
        | (go_at_call 34; refine (KW _).mono ?_; clear KW; rintro e w2 ⟨rfl, hb⟩; clear q0 q1 f0 f1 z p0 p1 o0 o1; replace T2 := T2.below hb; replace T1 := T1.below hb; replace T0 := T0.below hb; replace hB : Below w.heap.size w w2 := hB.trans (hb.mono hB.size); clear hb; obtain ⟨q0, q1, f0, f1, z⟩ := id T2; obtain ⟨p0, p1, _, _, _⟩ := id T1; obtain ⟨o0, o1, _, _, _⟩ := id T0))
      exact bodyPost_ret (v := .tuple #[fr 0 0, .int .i64 20]) (by simp [results, Tryd.results19, go_sem, q0, q1, z]) rfl ⟨rfl, by go_grown⟩
    | true =>
      obtain ⟨s1, s2, s3⟩ := valid_sm hv
      obtain ⟨s4, s5, s6⟩ := valid_sm hm
      have KM := fun W => mul_any mn md mn md W s4 s5 s4 s5
      have hE := mkE_ten (n := mn * mn) (d := md * md) (by intro h; rcases Int.mul_eq_zero.1 h with h | h <;> omega)
      have KS := fun W => sub_any sn sd (mkN (mn * mn) (md * md)) (mkD (mn * mn) (md * md)) W s1 s2 (mk_sm _ _).1 (mk_sm _ _).2
      rcases hE with h0 | h0
      · rw [show varT sn sd mn md = .tuple #[fr (mkN (sn * mkD (mn * mn) (md * md) - mkN (mn * mn) (md * md) * sd) (sd * mkD (mn * mn) (md * md))) (mkD (sn * mkD (mn * mn) (md * md) - mkN (mn * mn) (md * md) * sd) (sd * mkD (mn * mn) (md * md))), .int .i64 (mkE (sn * mkD (mn * mn) (md * md) - mkN (mn * mn) (md * md) * sd) (sd * mkD (mn * mn) (md * md)))] by simp only [varT, varN, varD, varE, hv, hm, h0, if_true, and_self]]
        rw [hv] at KV
        rw [hm] at KW
        simp only [mkV] at KM KS
        rw [h0] at KM
        clear hv hm h0 s1 s2 s3 s4 s5 s6
        obtain ⟨x, hx⟩ : ∃ x, mkN (mn * mn) (md * md) = x := ⟨_, rfl⟩
        obtain ⟨y, hy⟩ : ∃ y, mkD (mn * mn) (md * md) = y := ⟨_, rfl⟩
        rw [hx, hy] at KM KS ⊢
        obtain ⟨x', hx'⟩ : ∃ x', mkN (sn * y - x * sd) (sd * y) = x' := ⟨_, rfl⟩
        obtain ⟨y', hy'⟩ : ∃ y', mkD (sn * y - x * sd) (sd * y) = y' := ⟨_, rfl⟩
        obtain ⟨u, hu⟩ : ∃ u, mkE (sn * y - x * sd) (sd * y) = u := ⟨_, rfl⟩
        rw [hx', hy', hu] at KS ⊢
        clear hx hy hx' hy' hu
        go_enter Tryd.func19, Tryd.ntmps19
        go_wp2_with (first
          | (go_at_call 34; refine (KV _).mono ?_; clear KV; rintro e w1 ⟨rfl, hb⟩; have T2 : Two w1 (w.heap.size + 1 + 1) (.int .i64 0) (.int .i64 0) := Two.below (by exact (Two.at (Two.new _ _ _ _) (by simp))) hb; have T1 : Two w1 (w.heap.size + 1) (.int .i64 mn) (.int .i64 md) := Two.below (by exact (Two.at (Two.new _ _ _ _) (by simp)).alloc _) hb; have T0 : Two w1 w.heap.size (.int .i64 sn) (.int .i64 sd) := Two.below (by exact (((Two.new w _ _ _).alloc _).alloc _)) hb; have hB : Below w.heap.size w w1 := Below.trans (by go_grown) (hb.mono (by simp; omega)); clear hb; obtain ⟨q0, q1, f0, f1, z⟩ := id T2; obtain ⟨p0, p1, _, _, _⟩ := id T1; obtain ⟨o0, o1, _, _, _⟩ := id T0)
          | (go_at_call 34; refine (KW _).mono ?_; clear KW; rintro e w2 ⟨rfl, hb⟩; clear q0 q1 f0 f1 z p0 p1 o0 o1; replace T2 := T2.below hb; replace T1 := T1.below hb; replace T0 := T0.below hb; replace hB : Below w.heap.size w w2 := hB.trans (hb.mono hB.size); clear hb; obtain ⟨q0, q1, f0, f1, z⟩ := id T2; obtain ⟨p0, p1, _, _, _⟩ := id T1; obtain ⟨o0, o1, _, _, _⟩ := id T0)
          | (go_at_call 36; refine (KM _).mono ?_; clear KM; rintro e w3 ⟨rfl, hb⟩; clear q0 q1 f0 f1 z p0 p1 o0 o1; replace T2 := T2.below hb; replace T1 := T1.below hb; replace T0 := T0.below hb; replace hB : Below w.heap.size w w3 := hB.trans (hb.mono hB.size); clear hb; obtain ⟨q0, q1, f0, f1, z⟩ := id T2; obtain ⟨p0, p1, _, _, _⟩ := id T1; obtain ⟨o0, o1, _, _, _⟩ := id T0)
          | (go_at_call 38; refine (KS _).mono ?_; clear KS; rintro e w4 ⟨rfl, hb⟩; clear q0 q1 f0 f1 z p0 p1 o0 o1; replace T2 := (T2.alloc _).below hb; replace T1 := (T1.alloc _).below hb; replace T0 := (T0.alloc _).below hb; replace hB : Below w.heap.size w w4 := (hB.alloc hB.size _).trans (hb.mono (by have := hB.size; simp; omega)); clear hb; obtain ⟨q0, q1, f0, f1, z⟩ := id T2; obtain ⟨p0, p1, _, _, _⟩ := id T1; obtain ⟨o0, o1, _, _, _⟩ := id T0))
        exact bodyPost_ret (v := .tuple #[fr x' y', .int .i64 u]) (by simp [results, Tryd.results19, go_sem, q0, q1, z]) rfl ⟨rfl, by go_grown⟩
      · rw [show varT sn sd mn md = .tuple #[fr 0 0, .int .i64 10] by simp [varT, varN, varD, varE, hv, hm, h0]]
        rw [hv] at KV
        rw [hm] at KW
        simp only [mkV] at KM
        rw [h0] at KM
        clear hv hm h0 s1 s2 s3 s4 s5 s6 KS
        obtain ⟨x, hx⟩ : ∃ x, mkN (mn * mn) (md * md) = x := ⟨_, rfl⟩
        obtain ⟨y, hy⟩ : ∃ y, mkD (mn * mn) (md * md) = y := ⟨_, rfl⟩
        rw [hx, hy] at KM
        clear hx hy
        go_enter Tryd.func19, Tryd.ntmps19
        go_wp2_with (first
          | (go_at_call 34; refine (KV _).mono ?_; clear KV; rintro e w1 ⟨rfl, hb⟩; have T2 : Two w1 (w.heap.size + 1 + 1) (.int .i64 0) (.int .i64 0) := Two.below (by exact (Two.at (Two.new _ _ _ _) (by simp))) hb; have T1 : Two w1 (w.heap.size + 1) (.int .i64 mn) (.int .i64 md) := Two.below (by exact (Two.at (Two.new _ _ _ _) (by simp)).alloc _) hb; have T0 : Two w1 w.heap.size (.int .i64 sn) (.int .i64 sd) := Two.below (by exact (((Two.new w _ _ _).alloc _).alloc _)) hb; have hB : Below w.heap.size w w1 := Below.trans (by go_grown) (hb.mono (by simp; omega)); clear hb; obtain ⟨q0, q1, f0, f1, z⟩ := id T2; obtain ⟨p0, p1, _, _, _⟩ := id T1; obtain ⟨o0, o1, _, _, _⟩ := id T0)
          | (go_at_call 34; refine (KW _).mono ?_; clear KW; rintro e w2 ⟨rfl, hb⟩; clear q0 q1 f0 f1 z p0 p1 o0 o1; replace T2 := T2.below hb; replace T1 := T1.below hb; replace T0 := T0.below hb; replace hB : Below w.heap.size w w2 := hB.trans (hb.mono hB.size); clear hb; obtain ⟨q0, q1, f0, f1, z⟩ := id T2; obtain ⟨p0, p1, _, _, _⟩ := id T1; obtain ⟨o0, o1, _, _, _⟩ := id T0)
          | (go_at_call 36; refine (KM _).mono ?_; clear KM; rintro e w3 ⟨rfl, hb⟩; clear q0 q1 f0 f1 z p0 p1 o0 o1; replace T2 := T2.below hb; replace T1 := T1.below hb; replace T0 := T0.below hb; replace hB : Below w.heap.size w w3 := hB.trans (hb.mono hB.size); clear hb; obtain ⟨q0, q1, f0, f1, z⟩ := id T2; obtain ⟨p0, p1, _, _, _⟩ := id T1; obtain ⟨o0, o1, _, _, _⟩ := id T0))
        have T3 := (T2.store (.int .i64 0) (.int .i64 0)).alloc (.cells #[.int .i64 x, .int .i64 y] 23)
        obtain ⟨g0, g1, _, _, _⟩ := id T3
        exact bodyPost_ret (v := .tuple #[fr 0 0, .int .i64 10]) (by simp [results, Tryd.results19, go_sem, g0, g1]) rfl ⟨rfl, by first | go_grown | (refine Below.trans hB ?_; go_grown)⟩

set_option maxRecDepth 100000 in
set_option maxHeartbeats 1000000 in
theorem rvariance_any (sn sd mn md : Int) (w : World) (h1 : I64 sn) (h2 : I64 sd) (h3 : I64 mn) (h4 : I64 md) : Calls Tryd.prog 20 #[fr sn sd, fr mn md] w fun en w' => en = .returned (varT sn sd mn md) ∧ Below w.heap.size w w' := by
  have KV := fun W => rvalid_any sn sd W h1.1 h1.2 h2.1 h2.2
  have KW := fun W => rvalid_any mn md W h3.1 h3.2 h4.1 h4.2
  clear h1 h2 h3 h4
  cases hv : validB sn sd with
  | false =>
    rw [show varT sn sd mn md = .tuple #[fr 0 0, .int .i64 20] by simp [varT, varN, varD, varE, hv]]
    rw [hv] at KV
    clear hv KW
    go_enter Tryd.func20, Tryd.ntmps20
    go_wp2_with (go_at_call 21; refine (KV _).mono ?_; clear KV; rintro e w1 ⟨rfl, hb⟩; have T2 : Two w1 (w.heap.size + 1 + 1) (.int .i64 0) (.int .i64 0) := Two.below (by exact (Two.at (Two.new _ _ _ _) (by simp))) hb; have T1 : Two w1 (w.heap.size + 1) (.int .i64 mn) (.int .i64 md) := Two.below (by exact (Two.at (Two.new _ _ _ _) (by simp)).alloc _) hb; have T0 : Two w1 w.heap.size (.int .i64 sn) (.int .i64 sd) := Two.below (by exact (((Two.new w _ _ _).alloc _).alloc _)) hb; have hB : Below w.heap.size w w1 := Below.trans (by go_grown) (hb.mono (by simp; omega)); clear hb; obtain ⟨q0, q1, f0, f1, z⟩ := id T2; obtain ⟨p0, p1, _, _, _⟩ := id T1; obtain ⟨o0, o1, _, _, _⟩ := id T0)
    exact bodyPost_ret (v := .tuple #[fr 0 0, .int .i64 20]) (by simp [results, Tryd.results20, go_sem, q0, q1, z]) rfl ⟨rfl, by go_grown⟩
  | true =>
    cases hm : validB mn md with
    | false =>
      rw [show varT sn sd mn md = .tuple #[fr 0 0, .int .i64 20] by simp [varT, varN, varD, varE, hv, hm]]
      rw [hv] at KV
      rw [hm] at KW
      clear hv hm
      go_enter Tryd.func20, Tryd.ntmps20
      go_wp2_with (first
        | (go_at_call 21; refine (KV _).mono ?_; clear KV; rintro e w1 ⟨rfl, hb⟩; have T2 : Two w1 (w.heap.size + 1 + 1) (.int .i64 0) (.int .i64 0) := Two.below (by exact (Two.at (Two.new _ _ _ _) (by simp))) hb; have T1 : Two w1 (w.heap.size + 1) (.int .i64 mn) (.int .i64 md) := Two.below (by exact (Two.at (Two.new _ _ _ _) (by simp)).alloc _) hb; have T0 : Two w1 w.heap.size (.int .i64 sn) (.int .i64 sd) := Two.below (by exact (((Two.new w _ _ _).alloc _).alloc _)) hb; have hB : Below w.heap.size w w1 := Below.trans (by go_grown) (hb.mono (by simp; omega)); clear hb; obtain ⟨q0, q1, f0, f1, z⟩ := id T2; obtain ⟨p0, p1, _, _, _⟩ := id T1; obtain ⟨o0, o1, _, _, _⟩ := id T0)
        | (go_at_call 21; refine (KW _).mono ?_; clear KW; rintro e w2 ⟨rfl, hb⟩; clear q0 q1 f0 f1 z p0 p1 o0 o1; replace T2 := T2.below hb; replace T1 := T1.below hb; replace T0 := T0.below hb; replace hB : Below w.heap.size w w2 := hB.trans (hb.mono hB.size); clear hb; obtain ⟨q0, q1, f0, f1, z⟩ := id T2; obtain ⟨p0, p1, _, _, _⟩ := id T1; obtain ⟨o0, o1, _, _, _⟩ := id T0))
      exact bodyPost_ret (v := .tuple #[fr 0 0, .int .i64 20]) (by simp [results, Tryd.results20, go_sem, q0, q1, z]) rfl ⟨rfl, by go_grown⟩
    | true =>
      obtain ⟨s1, s2, s3⟩ := valid_sm hv
      obtain ⟨s4, s5, s6⟩ := valid_sm hm
      have KM := fun W => rmul_any mn md mn md W s4 s5 s4 s5
      have hE := mkE_ten (n := mn * mn) (d := md * md) (by intro h; rcases Int.mul_eq_zero.1 h with h | h <;> omega)
      have KS := fun W => rsub_any sn sd (mkN (mn * mn) (md * md)) (mkD (mn * mn) (md * md)) W s1 s2 (mk_sm _ _).1 (mk_sm _ _).2
      rcases hE with h0 | h0
      · rw [show varT sn sd mn md = .tuple #[fr (mkN (sn * mkD (mn * mn) (md * md) - mkN (mn * mn) (md * md) * sd) (sd * mkD (mn * mn) (md * md))) (mkD (sn * mkD (mn * mn) (md * md) - mkN (mn * mn) (md * md) * sd) (sd * mkD (mn * mn) (md * md))), .int .i64 (mkE (sn * mkD (mn * mn) (md * md) - mkN (mn * mn) (md * md) * sd) (sd * mkD (mn * mn) (md * md)))] by simp only [varT, varN, varD, varE, hv, hm, h0, if_true, and_self]]
        rw [hv] at KV
        rw [hm] at KW
        simp only [mkV] at KM KS
        rw [h0] at KM
        clear hv hm h0 s1 s2 s3 s4 s5 s6
        obtain ⟨x, hx⟩ : ∃ x, mkN (mn * mn) (md * md) = x := ⟨_, rfl⟩
        obtain ⟨y, hy⟩ : ∃ y, mkD (mn * mn) (md * md) = y := ⟨_, rfl⟩
        rw [hx, hy] at KM KS ⊢
        obtain ⟨x', hx'⟩ : ∃ x', mkN (sn * y - x * sd) (sd * y) = x' := ⟨_, rfl⟩
        obtain ⟨y', hy'⟩ : ∃ y', mkD (sn * y - x * sd) (sd * y) = y' := ⟨_, rfl⟩
        obtain ⟨u, hu⟩ : ∃ u, mkE (sn * y - x * sd) (sd * y) = u := ⟨_, rfl⟩
        rw [hx', hy', hu] at KS ⊢
        clear hx hy hx' hy' hu
        go_enter Tryd.func20, Tryd.ntmps20
        go_wp2_with (first
          | (go_at_call 21; refine (KV _).mono ?_; clear KV; rintro e w1 ⟨rfl, hb⟩; have T2 : Two w1 (w.heap.size + 1 + 1) (.int .i64 0) (.int .i64 0) := Two.below (by exact (Two.at (Two.new _ _ _ _) (by simp))) hb; have T1 : Two w1 (w.heap.size + 1) (.int .i64 mn) (.int .i64 md) := Two.below (by exact (Two.at (Two.new _ _ _ _) (by simp)).alloc _) hb; have T0 : Two w1 w.heap.size (.int .i64 sn) (.int .i64 sd) := Two.below (by exact (((Two.new w _ _ _).alloc _).alloc _)) hb; have hB : Below w.heap.size w w1 := Below.trans (by go_grown) (hb.mono (by simp; omega)); clear hb; obtain ⟨q0, q1, f0, f1, z⟩ := id T2; obtain ⟨p0, p1, _, _, _⟩ := id T1; obtain ⟨o0, o1, _, _, _⟩ := id T0)
          | (go_at_call 21; refine (KW _).mono ?_; clear KW; rintro e w2 ⟨rfl, hb⟩; clear q0 q1 f0 f1 z p0 p1 o0 o1; replace T2 := T2.below hb; replace T1 := T1.below hb; replace T0 := T0.below hb; replace hB : Below w.heap.size w w2 := hB.trans (hb.mono hB.size); clear hb; obtain ⟨q0, q1, f0, f1, z⟩ := id T2; obtain ⟨p0, p1, _, _, _⟩ := id T1; obtain ⟨o0, o1, _, _, _⟩ := id T0)
          | (go_at_call 37; refine (KM _).mono ?_; clear KM; rintro e w3 ⟨rfl, hb⟩; clear q0 q1 f0 f1 z p0 p1 o0 o1; replace T2 := T2.below hb; replace T1 := T1.below hb; replace T0 := T0.below hb; replace hB : Below w.heap.size w w3 := hB.trans (hb.mono hB.size); clear hb; obtain ⟨q0, q1, f0, f1, z⟩ := id T2; obtain ⟨p0, p1, _, _, _⟩ := id T1; obtain ⟨o0, o1, _, _, _⟩ := id T0)
          | (go_at_call 39; refine (KS _).mono ?_; clear KS; rintro e w4 ⟨rfl, hb⟩; clear q0 q1 f0 f1 z p0 p1 o0 o1; replace T2 := (T2.alloc _).below hb; replace T1 := (T1.alloc _).below hb; replace T0 := (T0.alloc _).below hb; replace hB : Below w.heap.size w w4 := (hB.alloc hB.size _).trans (hb.mono (by have := hB.size; simp; omega)); clear hb; obtain ⟨q0, q1, f0, f1, z⟩ := id T2; obtain ⟨p0, p1, _, _, _⟩ := id T1; obtain ⟨o0, o1, _, _, _⟩ := id T0))
        exact bodyPost_ret (v := .tuple #[fr x' y', .int .i64 u]) (by simp [results, Tryd.results20, go_sem, q0, q1, z]) rfl ⟨rfl, by go_grown⟩
      · rw [show varT sn sd mn md = .tuple #[fr 0 0, .int .i64 10] by simp [varT, varN, varD, varE, hv, hm, h0]]
        rw [hv] at KV
        rw [hm] at KW
        simp only [mkV] at KM
        rw [h0] at KM
        clear hv hm h0 s1 s2 s3 s4 s5 s6 KS
        obtain ⟨x, hx⟩ : ∃ x, mkN (mn * mn) (md * md) = x := ⟨_, rfl⟩
        obtain ⟨y, hy⟩ : ∃ y, mkD (mn * mn) (md * md) = y := ⟨_, rfl⟩
        rw [hx, hy] at KM
        clear hx hy
        go_enter Tryd.func20, Tryd.ntmps20
        go_wp2_with (first
          | (go_at_call 21; refine (KV _).mono ?_; clear KV; rintro e w1 ⟨rfl, hb⟩; have T2 : Two w1 (w.heap.size + 1 + 1) (.int .i64 0) (.int .i64 0) := Two.below (by exact (Two.at (Two.new _ _ _ _) (by simp))) hb; have T1 : Two w1 (w.heap.size + 1) (.int .i64 mn) (.int .i64 md) := Two.below (by exact (Two.at (Two.new _ _ _ _) (by simp)).alloc _) hb; have T0 : Two w1 w.heap.size (.int .i64 sn) (.int .i64 sd) := Two.below (by exact (((Two.new w _ _ _).alloc _).alloc _)) hb; have hB : Below w.heap.size w w1 := Below.trans (by go_grown) (hb.mono (by simp; omega)); clear hb; obtain ⟨q0, q1, f0, f1, z⟩ := id T2; obtain ⟨p0, p1, _, _, _⟩ := id T1; obtain ⟨o0, o1, _, _, _⟩ := id T0)
          | (go_at_call 21; refine (KW _).mono ?_; clear KW; rintro e w2 ⟨rfl, hb⟩; clear q0 q1 f0 f1 z p0 p1 o0 o1; replace T2 := T2.below hb; replace T1 := T1.below hb; replace T0 := T0.below hb; replace hB : Below w.heap.size w w2 := hB.trans (hb.mono hB.size); clear hb; obtain ⟨q0, q1, f0, f1, z⟩ := id T2; obtain ⟨p0, p1, _, _, _⟩ := id T1; obtain ⟨o0, o1, _, _, _⟩ := id T0)
          | (go_at_call 37; refine (KM _).mono ?_; clear KM; rintro e w3 ⟨rfl, hb⟩; clear q0 q1 f0 f1 z p0 p1 o0 o1; replace T2 := T2.below hb; replace T1 := T1.below hb; replace T0 := T0.below hb; replace hB : Below w.heap.size w w3 := hB.trans (hb.mono hB.size); clear hb; obtain ⟨q0, q1, f0, f1, z⟩ := id T2; obtain ⟨p0, p1, _, _, _⟩ := id T1; obtain ⟨o0, o1, _, _, _⟩ := id T0))
        have T3 := (T2.store (.int .i64 0) (.int .i64 0)).alloc (.cells #[.int .i64 x, .int .i64 y] 23)
        obtain ⟨g0, g1, _, _, _⟩ := id T3
        exact bodyPost_ret (v := .tuple #[fr 0 0, .int .i64 10]) (by simp [results, Tryd.results20, go_sem, g0, g1]) rfl ⟨rfl, by first | go_grown | (refine Below.trans hB ?_; go_grown)⟩

end Go.Proofs.YtiigmohnmkgfoaaDoor
