/-
  What Make and Valid return, and the document's own answers for them.
-/
import Derived.Test.YtiigmohnmkgfoaaDoorBase
namespace Go.Proofs.YtiigmohnmkgfoaaDoor
open Go.ChangeShapes Go.WideShapes Go.ChangeAt Go.RowKit
set_option linter.unusedVariables false
set_option linter.unusedSimpArgs false

def mkG (n d : Int) : Nat := Nat.gcd (sz n) (sz d)
def mkT (n d : Int) : Nat := sz n / mkG n d
def mkL (n d : Int) : Nat := sz d / mkG n d
def bigB (n d : Int) : Bool := decide (2147483647 < mkT n d ∨ 2147483647 < mkL n d)
def mkE (n d : Int) : Int := if d = 0 then 11 else if bigB n d then 10 else 0
def mkN (n d : Int) : Int := if mkE n d = 0 then (if decide (n < 0) = decide (d < 0) then (mkT n d : Int) else -(mkT n d : Int)) else 0
def mkD (n d : Int) : Int := if mkE n d = 0 then (mkL n d : Int) else 0

theorem sz_bd {x : Int} (hx : -9223372036854775808 ≤ x) (hx' : x ≤ 9223372036854775807) : sz x ≤ 9223372036854775808 := by unfold sz; omega
theorem mkG_pos {n d : Int} (hd : d ≠ 0) : 0 < mkG n d := Nat.gcd_pos_of_pos_right _ (by unfold sz; omega)
theorem mkG_le {n d : Int} (hd : d ≠ 0) : mkG n d ≤ sz d := Nat.gcd_le_right _ (by unfold sz; omega)
theorem mkT_eq (n d : Int) : ((sz n : Nat) : Int) / (mkG n d : Nat) = (mkT n d : Nat) := rfl
theorem mkL_eq (n d : Int) : ((sz d : Nat) : Int) / (mkG n d : Nat) = (mkL n d : Nat) := rfl
theorem mkT_le (n d : Int) : mkT n d ≤ sz n := Nat.div_le_self _ _
theorem mkL_le (n d : Int) : mkL n d ≤ sz d := Nat.div_le_self _ _

theorem divisor_mk (n d : Int) (w : World) (hn : sz n ≤ 9223372036854775808) (hd : sz d ≤ 9223372036854775808) :
    Calls Tryd.prog 43 #[.int .u64 (sz n), .int .u64 (sz d)] w fun e w' => e = .returned (.int .u64 (mkG n d)) ∧ Below w.heap.size w w' :=
  divisor_any _ _ _ (by omega) (by omega)
theorem rgcd_mk (n d : Int) (w : World) (hn : sz n ≤ 9223372036854775808) (hd : sz d ≤ 9223372036854775808) :
    Calls Tryd.prog 40 #[.int .u64 (sz n), .int .u64 (sz d)] w fun e w' => e = .returned (.int .u64 (mkG n d)) ∧ w' = w :=
  rgcd_any _ _ _ (by omega) (by omega)

set_option maxRecDepth 100000 in
set_option maxHeartbeats 1000000 in
theorem make_any (n d : Int) (w : World) (hn : -9223372036854775808 ≤ n) (hn' : n ≤ 9223372036854775807) (hd : -9223372036854775808 ≤ d) (hd' : d ≤ 9223372036854775807) :
    Calls Tryd.prog 24 #[.int .i64 n, .int .i64 d] w fun e w' => e = .returned (.tuple #[fr (mkN n d) (mkD n d), .int .i64 (mkE n d)]) ∧ Below w.heap.size w w' := by
  by_cases h0 : d = 0
  · subst h0
    rw [show mkN n 0 = 0 by simp [mkN, mkE], show mkD n 0 = 0 by simp [mkD, mkE], show mkE n 0 = 11 by simp [mkE]]
    go_enter Tryd.func24, Tryd.ntmps24
    go_wp2
    go_returns
    exact ⟨rfl, by go_grown⟩
  · have s1 := sz_bd hn hn'
    have s2 := sz_bd hd hd'
    have g0 : (0 : Int) < (mkG n d : Nat) := by have := mkG_pos (n := n) h0; omega
    have g1 : ((mkG n d : Nat) : Int) ≤ 9223372036854775808 := by have := mkG_le (n := n) h0; omega
    have g2 : ¬ ((mkG n d : Nat) : Int) = 0 := by omega
    have t1 := mkT_eq n d
    have t2 := mkL_eq n d
    have t3 : ((mkT n d : Nat) : Int) ≤ 9223372036854775808 := by have := mkT_le n d; omega
    have t4 : ((mkL n d : Nat) : Int) ≤ 9223372036854775808 := by have := mkL_le n d; omega
    by_cases c1 : 2147483647 < mkT n d
    · skip
      have e1 : mkE n d = 10 := by simp [mkE, h0, bigB, c1]
      rw [show mkN n d = 0 by simp [mkN, e1], show mkD n d = 0 by simp [mkD, e1], e1]
      clear e1
      have c1 : (2147483647 : Int) < (mkT n d : Nat) := by omega
      go_enter Tryd.func24, Tryd.ntmps24
      go_wp2_with (first
        | (go_at_call 42; refine (size_any _ _ (by omega) (by omega)).mono ?_; rintro e w' ⟨rfl, rfl⟩)
        | (go_at_call 43; refine (divisor_mk n d _ s1 s2).mono ?_; rintro e w1 ⟨rfl, hb⟩; have T0 := (Two.new w (.int .i64 0) (.int .i64 0) 23).below hb; obtain ⟨q0, q1, f0, f1, z⟩ := id T0; have hB : Below w.heap.size w w1 := Below.trans (by go_grown) (hb.mono (by simp)); clear hb))
      go_quiet (fail)
      have T1 := T0.drewN nq
      have hB1 := Below.drewn hB nq
      obtain ⟨w2, hw2⟩ : ∃ w2, w1.drewN nq = w2 := ⟨_, rfl⟩
      rw [hw2] at T1 hB1 ⊢
      clear q0 q1 f0 f1 z T0 hB hw2
      obtain ⟨q0, q1, f0, f1, z⟩ := id T1
      go_wp2
      exact bodyPost_ret (v := .tuple #[fr 0 0, .int .i64 10]) (by simp [results, Tryd.results24, go_sem, q0, q1, z]) rfl ⟨rfl, by go_grown⟩
    · by_cases c2 : 2147483647 < mkL n d
      · skip
        have e1 : mkE n d = 10 := by simp [mkE, h0, bigB, c1, c2]
        rw [show mkN n d = 0 by simp [mkN, e1], show mkD n d = 0 by simp [mkD, e1], e1]
        clear e1
        have c3 : ((mkT n d : Nat) : Int) ≤ 2147483647 := by omega
        have c2 : (2147483647 : Int) < (mkL n d : Nat) := by omega
        clear c1
        go_enter Tryd.func24, Tryd.ntmps24
        go_wp2_with (first
          | (go_at_call 42; refine (size_any _ _ (by omega) (by omega)).mono ?_; rintro e w' ⟨rfl, rfl⟩)
          | (go_at_call 43; refine (divisor_mk n d _ s1 s2).mono ?_; rintro e w1 ⟨rfl, hb⟩; have T0 := (Two.new w (.int .i64 0) (.int .i64 0) 23).below hb; obtain ⟨q0, q1, f0, f1, z⟩ := id T0; have hB : Below w.heap.size w w1 := Below.trans (by go_grown) (hb.mono (by simp)); clear hb))
        go_quiet (fail)
        have T1 := T0.drewN nq
        have hB1 := Below.drewn hB nq
        obtain ⟨w2, hw2⟩ : ∃ w2, w1.drewN nq = w2 := ⟨_, rfl⟩
        rw [hw2] at T1 hB1 ⊢
        clear q0 q1 f0 f1 z T0 hB hw2
        obtain ⟨q0, q1, f0, f1, z⟩ := id T1
        go_wp2
        exact bodyPost_ret (v := .tuple #[fr 0 0, .int .i64 10]) (by simp [results, Tryd.results24, go_sem, q0, q1, z]) rfl ⟨rfl, by go_grown⟩
      · have e1 : mkE n d = 0 := by simp [mkE, h0, bigB]; omega
        have e2 : mkD n d = (mkL n d : Nat) := by simp [mkD, e1]
        rw [e2, e1]
        have c3 : ((mkT n d : Nat) : Int) ≤ 2147483647 := by omega
        have c4 : ((mkL n d : Nat) : Int) ≤ 2147483647 := by omega
        clear c1 c2 e2
        by_cases p : n < 0
        · skip
          by_cases q : d < 0
          · skip
            have e3 : mkN n d = (mkT n d : Int) := by simp [mkN, e1, p, q]; try omega
            rw [e3]
            clear e1 e3
            have pd : decide (n < 0) = true := by simp; omega
            have qd : decide (d < 0) = true := by simp; omega
            go_enter Tryd.func24, Tryd.ntmps24
            go_wp2_with (first
              | (go_at_call 42; refine (size_any _ _ (by omega) (by omega)).mono ?_; rintro e w' ⟨rfl, rfl⟩)
              | (go_at_call 43; refine (divisor_mk n d _ s1 s2).mono ?_; rintro e w1 ⟨rfl, hb⟩; have T0 := (Two.new w (.int .i64 0) (.int .i64 0) 23).below hb; obtain ⟨q0, q1, f0, f1, z⟩ := id T0; have hB : Below w.heap.size w w1 := Below.trans (by go_grown) (hb.mono (by simp)); clear hb))
            go_quiet (fail)
            have T1 := T0.drewN nq
            have hB1 := Below.drewn hB nq
            obtain ⟨w2, hw2⟩ : ∃ w2, w1.drewN nq = w2 := ⟨_, rfl⟩
            rw [hw2] at T1 hB1 ⊢
            clear q0 q1 f0 f1 z T0 hB hw2
            obtain ⟨q0, q1, f0, f1, z⟩ := id T1
            go_wp2
            exact bodyPost_ret (v := .tuple #[fr ((mkT n d : Int)) (mkL n d : Nat), .int .i64 0]) (by simp [results, Tryd.results24, go_sem, q0, q1, z]) rfl ⟨rfl, by go_grown⟩
          · have q : 0 ≤ d := by omega
            have e3 : mkN n d = -(mkT n d : Int) := by simp [mkN, e1, p]; try omega
            rw [e3]
            clear e1 e3
            have pd : decide (n < 0) = true := by simp; omega
            have qd : decide (d < 0) = false := by simp; omega
            go_enter Tryd.func24, Tryd.ntmps24
            go_wp2_with (first
              | (go_at_call 42; refine (size_any _ _ (by omega) (by omega)).mono ?_; rintro e w' ⟨rfl, rfl⟩)
              | (go_at_call 43; refine (divisor_mk n d _ s1 s2).mono ?_; rintro e w1 ⟨rfl, hb⟩; have T0 := (Two.new w (.int .i64 0) (.int .i64 0) 23).below hb; obtain ⟨q0, q1, f0, f1, z⟩ := id T0; have hB : Below w.heap.size w w1 := Below.trans (by go_grown) (hb.mono (by simp)); clear hb))
            go_quiet (fail)
            have T1 := T0.drewN nq
            have hB1 := Below.drewn hB nq
            obtain ⟨w2, hw2⟩ : ∃ w2, w1.drewN nq = w2 := ⟨_, rfl⟩
            rw [hw2] at T1 hB1 ⊢
            clear q0 q1 f0 f1 z T0 hB hw2
            obtain ⟨q0, q1, f0, f1, z⟩ := id T1
            go_wp2_with (go_at_call 44; refine (negative_any _ _ _ (by omega) (by omega)).mono ?_; rintro e w3 ⟨rfl, hb⟩; have T3 := (T1.alloc _).below hb; have T4 := (Two.new w2 (.int .i64 (mkT n d : Nat)) (.int .i64 (mkL n d : Nat)) 23).below hb; obtain ⟨r0, r1, h0', h1', z'⟩ := id T3; obtain ⟨r4, r5, h4', h5', z4⟩ := id T4; have hB3 : Below w.heap.size w w3 := (hB1.alloc hB1.size _).trans (hb.mono (by have := hB1.size; simp; omega)); clear hb)
            exact bodyPost_ret (v := .tuple #[fr (-(mkT n d : Int)) (mkL n d : Nat), .int .i64 0]) (by simp [results, Tryd.results24, go_sem, r0, r1, r4, r5, z']) rfl ⟨rfl, by go_grown⟩
        · have p : 0 ≤ n := by omega
          by_cases q : d < 0
          · skip
            have e3 : mkN n d = -(mkT n d : Int) := by simp [mkN, e1, q]; try omega
            rw [e3]
            clear e1 e3
            have pd : decide (n < 0) = false := by simp; omega
            have qd : decide (d < 0) = true := by simp; omega
            go_enter Tryd.func24, Tryd.ntmps24
            go_wp2_with (first
              | (go_at_call 42; refine (size_any _ _ (by omega) (by omega)).mono ?_; rintro e w' ⟨rfl, rfl⟩)
              | (go_at_call 43; refine (divisor_mk n d _ s1 s2).mono ?_; rintro e w1 ⟨rfl, hb⟩; have T0 := (Two.new w (.int .i64 0) (.int .i64 0) 23).below hb; obtain ⟨q0, q1, f0, f1, z⟩ := id T0; have hB : Below w.heap.size w w1 := Below.trans (by go_grown) (hb.mono (by simp)); clear hb))
            go_quiet (fail)
            have T1 := T0.drewN nq
            have hB1 := Below.drewn hB nq
            obtain ⟨w2, hw2⟩ : ∃ w2, w1.drewN nq = w2 := ⟨_, rfl⟩
            rw [hw2] at T1 hB1 ⊢
            clear q0 q1 f0 f1 z T0 hB hw2
            obtain ⟨q0, q1, f0, f1, z⟩ := id T1
            go_wp2_with (go_at_call 44; refine (negative_any _ _ _ (by omega) (by omega)).mono ?_; rintro e w3 ⟨rfl, hb⟩; have T3 := (T1.alloc _).below hb; have T4 := (Two.new w2 (.int .i64 (mkT n d : Nat)) (.int .i64 (mkL n d : Nat)) 23).below hb; obtain ⟨r0, r1, h0', h1', z'⟩ := id T3; obtain ⟨r4, r5, h4', h5', z4⟩ := id T4; have hB3 : Below w.heap.size w w3 := (hB1.alloc hB1.size _).trans (hb.mono (by have := hB1.size; simp; omega)); clear hb)
            exact bodyPost_ret (v := .tuple #[fr (-(mkT n d : Int)) (mkL n d : Nat), .int .i64 0]) (by simp [results, Tryd.results24, go_sem, r0, r1, r4, r5, z']) rfl ⟨rfl, by go_grown⟩
          · have q : 0 ≤ d := by omega
            have e3 : mkN n d = (mkT n d : Int) := by simp [mkN, e1]; try omega
            rw [e3]
            clear e1 e3
            have pd : decide (n < 0) = false := by simp; omega
            have qd : decide (d < 0) = false := by simp; omega
            go_enter Tryd.func24, Tryd.ntmps24
            go_wp2_with (first
              | (go_at_call 42; refine (size_any _ _ (by omega) (by omega)).mono ?_; rintro e w' ⟨rfl, rfl⟩)
              | (go_at_call 43; refine (divisor_mk n d _ s1 s2).mono ?_; rintro e w1 ⟨rfl, hb⟩; have T0 := (Two.new w (.int .i64 0) (.int .i64 0) 23).below hb; obtain ⟨q0, q1, f0, f1, z⟩ := id T0; have hB : Below w.heap.size w w1 := Below.trans (by go_grown) (hb.mono (by simp)); clear hb))
            go_quiet (fail)
            have T1 := T0.drewN nq
            have hB1 := Below.drewn hB nq
            obtain ⟨w2, hw2⟩ : ∃ w2, w1.drewN nq = w2 := ⟨_, rfl⟩
            rw [hw2] at T1 hB1 ⊢
            clear q0 q1 f0 f1 z T0 hB hw2
            obtain ⟨q0, q1, f0, f1, z⟩ := id T1
            go_wp2
            exact bodyPost_ret (v := .tuple #[fr ((mkT n d : Int)) (mkL n d : Nat), .int .i64 0]) (by simp [results, Tryd.results24, go_sem, q0, q1, z]) rfl ⟨rfl, by go_grown⟩

set_option maxRecDepth 100000 in
set_option maxHeartbeats 1000000 in
theorem rmake_any (n d : Int) (w : World) (hn : -9223372036854775808 ≤ n) (hn' : n ≤ 9223372036854775807) (hd : -9223372036854775808 ≤ d) (hd' : d ≤ 9223372036854775807) :
    Calls Tryd.prog 27 #[.int .i64 n, .int .i64 d] w fun e w' => e = .returned (.tuple #[fr (mkN n d) (mkD n d), .int .i64 (mkE n d)]) ∧ Below w.heap.size w w' := by
  by_cases h0 : d = 0
  · subst h0
    rw [show mkN n 0 = 0 by simp [mkN, mkE], show mkD n 0 = 0 by simp [mkD, mkE], show mkE n 0 = 11 by simp [mkE]]
    go_enter Tryd.func27, Tryd.ntmps27
    go_wp2
    go_returns
    exact ⟨rfl, by go_grown⟩
  · have s1 := sz_bd hn hn'
    have s2 := sz_bd hd hd'
    have g0 : (0 : Int) < (mkG n d : Nat) := by have := mkG_pos (n := n) h0; omega
    have g1 : ((mkG n d : Nat) : Int) ≤ 9223372036854775808 := by have := mkG_le (n := n) h0; omega
    have g2 : ¬ ((mkG n d : Nat) : Int) = 0 := by omega
    have t1 := mkT_eq n d
    have t2 := mkL_eq n d
    have t3 : ((mkT n d : Nat) : Int) ≤ 9223372036854775808 := by have := mkT_le n d; omega
    have t4 : ((mkL n d : Nat) : Int) ≤ 9223372036854775808 := by have := mkL_le n d; omega
    by_cases c1 : 2147483647 < mkT n d
    · skip
      have e1 : mkE n d = 10 := by simp [mkE, h0, bigB, c1]
      rw [show mkN n d = 0 by simp [mkN, e1], show mkD n d = 0 by simp [mkD, e1], e1]
      clear e1
      have c1 : (2147483647 : Int) < (mkT n d : Nat) := by omega
      go_enter Tryd.func27, Tryd.ntmps27
      go_wp2_with (first
        | (go_at_call 41; refine (abs_any _ _ (by omega) (by omega)).mono ?_; rintro e w' ⟨rfl, rfl⟩)
        | (go_at_call 40; refine (rgcd_mk n d _ s1 s2).mono ?_; rintro e w' ⟨rfl, rfl⟩))
      go_returns
      exact ⟨rfl, by go_grown⟩
    · by_cases c2 : 2147483647 < mkL n d
      · skip
        have e1 : mkE n d = 10 := by simp [mkE, h0, bigB, c1, c2]
        rw [show mkN n d = 0 by simp [mkN, e1], show mkD n d = 0 by simp [mkD, e1], e1]
        clear e1
        have c3 : ((mkT n d : Nat) : Int) ≤ 2147483647 := by omega
        have c2 : (2147483647 : Int) < (mkL n d : Nat) := by omega
        clear c1
        go_enter Tryd.func27, Tryd.ntmps27
        go_wp2_with (first
          | (go_at_call 41; refine (abs_any _ _ (by omega) (by omega)).mono ?_; rintro e w' ⟨rfl, rfl⟩)
          | (go_at_call 40; refine (rgcd_mk n d _ s1 s2).mono ?_; rintro e w' ⟨rfl, rfl⟩))
        go_returns
        exact ⟨rfl, by go_grown⟩
      · have e1 : mkE n d = 0 := by simp [mkE, h0, bigB]; omega
        have e2 : mkD n d = (mkL n d : Nat) := by simp [mkD, e1]
        rw [e2, e1]
        have c3 : ((mkT n d : Nat) : Int) ≤ 2147483647 := by omega
        have c4 : ((mkL n d : Nat) : Int) ≤ 2147483647 := by omega
        clear c1 c2 e2
        by_cases p : n < 0
        · skip
          by_cases q : d < 0
          · skip
            have e3 : mkN n d = (mkT n d : Int) := by simp [mkN, e1, p, q]; try omega
            rw [e3]
            clear e1 e3
            have pd : decide (n < 0) = true := by simp; omega
            have qd : decide (d < 0) = true := by simp; omega
            go_enter Tryd.func27, Tryd.ntmps27
            go_wp2_with (first
              | (go_at_call 41; refine (abs_any _ _ (by omega) (by omega)).mono ?_; rintro e w' ⟨rfl, rfl⟩)
              | (go_at_call 40; refine (rgcd_mk n d _ s1 s2).mono ?_; rintro e w' ⟨rfl, rfl⟩))
            go_returns
            exact ⟨rfl, by go_grown⟩
          · have q : 0 ≤ d := by omega
            have e3 : mkN n d = -(mkT n d : Int) := by simp [mkN, e1, p]; try omega
            rw [e3]
            clear e1 e3
            have pd : decide (n < 0) = true := by simp; omega
            have qd : decide (d < 0) = false := by simp; omega
            go_enter Tryd.func27, Tryd.ntmps27
            go_wp2_with (first
              | (go_at_call 41; refine (abs_any _ _ (by omega) (by omega)).mono ?_; rintro e w' ⟨rfl, rfl⟩)
              | (go_at_call 40; refine (rgcd_mk n d _ s1 s2).mono ?_; rintro e w' ⟨rfl, rfl⟩))
            go_returns
            exact ⟨rfl, by go_grown⟩
        · have p : 0 ≤ n := by omega
          by_cases q : d < 0
          · skip
            have e3 : mkN n d = -(mkT n d : Int) := by simp [mkN, e1, q]; try omega
            rw [e3]
            clear e1 e3
            have pd : decide (n < 0) = false := by simp; omega
            have qd : decide (d < 0) = true := by simp; omega
            go_enter Tryd.func27, Tryd.ntmps27
            go_wp2_with (first
              | (go_at_call 41; refine (abs_any _ _ (by omega) (by omega)).mono ?_; rintro e w' ⟨rfl, rfl⟩)
              | (go_at_call 40; refine (rgcd_mk n d _ s1 s2).mono ?_; rintro e w' ⟨rfl, rfl⟩))
            go_returns
            exact ⟨rfl, by go_grown⟩
          · have q : 0 ≤ d := by omega
            have e3 : mkN n d = (mkT n d : Int) := by simp [mkN, e1]; try omega
            rw [e3]
            clear e1 e3
            have pd : decide (n < 0) = false := by simp; omega
            have qd : decide (d < 0) = false := by simp; omega
            go_enter Tryd.func27, Tryd.ntmps27
            go_wp2_with (first
              | (go_at_call 41; refine (abs_any _ _ (by omega) (by omega)).mono ?_; rintro e w' ⟨rfl, rfl⟩)
              | (go_at_call 40; refine (rgcd_mk n d _ s1 s2).mono ?_; rintro e w' ⟨rfl, rfl⟩))
            go_returns
            exact ⟨rfl, by go_grown⟩

end Go.Proofs.YtiigmohnmkgfoaaDoor
