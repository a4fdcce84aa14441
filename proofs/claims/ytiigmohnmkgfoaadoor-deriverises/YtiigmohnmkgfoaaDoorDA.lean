/-
  Package derive: what fits, what is a scale; products; the document's own.
-/
import Derived.Test.YtiigmohnmkgfoaaDoorEnv
namespace Go.Proofs.YtiigmohnmkgfoaaDoor
open Go.ChangeShapes Go.WideShapes Go.ChangeAt Go.RowKit
set_option linter.unusedVariables false
set_option linter.unusedSimpArgs false

def fitB (x : Int) : Bool := decide (-2147483647 ≤ x ∧ x ≤ 2147483647)
def scB (s m : Int) : Bool := decide (1 ≤ s ∧ s ≤ m)
theorem fitB_t {x : Int} (h : fitB x = true) : Sm x := by have := of_decide_eq_true h; exact this
theorem scB_t {s m : Int} (h : scB s m = true) : 1 ≤ s ∧ s ≤ m := of_decide_eq_true h

theorem fits_any (x : Int) (w : World) : Calls Tryd.prog 35 #[.int .i64 x] w fun e w' => e = .returned (.bool (fitB x)) ∧ w' = w := by
  by_cases h1 : -2147483647 ≤ x
  · by_cases h2 : x ≤ 2147483647
    · go_enter Tryd.func35, Tryd.ntmps35
      go_wp2
      go_ret
      exact ⟨ret_bool (by simp [fitB]; omega), rfl⟩
    · go_enter Tryd.func35, Tryd.ntmps35
      go_wp2
      go_ret
      exact ⟨ret_bool (by simp [fitB]; omega), rfl⟩
  · go_enter Tryd.func35, Tryd.ntmps35
    go_wp2
    go_ret
    exact ⟨ret_bool (by simp [fitB]; omega), rfl⟩

theorem rfits_any (x : Int) (w : World) : Calls Tryd.prog 26 #[.int .i64 x] w fun e w' => e = .returned (.bool (fitB x)) ∧ w' = w := by
  by_cases h1 : -2147483647 ≤ x
  · by_cases h2 : x ≤ 2147483647
    · go_enter Tryd.func26, Tryd.ntmps26
      go_wp2
      go_ret
      exact ⟨ret_bool (by simp [fitB]; omega), rfl⟩
    · go_enter Tryd.func26, Tryd.ntmps26
      go_wp2
      go_ret
      exact ⟨ret_bool (by simp [fitB]; omega), rfl⟩
  · go_enter Tryd.func26, Tryd.ntmps26
    go_wp2
    go_ret
    exact ⟨ret_bool (by simp [fitB]; omega), rfl⟩

theorem scale_any (s m : Int) (w : World) : Calls Tryd.prog 30 #[.int .i64 s, .int .i64 m] w fun e w' => e = .returned (.bool (scB s m)) ∧ w' = w := by
  by_cases h1 : 1 ≤ s
  · by_cases h2 : s ≤ m
    · go_enter Tryd.func30, Tryd.ntmps30
      go_wp2
      go_ret
      exact ⟨ret_bool (by simp [scB]; omega), rfl⟩
    · go_enter Tryd.func30, Tryd.ntmps30
      go_wp2
      go_ret
      exact ⟨ret_bool (by simp [scB]; omega), rfl⟩
  · go_enter Tryd.func30, Tryd.ntmps30
    go_wp2
    go_ret
    exact ⟨ret_bool (by simp [scB]; omega), rfl⟩

theorem scaled_any (s : Int) (w : World) : Calls Tryd.prog 25 #[.int .i64 s] w fun e w' => e = .returned (.bool (scB s 1048576)) ∧ w' = w := by
  by_cases h1 : 1 ≤ s
  · by_cases h2 : s ≤ 1048576
    · go_enter Tryd.func25, Tryd.ntmps25
      go_wp2
      go_ret
      exact ⟨ret_bool (by simp [scB]; omega), rfl⟩
    · go_enter Tryd.func25, Tryd.ntmps25
      go_wp2
      go_ret
      exact ⟨ret_bool (by simp [scB]; omega), rfl⟩
  · go_enter Tryd.func25, Tryd.ntmps25
    go_wp2
    go_ret
    exact ⟨ret_bool (by simp [scB]; omega), rfl⟩

def chkE (e s : Int) : Int := if scB s 1048576 = true then (if fitB e = true then 0 else 10) else 47
theorem check_any (e s : Int) (w : World) : Calls Tryd.prog 23 #[.int .i64 e, .int .i64 s] w fun en w' => en = .returned (.int .i64 (chkE e s)) ∧ w' = w := by
  have KS := fun W => scale_any s 1048576 W
  have KF := fun W => fits_any e W
  unfold chkE
  cases hs : scB s 1048576 with
  | false =>
    rw [hs] at KS
    clear hs KF
    rw [if_neg (by decide)]
    go_enter Tryd.func23, Tryd.ntmps23
    go_wp2_with (go_at_call 30; refine (KS _).mono ?_; rintro e w1 ⟨rfl, rfl⟩)
    go_ret
    exact ⟨rfl, rfl⟩
  | true =>
    rw [hs] at KS
    clear hs
    rw [if_pos rfl]
    cases hf : fitB e with
    | false =>
      rw [hf] at KF
      clear hf
      rw [if_neg (by decide)]
      go_enter Tryd.func23, Tryd.ntmps23
      go_wp2_with (first | (go_at_call 30; refine (KS _).mono ?_; rintro e w1 ⟨rfl, rfl⟩) | (go_at_call 35; refine (KF _).mono ?_; rintro e w1 ⟨rfl, rfl⟩))
      go_ret
      exact ⟨rfl, rfl⟩
    | true =>
      rw [hf] at KF
      clear hf
      rw [if_pos rfl]
      go_enter Tryd.func23, Tryd.ntmps23
      go_wp2_with (first | (go_at_call 30; refine (KS _).mono ?_; rintro e w1 ⟨rfl, rfl⟩) | (go_at_call 35; refine (KF _).mono ?_; rintro e w1 ⟨rfl, rfl⟩))
      go_ret
      exact ⟨rfl, rfl⟩
theorem mul_wrap {a b : Int} (h : fitB a = true) (k : fitB b = true) : IntKind.i64.wrap (a * b) = a * b := by
  have := mul_bd (fitB_t h) (fitB_t k)
  rw [IntKind.wrap_i64]
  omega
def mulE (a b : Int) : Int := if fitB a = true ∧ fitB b = true ∧ fitB (a * b) = true then 0 else 10
def mulV (a b : Int) : Int := if mulE a b = 0 then a * b else 0
theorem times_any (a b : Int) (w : World) : Calls Tryd.prog 50 #[.int .i64 a, .int .i64 b] w fun e w' => e = .returned (.tuple #[.int .i64 (mulV a b), .int .i64 (mulE a b)]) ∧ w' = w := by
  have KA := fun W => fits_any a W
  have KB := fun W => fits_any b W
  have KP := fun W => fits_any (a * b) W
  cases ha : fitB a with
  | false =>
    rw [ha] at KA
    rw [show mulV a b = 0 by simp [mulV, mulE, ha], show mulE a b = 10 by simp [mulE, ha]]
    clear ha KB KP
    go_enter Tryd.func50, Tryd.ntmps50
    go_wp2_with (go_at_call 35; refine (KA _).mono ?_; rintro e w1 ⟨rfl, rfl⟩)
    exact bodyPost_ret (results_tmp2 rfl _ _ _) rfl ⟨rfl, rfl⟩
  | true =>
    cases hb : fitB b with
    | false =>
      rw [ha] at KA
      rw [hb] at KB
      rw [show mulV a b = 0 by simp [mulV, mulE, hb], show mulE a b = 10 by simp [mulE, hb]]
      clear ha hb KP
      go_enter Tryd.func50, Tryd.ntmps50
      go_wp2_with (first | (go_at_call 35; refine (KA _).mono ?_; clear KA; rintro e w1 ⟨rfl, rfl⟩) | (go_at_call 35; refine (KB _).mono ?_; rintro e w1 ⟨rfl, rfl⟩))
      exact bodyPost_ret (results_tmp2 rfl _ _ _) rfl ⟨rfl, rfl⟩
    | true =>
      have hw := mul_wrap ha hb
      rw [ha] at KA
      rw [hb] at KB
      have hE : mulE a b = if fitB (a * b) = true then 0 else 10 := by simp [mulE, ha, hb]
      have hV : mulV a b = if fitB (a * b) = true then a * b else 0 := by unfold mulV; rw [hE]; cases fitB (a * b) <;> rfl
      rw [hE, hV]
      clear hE hV ha hb
      obtain ⟨p, hp⟩ : ∃ p, a * b = p := ⟨_, rfl⟩
      rw [hp] at KP ⊢
      rw [hp] at hw
      have hwp : IntKind.i64.wrap (a * b) = p := by rw [hp]; exact hw
      clear hp hw
      cases hc : fitB p with
      | false =>
        rw [hc] at KP
        rw [if_neg (by decide), if_neg (by decide)]
        go_enter Tryd.func50, Tryd.ntmps50
        go_wp2_with (first | (go_at_call 35; refine (KA _).mono ?_; clear KA; rintro e w1 ⟨rfl, rfl⟩) | (go_at_call 35; refine (KB _).mono ?_; clear KB; rintro e w1 ⟨rfl, rfl⟩) | (go_at_call 35; refine (KP _).mono ?_; rintro e w1 ⟨rfl, rfl⟩))
        exact bodyPost_ret (results_tmp2 rfl _ _ _) rfl ⟨rfl, rfl⟩
      | true =>
        rw [hc] at KP
        rw [if_pos rfl, if_pos rfl]
        go_enter Tryd.func50, Tryd.ntmps50
        go_wp2_with (first | (go_at_call 35; refine (KA _).mono ?_; clear KA; rintro e w1 ⟨rfl, rfl⟩) | (go_at_call 35; refine (KB _).mono ?_; clear KB; rintro e w1 ⟨rfl, rfl⟩) | (go_at_call 35; refine (KP _).mono ?_; rintro e w1 ⟨rfl, rfl⟩))
        exact bodyPost_ret (results_tmp2 rfl _ _ _) rfl ⟨rfl, rfl⟩
def uniE (x s : Int) : Int := if x ≠ 0 ∧ x ≠ 1 then 49 else mulE x s
def uniV (x s : Int) : Int := if uniE x s = 0 then x * s else 0
theorem unit_any (x s : Int) (w : World) : Calls Tryd.prog 52 #[.int .i64 x, .int .i64 s] w fun e w' => e = .returned (.tuple #[.int .i64 (uniV x s), .int .i64 (uniE x s)]) ∧ w' = w := by
  have KT := fun W => times_any x s W
  by_cases h0 : x = 0
  · have f0 : (x != 0) = false := by simp [h0]
    rw [show uniE x s = mulE x s by simp [uniE, h0], show uniV x s = mulV x s by simp [uniV, uniE, mulV, h0]]
    clear h0
    obtain ⟨p, hp⟩ : ∃ p, mulV x s = p := ⟨_, rfl⟩
    obtain ⟨q, hq⟩ : ∃ q, mulE x s = q := ⟨_, rfl⟩
    rw [hp, hq] at KT ⊢
    clear hp hq
    go_enter Tryd.func52, Tryd.ntmps52
    go_wp2_with (go_at_call 50; refine (KT _).mono ?_; rintro e w1 ⟨rfl, rfl⟩)
    exact bodyPost_ret (results_tmp2 rfl _ _ _) rfl ⟨rfl, rfl⟩
  · by_cases h1 : x = 1
    · have f0 : (x != 0) = true := by simp [h0]
      have f1 : (x != 1) = false := by simp [h1]
      rw [show uniE x s = mulE x s by simp [uniE, h1], show uniV x s = mulV x s by simp [uniV, uniE, mulV, h1]]
      clear h0 h1
      obtain ⟨p, hp⟩ : ∃ p, mulV x s = p := ⟨_, rfl⟩
      obtain ⟨q, hq⟩ : ∃ q, mulE x s = q := ⟨_, rfl⟩
      rw [hp, hq] at KT ⊢
      clear hp hq
      go_enter Tryd.func52, Tryd.ntmps52
      go_wp2_with (go_at_call 50; refine (KT _).mono ?_; rintro e w1 ⟨rfl, rfl⟩)
      exact bodyPost_ret (results_tmp2 rfl _ _ _) rfl ⟨rfl, rfl⟩
    · have f0 : (x != 0) = true := by simp [h0]
      have f1 : (x != 1) = true := by simp [h1]
      rw [show uniE x s = 49 by simp [uniE, h0, h1], show uniV x s = 0 by simp [uniV, uniE, h0, h1]]
      clear h0 h1 KT
      go_enter Tryd.func52, Tryd.ntmps52
      go_wp2
      exact bodyPost_ret (results_tmp2 rfl _ _ _) rfl ⟨rfl, rfl⟩
def sqrE (x s : Int) : Int := if mulE x x = 0 then mulE (x * x) s else 10
def sqrV (x s : Int) : Int := if sqrE x s = 0 then x * x * s else 0
theorem mulE_two (a b : Int) : mulE a b = 0 ∨ mulE a b = 10 := by unfold mulE; split <;> simp
theorem square_any (x s : Int) (w : World) : Calls Tryd.prog 54 #[.int .i64 x, .int .i64 s] w fun e w' => e = .returned (.tuple #[.int .i64 (sqrV x s), .int .i64 (sqrE x s)]) ∧ w' = w := by
  have K1 := fun W => times_any x x W
  have K2 := fun W => times_any (x * x) s W
  rcases mulE_two x x with h | h
  · rw [show sqrE x s = mulE (x * x) s by simp [sqrE, h], show sqrV x s = mulV (x * x) s by simp [sqrV, sqrE, mulV, h]]
    rw [show mulV x x = x * x by simp [mulV, h], h] at K1
    clear h
    obtain ⟨r, hr⟩ : ∃ r, x * x = r := ⟨_, rfl⟩
    rw [hr] at K1 K2 ⊢
    obtain ⟨p, hp⟩ : ∃ p, mulV r s = p := ⟨_, rfl⟩
    obtain ⟨q, hq⟩ : ∃ q, mulE r s = q := ⟨_, rfl⟩
    rw [hp, hq] at K2 ⊢
    clear hr hp hq
    go_enter Tryd.func54, Tryd.ntmps54
    go_wp2_with (first | (go_at_call 50; refine (K1 _).mono ?_; clear K1; rintro e w1 ⟨rfl, rfl⟩) | (go_at_call 50; refine (K2 _).mono ?_; rintro e w1 ⟨rfl, rfl⟩))
    exact bodyPost_ret (results_tmp2 rfl _ _ _) rfl ⟨rfl, rfl⟩
  · rw [show sqrE x s = 10 by simp [sqrE, h], show sqrV x s = 0 by simp [sqrV, sqrE, h]]
    rw [show mulV x x = 0 by simp [mulV, h], h] at K1
    clear h K2
    go_enter Tryd.func54, Tryd.ntmps54
    go_wp2_with (go_at_call 50; refine (K1 _).mono ?_; clear K1; rintro e w1 ⟨rfl, rfl⟩)
    exact bodyPost_ret (results_tmp2 rfl _ _ _) rfl ⟨rfl, rfl⟩
end Go.Proofs.YtiigmohnmkgfoaaDoor
