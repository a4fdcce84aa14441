/-
  Package derive: what the document's own Input tells.
-/
import Derived.Test.YtiigmohnmkgfoaaDoorDA
namespace Go.Proofs.YtiigmohnmkgfoaaDoor
open Go.ChangeShapes Go.WideShapes Go.ChangeAt Go.RowKit
set_option linter.unusedVariables false
set_option linter.unusedSimpArgs false


theorem rscale1_any (s : Int) (w : World) : Calls Tryd.prog 31 #[.int .i64 1, .int .i64 s] w fun e w' => e = .returned (.bool (scB s 1048576)) ∧ w' = w := by
  by_cases h1 : 1 ≤ s
  · by_cases h2 : s ≤ 1048576
    · go_enter Tryd.func31, Tryd.ntmps31
      go_wp2
      go_ret
      exact ⟨ret_bool (by simp [scB]; omega), rfl⟩
    · go_enter Tryd.func31, Tryd.ntmps31
      go_wp2
      go_ret
      exact ⟨ret_bool (by simp [scB]; omega), rfl⟩
  · go_enter Tryd.func31, Tryd.ntmps31
    go_wp2
    go_ret
    exact ⟨ret_bool (by simp [scB]; omega), rfl⟩

theorem rscale2_any (s : Int) (w : World) : Calls Tryd.prog 31 #[.int .i64 2, .int .i64 s] w fun e w' => e = .returned (.bool (scB s 1048576)) ∧ w' = w := by
  by_cases h1 : 1 ≤ s
  · by_cases h2 : s ≤ 1048576
    · go_enter Tryd.func31, Tryd.ntmps31
      go_wp2
      go_ret
      exact ⟨ret_bool (by simp [scB]; omega), rfl⟩
    · go_enter Tryd.func31, Tryd.ntmps31
      go_wp2
      go_ret
      exact ⟨ret_bool (by simp [scB]; omega), rfl⟩
  · go_enter Tryd.func31, Tryd.ntmps31
    go_wp2
    go_ret
    exact ⟨ret_bool (by simp [scB]; omega), rfl⟩

theorem rscale3_any (s : Int) (w : World) : Calls Tryd.prog 31 #[.int .i64 3, .int .i64 s] w fun e w' => e = .returned (.bool (scB s 1048576)) ∧ w' = w := by
  by_cases h1 : 1 ≤ s
  · by_cases h2 : s ≤ 1048576
    · go_enter Tryd.func31, Tryd.ntmps31
      go_wp2
      go_ret
      exact ⟨ret_bool (by simp [scB]; omega), rfl⟩
    · go_enter Tryd.func31, Tryd.ntmps31
      go_wp2
      go_ret
      exact ⟨ret_bool (by simp [scB]; omega), rfl⟩
  · go_enter Tryd.func31, Tryd.ntmps31
    go_wp2
    go_ret
    exact ⟨ret_bool (by simp [scB]; omega), rfl⟩

theorem rscale4_any (s : Int) (w : World) : Calls Tryd.prog 31 #[.int .i64 4, .int .i64 s] w fun e w' => e = .returned (.bool (scB s 1)) ∧ w' = w := by
  by_cases h1 : 1 ≤ s
  · by_cases h2 : s ≤ 1048576
    · by_cases h3 : s = 1
      · subst h3
        go_enter Tryd.func31, Tryd.ntmps31
        go_wp2
        go_ret
        exact ⟨ret_bool (by simp [scB]), rfl⟩
      · have f3 : (s == 1) = false := by simp [h3]
        go_enter Tryd.func31, Tryd.ntmps31
        go_wp2
        go_ret
        exact ⟨ret_bool (by simp [scB]; omega), rfl⟩
    · go_enter Tryd.func31, Tryd.ntmps31
      go_wp2
      go_ret
      exact ⟨ret_bool (by simp [scB]; omega), rfl⟩
  · go_enter Tryd.func31, Tryd.ntmps31
    go_wp2
    go_ret
    exact ⟨ret_bool (by simp [scB]; omega), rfl⟩
theorem fit_scale {s : Int} (h : scB s 1048576 = true) : fitB s = true := by
  have := scB_t h
  unfold fitB
  exact decide_eq_true (by omega)
theorem mul_wrapS {a b : Int} (h : fitB a = true) (k : fitB b = true) : IntKind.i64.wrap (a * b) = a * b := mul_wrap h k

set_option maxRecDepth 100000 in
theorem rinS1 (x s : Int) (w : World) (hs : scB s 1048576 = false) : Calls Tryd.prog 13 #[.int .i64 1, .int .i64 x, .int .i64 s] w fun e w' => e = .returned (.tuple #[.int .i64 0, .int .i64 47]) ∧ w' = w := by
  have KS := fun W => rscale1_any s W
  rw [hs] at KS
  clear hs
  go_enter Tryd.func13, Tryd.ntmps13
  go_wp2_with (go_at_call 31; refine (KS _).mono ?_; rintro e wx ⟨rfl, hwx⟩; rw [hwx]; clear hwx wx)
  exact bodyPost_ret (results_tmp2 rfl _ _ _) rfl ⟨rfl, rfl⟩

set_option maxRecDepth 100000 in
theorem rinS2 (x s : Int) (w : World) (hs : scB s 1048576 = false) : Calls Tryd.prog 13 #[.int .i64 2, .int .i64 x, .int .i64 s] w fun e w' => e = .returned (.tuple #[.int .i64 0, .int .i64 47]) ∧ w' = w := by
  have KS := fun W => rscale2_any s W
  rw [hs] at KS
  clear hs
  go_enter Tryd.func13, Tryd.ntmps13
  go_wp2_with (go_at_call 31; refine (KS _).mono ?_; rintro e wx ⟨rfl, hwx⟩; rw [hwx]; clear hwx wx)
  exact bodyPost_ret (results_tmp2 rfl _ _ _) rfl ⟨rfl, rfl⟩

set_option maxRecDepth 100000 in
theorem rinS3 (x s : Int) (w : World) (hs : scB s 1048576 = false) : Calls Tryd.prog 13 #[.int .i64 3, .int .i64 x, .int .i64 s] w fun e w' => e = .returned (.tuple #[.int .i64 0, .int .i64 47]) ∧ w' = w := by
  have KS := fun W => rscale3_any s W
  rw [hs] at KS
  clear hs
  go_enter Tryd.func13, Tryd.ntmps13
  go_wp2_with (go_at_call 31; refine (KS _).mono ?_; rintro e wx ⟨rfl, hwx⟩; rw [hwx]; clear hwx wx)
  exact bodyPost_ret (results_tmp2 rfl _ _ _) rfl ⟨rfl, rfl⟩

set_option maxRecDepth 100000 in
theorem rinS4 (x s : Int) (w : World) (hs : scB s 1 = false) : Calls Tryd.prog 13 #[.int .i64 4, .int .i64 x, .int .i64 s] w fun e w' => e = .returned (.tuple #[.int .i64 0, .int .i64 47]) ∧ w' = w := by
  have KS := fun W => rscale4_any s W
  rw [hs] at KS
  clear hs
  go_enter Tryd.func13, Tryd.ntmps13
  go_wp2_with (go_at_call 31; refine (KS _).mono ?_; rintro e wx ⟨rfl, hwx⟩; rw [hwx]; clear hwx wx)
  exact bodyPost_ret (results_tmp2 rfl _ _ _) rfl ⟨rfl, rfl⟩

set_option maxRecDepth 100000 in
theorem rinU2 (x s : Int) (w : World) (hs : scB s 1048576 = true) (f0 : (x != 0) = true) (f1 : (x != 1) = true) : Calls Tryd.prog 13 #[.int .i64 2, .int .i64 x, .int .i64 s] w fun e w' => e = .returned (.tuple #[.int .i64 0, .int .i64 49]) ∧ w' = w := by
  have KS := fun W => rscale2_any s W
  rw [hs] at KS
  clear hs
  go_enter Tryd.func13, Tryd.ntmps13
  go_wp2_with (go_at_call 31; refine (KS _).mono ?_; rintro e wx ⟨rfl, hwx⟩; rw [hwx]; clear hwx wx)
  exact bodyPost_ret (results_tmp2 rfl _ _ _) rfl ⟨rfl, rfl⟩

set_option maxRecDepth 100000 in
theorem rinF1 (x s : Int) (w : World) (hs : scB s 1048576 = true) (hf : fitB x = false) : Calls Tryd.prog 13 #[.int .i64 1, .int .i64 x, .int .i64 s] w fun e w' => e = .returned (.tuple #[.int .i64 0, .int .i64 10]) ∧ w' = w := by
  have KS := fun W => rscale1_any s W
  have KF := fun W => rfits_any x W
  rw [hs] at KS
  rw [hf] at KF
  clear hs hf
  go_enter Tryd.func13, Tryd.ntmps13
  go_wp2_with (first
    | (go_at_call 31; refine (KS _).mono ?_; rintro e wx ⟨rfl, hwx⟩; rw [hwx]; clear hwx wx)
    | (go_at_call 26; refine (KF _).mono ?_; clear KF; rintro e wx ⟨rfl, hwx⟩; rw [hwx]; clear hwx wx))
  exact bodyPost_ret (results_tmp2 rfl _ _ _) rfl ⟨rfl, rfl⟩

set_option maxRecDepth 100000 in
theorem rinF2a (x s : Int) (w : World) (hs : scB s 1048576 = true) (f0 : (x != 0) = false) (hf : fitB x = false) : Calls Tryd.prog 13 #[.int .i64 2, .int .i64 x, .int .i64 s] w fun e w' => e = .returned (.tuple #[.int .i64 0, .int .i64 10]) ∧ w' = w := by
  have KS := fun W => rscale2_any s W
  have KF := fun W => rfits_any x W
  rw [hs] at KS
  rw [hf] at KF
  clear hs hf
  go_enter Tryd.func13, Tryd.ntmps13
  go_wp2_with (first
    | (go_at_call 31; refine (KS _).mono ?_; rintro e wx ⟨rfl, hwx⟩; rw [hwx]; clear hwx wx)
    | (go_at_call 26; refine (KF _).mono ?_; clear KF; rintro e wx ⟨rfl, hwx⟩; rw [hwx]; clear hwx wx))
  exact bodyPost_ret (results_tmp2 rfl _ _ _) rfl ⟨rfl, rfl⟩

set_option maxRecDepth 100000 in
theorem rinF2b (x s : Int) (w : World) (hs : scB s 1048576 = true) (f0 : (x != 0) = true) (f1 : (x != 1) = false) (hf : fitB x = false) : Calls Tryd.prog 13 #[.int .i64 2, .int .i64 x, .int .i64 s] w fun e w' => e = .returned (.tuple #[.int .i64 0, .int .i64 10]) ∧ w' = w := by
  have KS := fun W => rscale2_any s W
  have KF := fun W => rfits_any x W
  rw [hs] at KS
  rw [hf] at KF
  clear hs hf
  go_enter Tryd.func13, Tryd.ntmps13
  go_wp2_with (first
    | (go_at_call 31; refine (KS _).mono ?_; rintro e wx ⟨rfl, hwx⟩; rw [hwx]; clear hwx wx)
    | (go_at_call 26; refine (KF _).mono ?_; clear KF; rintro e wx ⟨rfl, hwx⟩; rw [hwx]; clear hwx wx))
  exact bodyPost_ret (results_tmp2 rfl _ _ _) rfl ⟨rfl, rfl⟩

set_option maxRecDepth 100000 in
theorem rinF3 (x s : Int) (w : World) (hs : scB s 1048576 = true) (hf : fitB x = false) : Calls Tryd.prog 13 #[.int .i64 3, .int .i64 x, .int .i64 s] w fun e w' => e = .returned (.tuple #[.int .i64 0, .int .i64 10]) ∧ w' = w := by
  have KS := fun W => rscale3_any s W
  have KF := fun W => rfits_any x W
  rw [hs] at KS
  rw [hf] at KF
  clear hs hf
  go_enter Tryd.func13, Tryd.ntmps13
  go_wp2_with (first
    | (go_at_call 31; refine (KS _).mono ?_; rintro e wx ⟨rfl, hwx⟩; rw [hwx]; clear hwx wx)
    | (go_at_call 26; refine (KF _).mono ?_; clear KF; rintro e wx ⟨rfl, hwx⟩; rw [hwx]; clear hwx wx))
  exact bodyPost_ret (results_tmp2 rfl _ _ _) rfl ⟨rfl, rfl⟩

set_option maxRecDepth 100000 in
theorem rinF4 (x s : Int) (w : World) (hs : scB s 1 = true) (hf : fitB x = false) : Calls Tryd.prog 13 #[.int .i64 4, .int .i64 x, .int .i64 s] w fun e w' => e = .returned (.tuple #[.int .i64 0, .int .i64 10]) ∧ w' = w := by
  have KS := fun W => rscale4_any s W
  have KF := fun W => rfits_any x W
  rw [hs] at KS
  rw [hf] at KF
  clear hs hf
  go_enter Tryd.func13, Tryd.ntmps13
  go_wp2_with (first
    | (go_at_call 31; refine (KS _).mono ?_; rintro e wx ⟨rfl, hwx⟩; rw [hwx]; clear hwx wx)
    | (go_at_call 26; refine (KF _).mono ?_; clear KF; rintro e wx ⟨rfl, hwx⟩; rw [hwx]; clear hwx wx))
  exact bodyPost_ret (results_tmp2 rfl _ _ _) rfl ⟨rfl, rfl⟩

set_option maxRecDepth 100000 in
theorem rinP1f (x s : Int) (w : World) (hs : scB s 1048576 = true) (hf : fitB x = true) (hp : fitB (x * s) = false) : Calls Tryd.prog 13 #[.int .i64 1, .int .i64 x, .int .i64 s] w fun e w' => e = .returned (.tuple #[.int .i64 0, .int .i64 10]) ∧ w' = w := by
  have KS := fun W => rscale1_any s W
  have KF := fun W => rfits_any x W
  have KP := fun W => rfits_any (x * s) W
  have hw := mul_wrap hf (fit_scale hs)
  rw [hs] at KS
  rw [hf] at KF
  rw [hp] at KP
  clear hs hf hp
  obtain ⟨p, hp⟩ : ∃ p, x * s = p := ⟨_, rfl⟩
  rw [hp] at KP hw
  try rw [hp]
  have hwp : IntKind.i64.wrap (x * s) = p := by rw [hp]; exact hw
  clear hp hw
  go_enter Tryd.func13, Tryd.ntmps13
  go_wp2_with (first
    | (go_at_call 31; refine (KS _).mono ?_; rintro e wx ⟨rfl, hwx⟩; rw [hwx]; clear hwx wx)
    | (go_at_call 26; refine (KF _).mono ?_; clear KF; rintro e wx ⟨rfl, hwx⟩; rw [hwx]; clear hwx wx)
    | (go_at_call 26; refine (KP _).mono ?_; clear KP; rintro e wx ⟨rfl, hwx⟩; rw [hwx]; clear hwx wx))
  exact bodyPost_ret (results_tmp2 rfl _ _ _) rfl ⟨rfl, rfl⟩

set_option maxRecDepth 100000 in
theorem rinP1t (x s : Int) (w : World) (hs : scB s 1048576 = true) (hf : fitB x = true) (hp : fitB (x * s) = true) : Calls Tryd.prog 13 #[.int .i64 1, .int .i64 x, .int .i64 s] w fun e w' => e = .returned (.tuple #[.int .i64 (x * s), .int .i64 0]) ∧ w' = w := by
  have KS := fun W => rscale1_any s W
  have KF := fun W => rfits_any x W
  have KP := fun W => rfits_any (x * s) W
  have hw := mul_wrap hf (fit_scale hs)
  rw [hs] at KS
  rw [hf] at KF
  rw [hp] at KP
  clear hs hf hp
  obtain ⟨p, hp⟩ : ∃ p, x * s = p := ⟨_, rfl⟩
  rw [hp] at KP hw
  try rw [hp]
  have hwp : IntKind.i64.wrap (x * s) = p := by rw [hp]; exact hw
  clear hp hw
  go_enter Tryd.func13, Tryd.ntmps13
  go_wp2_with (first
    | (go_at_call 31; refine (KS _).mono ?_; rintro e wx ⟨rfl, hwx⟩; rw [hwx]; clear hwx wx)
    | (go_at_call 26; refine (KF _).mono ?_; clear KF; rintro e wx ⟨rfl, hwx⟩; rw [hwx]; clear hwx wx)
    | (go_at_call 26; refine (KP _).mono ?_; clear KP; rintro e wx ⟨rfl, hwx⟩; rw [hwx]; clear hwx wx))
  exact bodyPost_ret (results_tmp2 rfl _ _ _) rfl ⟨rfl, rfl⟩

set_option maxRecDepth 100000 in
theorem rinP2af (x s : Int) (w : World) (hs : scB s 1048576 = true) (f0 : (x != 0) = false) (hf : fitB x = true) (hp : fitB (x * s) = false) : Calls Tryd.prog 13 #[.int .i64 2, .int .i64 x, .int .i64 s] w fun e w' => e = .returned (.tuple #[.int .i64 0, .int .i64 10]) ∧ w' = w := by
  have KS := fun W => rscale2_any s W
  have KF := fun W => rfits_any x W
  have KP := fun W => rfits_any (x * s) W
  have hw := mul_wrap hf (fit_scale hs)
  rw [hs] at KS
  rw [hf] at KF
  rw [hp] at KP
  clear hs hf hp
  obtain ⟨p, hp⟩ : ∃ p, x * s = p := ⟨_, rfl⟩
  rw [hp] at KP hw
  try rw [hp]
  have hwp : IntKind.i64.wrap (x * s) = p := by rw [hp]; exact hw
  clear hp hw
  go_enter Tryd.func13, Tryd.ntmps13
  go_wp2_with (first
    | (go_at_call 31; refine (KS _).mono ?_; rintro e wx ⟨rfl, hwx⟩; rw [hwx]; clear hwx wx)
    | (go_at_call 26; refine (KF _).mono ?_; clear KF; rintro e wx ⟨rfl, hwx⟩; rw [hwx]; clear hwx wx)
    | (go_at_call 26; refine (KP _).mono ?_; clear KP; rintro e wx ⟨rfl, hwx⟩; rw [hwx]; clear hwx wx))
  exact bodyPost_ret (results_tmp2 rfl _ _ _) rfl ⟨rfl, rfl⟩

set_option maxRecDepth 100000 in
theorem rinP2at (x s : Int) (w : World) (hs : scB s 1048576 = true) (f0 : (x != 0) = false) (hf : fitB x = true) (hp : fitB (x * s) = true) : Calls Tryd.prog 13 #[.int .i64 2, .int .i64 x, .int .i64 s] w fun e w' => e = .returned (.tuple #[.int .i64 (x * s), .int .i64 0]) ∧ w' = w := by
  have KS := fun W => rscale2_any s W
  have KF := fun W => rfits_any x W
  have KP := fun W => rfits_any (x * s) W
  have hw := mul_wrap hf (fit_scale hs)
  rw [hs] at KS
  rw [hf] at KF
  rw [hp] at KP
  clear hs hf hp
  obtain ⟨p, hp⟩ : ∃ p, x * s = p := ⟨_, rfl⟩
  rw [hp] at KP hw
  try rw [hp]
  have hwp : IntKind.i64.wrap (x * s) = p := by rw [hp]; exact hw
  clear hp hw
  go_enter Tryd.func13, Tryd.ntmps13
  go_wp2_with (first
    | (go_at_call 31; refine (KS _).mono ?_; rintro e wx ⟨rfl, hwx⟩; rw [hwx]; clear hwx wx)
    | (go_at_call 26; refine (KF _).mono ?_; clear KF; rintro e wx ⟨rfl, hwx⟩; rw [hwx]; clear hwx wx)
    | (go_at_call 26; refine (KP _).mono ?_; clear KP; rintro e wx ⟨rfl, hwx⟩; rw [hwx]; clear hwx wx))
  exact bodyPost_ret (results_tmp2 rfl _ _ _) rfl ⟨rfl, rfl⟩

set_option maxRecDepth 100000 in
theorem rinP2bf (x s : Int) (w : World) (hs : scB s 1048576 = true) (f0 : (x != 0) = true) (f1 : (x != 1) = false) (hf : fitB x = true) (hp : fitB (x * s) = false) : Calls Tryd.prog 13 #[.int .i64 2, .int .i64 x, .int .i64 s] w fun e w' => e = .returned (.tuple #[.int .i64 0, .int .i64 10]) ∧ w' = w := by
  have KS := fun W => rscale2_any s W
  have KF := fun W => rfits_any x W
  have KP := fun W => rfits_any (x * s) W
  have hw := mul_wrap hf (fit_scale hs)
  rw [hs] at KS
  rw [hf] at KF
  rw [hp] at KP
  clear hs hf hp
  obtain ⟨p, hp⟩ : ∃ p, x * s = p := ⟨_, rfl⟩
  rw [hp] at KP hw
  try rw [hp]
  have hwp : IntKind.i64.wrap (x * s) = p := by rw [hp]; exact hw
  clear hp hw
  go_enter Tryd.func13, Tryd.ntmps13
  go_wp2_with (first
    | (go_at_call 31; refine (KS _).mono ?_; rintro e wx ⟨rfl, hwx⟩; rw [hwx]; clear hwx wx)
    | (go_at_call 26; refine (KF _).mono ?_; clear KF; rintro e wx ⟨rfl, hwx⟩; rw [hwx]; clear hwx wx)
    | (go_at_call 26; refine (KP _).mono ?_; clear KP; rintro e wx ⟨rfl, hwx⟩; rw [hwx]; clear hwx wx))
  exact bodyPost_ret (results_tmp2 rfl _ _ _) rfl ⟨rfl, rfl⟩

set_option maxRecDepth 100000 in
theorem rinP2bt (x s : Int) (w : World) (hs : scB s 1048576 = true) (f0 : (x != 0) = true) (f1 : (x != 1) = false) (hf : fitB x = true) (hp : fitB (x * s) = true) : Calls Tryd.prog 13 #[.int .i64 2, .int .i64 x, .int .i64 s] w fun e w' => e = .returned (.tuple #[.int .i64 (x * s), .int .i64 0]) ∧ w' = w := by
  have KS := fun W => rscale2_any s W
  have KF := fun W => rfits_any x W
  have KP := fun W => rfits_any (x * s) W
  have hw := mul_wrap hf (fit_scale hs)
  rw [hs] at KS
  rw [hf] at KF
  rw [hp] at KP
  clear hs hf hp
  obtain ⟨p, hp⟩ : ∃ p, x * s = p := ⟨_, rfl⟩
  rw [hp] at KP hw
  try rw [hp]
  have hwp : IntKind.i64.wrap (x * s) = p := by rw [hp]; exact hw
  clear hp hw
  go_enter Tryd.func13, Tryd.ntmps13
  go_wp2_with (first
    | (go_at_call 31; refine (KS _).mono ?_; rintro e wx ⟨rfl, hwx⟩; rw [hwx]; clear hwx wx)
    | (go_at_call 26; refine (KF _).mono ?_; clear KF; rintro e wx ⟨rfl, hwx⟩; rw [hwx]; clear hwx wx)
    | (go_at_call 26; refine (KP _).mono ?_; clear KP; rintro e wx ⟨rfl, hwx⟩; rw [hwx]; clear hwx wx))
  exact bodyPost_ret (results_tmp2 rfl _ _ _) rfl ⟨rfl, rfl⟩

set_option maxRecDepth 100000 in
theorem rinQ3 (x s : Int) (w : World) (hs : scB s 1048576 = true) (hf : fitB x = true) (hr : fitB (x * x) = false) : Calls Tryd.prog 13 #[.int .i64 3, .int .i64 x, .int .i64 s] w fun e w' => e = .returned (.tuple #[.int .i64 0, .int .i64 10]) ∧ w' = w := by
  have KS := fun W => rscale3_any s W
  have KF := fun W => rfits_any x W
  have KR := fun W => rfits_any (x * x) W
  have hw := mul_wrap hf hf
  rw [hs] at KS
  rw [hf] at KF
  rw [hr] at KR
  clear hs hf hr
  obtain ⟨r, hr⟩ : ∃ r, x * x = r := ⟨_, rfl⟩
  rw [hr] at KR hw
  have hwr : IntKind.i64.wrap (x * x) = r := by rw [hr]; exact hw
  clear hr hw
  go_enter Tryd.func13, Tryd.ntmps13
  go_wp2_with (first
    | (go_at_call 31; refine (KS _).mono ?_; rintro e wx ⟨rfl, hwx⟩; rw [hwx]; clear hwx wx)
    | (go_at_call 26; refine (KF _).mono ?_; clear KF; rintro e wx ⟨rfl, hwx⟩; rw [hwx]; clear hwx wx)
    | (go_at_call 26; refine (KR _).mono ?_; clear KR; rintro e wx ⟨rfl, hwx⟩; rw [hwx]; clear hwx wx))
  exact bodyPost_ret (results_tmp2 rfl _ _ _) rfl ⟨rfl, rfl⟩

set_option maxRecDepth 100000 in
theorem rinP3f (x s : Int) (w : World) (hs : scB s 1048576 = true) (hf : fitB x = true) (hr : fitB (x * x) = true) (hp : fitB (x * x * s) = false) : Calls Tryd.prog 13 #[.int .i64 3, .int .i64 x, .int .i64 s] w fun e w' => e = .returned (.tuple #[.int .i64 0, .int .i64 10]) ∧ w' = w := by
  have KS := fun W => rscale3_any s W
  have KF := fun W => rfits_any x W
  have KR := fun W => rfits_any (x * x) W
  have KP := fun W => rfits_any (x * x * s) W
  have hw := mul_wrap hf hf
  have hv := mul_wrap hr (fit_scale hs)
  rw [hs] at KS
  rw [hf] at KF
  rw [hr] at KR
  rw [hp] at KP
  clear hs hf hr hp
  obtain ⟨r, hr⟩ : ∃ r, x * x = r := ⟨_, rfl⟩
  rw [hr] at KR hw hv KP
  try rw [hr]
  have hwr : IntKind.i64.wrap (x * x) = r := by rw [hr]; exact hw
  obtain ⟨p, hp⟩ : ∃ p, r * s = p := ⟨_, rfl⟩
  rw [hp] at KP hv
  try rw [hp]
  have hwp : IntKind.i64.wrap (r * s) = p := by rw [hp]; exact hv
  clear hr hw hp hv
  go_enter Tryd.func13, Tryd.ntmps13
  go_wp2_with (first
    | (go_at_call 31; refine (KS _).mono ?_; rintro e wx ⟨rfl, hwx⟩; rw [hwx]; clear hwx wx)
    | (go_at_call 26; refine (KF _).mono ?_; clear KF; rintro e wx ⟨rfl, hwx⟩; rw [hwx]; clear hwx wx)
    | (go_at_call 26; refine (KR _).mono ?_; clear KR; rintro e wx ⟨rfl, hwx⟩; rw [hwx]; clear hwx wx)
    | (go_at_call 26; refine (KP _).mono ?_; clear KP; rintro e wx ⟨rfl, hwx⟩; rw [hwx]; clear hwx wx))
  exact bodyPost_ret (results_tmp2 rfl _ _ _) rfl ⟨rfl, rfl⟩

set_option maxRecDepth 100000 in
theorem rinP3t (x s : Int) (w : World) (hs : scB s 1048576 = true) (hf : fitB x = true) (hr : fitB (x * x) = true) (hp : fitB (x * x * s) = true) : Calls Tryd.prog 13 #[.int .i64 3, .int .i64 x, .int .i64 s] w fun e w' => e = .returned (.tuple #[.int .i64 (x * x * s), .int .i64 0]) ∧ w' = w := by
  have KS := fun W => rscale3_any s W
  have KF := fun W => rfits_any x W
  have KR := fun W => rfits_any (x * x) W
  have KP := fun W => rfits_any (x * x * s) W
  have hw := mul_wrap hf hf
  have hv := mul_wrap hr (fit_scale hs)
  rw [hs] at KS
  rw [hf] at KF
  rw [hr] at KR
  rw [hp] at KP
  clear hs hf hr hp
  obtain ⟨r, hr⟩ : ∃ r, x * x = r := ⟨_, rfl⟩
  rw [hr] at KR hw hv KP
  try rw [hr]
  have hwr : IntKind.i64.wrap (x * x) = r := by rw [hr]; exact hw
  obtain ⟨p, hp⟩ : ∃ p, r * s = p := ⟨_, rfl⟩
  rw [hp] at KP hv
  try rw [hp]
  have hwp : IntKind.i64.wrap (r * s) = p := by rw [hp]; exact hv
  clear hr hw hp hv
  go_enter Tryd.func13, Tryd.ntmps13
  go_wp2_with (first
    | (go_at_call 31; refine (KS _).mono ?_; rintro e wx ⟨rfl, hwx⟩; rw [hwx]; clear hwx wx)
    | (go_at_call 26; refine (KF _).mono ?_; clear KF; rintro e wx ⟨rfl, hwx⟩; rw [hwx]; clear hwx wx)
    | (go_at_call 26; refine (KR _).mono ?_; clear KR; rintro e wx ⟨rfl, hwx⟩; rw [hwx]; clear hwx wx)
    | (go_at_call 26; refine (KP _).mono ?_; clear KP; rintro e wx ⟨rfl, hwx⟩; rw [hwx]; clear hwx wx))
  exact bodyPost_ret (results_tmp2 rfl _ _ _) rfl ⟨rfl, rfl⟩

set_option maxRecDepth 100000 in
theorem rinP4t (x s : Int) (w : World) (hs : scB s 1 = true) (hf : fitB x = true) : Calls Tryd.prog 13 #[.int .i64 4, .int .i64 x, .int .i64 s] w fun e w' => e = .returned (.tuple #[.int .i64 x, .int .i64 0]) ∧ w' = w := by
  have KS := fun W => rscale4_any s W
  have KF := fun W => rfits_any x W
  rw [hs] at KS
  rw [hf] at KF
  clear hs hf
  go_enter Tryd.func13, Tryd.ntmps13
  go_wp2_with (first
    | (go_at_call 31; refine (KS _).mono ?_; rintro e wx ⟨rfl, hwx⟩; rw [hwx]; clear hwx wx)
    | (go_at_call 26; refine (KF _).mono ?_; rintro e wx ⟨rfl, hwx⟩; rw [hwx]; clear hwx wx))
  exact bodyPost_ret (results_tmp2 rfl _ _ _) rfl ⟨rfl, rfl⟩

theorem rinputN_any (k x s : Int) (w : World) (hk : k < 1 ∨ 4 < k) : Calls Tryd.prog 13 #[.int .i64 k, .int .i64 x, .int .i64 s] w fun e w' => e = .returned (.tuple #[.int .i64 0, .int .i64 46]) ∧ w' = w := by
  by_cases h1 : k < 1
  · clear hk
    go_enter Tryd.func13, Tryd.ntmps13
    go_wp2
    exact bodyPost_ret (results_tmp2 rfl _ _ _) rfl ⟨rfl, rfl⟩
  · have h4 : 4 < k := by omega
    clear hk
    go_enter Tryd.func13, Tryd.ntmps13
    go_wp2
    exact bodyPost_ret (results_tmp2 rfl _ _ _) rfl ⟨rfl, rfl⟩

theorem rinput1_any (x s : Int) (w : World) : Calls Tryd.prog 13 #[.int .i64 1, .int .i64 x, .int .i64 s] w fun e w' => e = .returned (.tuple #[.int .i64 (if scB s 1048576 = true then mulV x s else 0), .int .i64 (if scB s 1048576 = true then mulE x s else 47)]) ∧ w' = w := by
  cases hs : scB s 1048576 with
  | false => rw [if_neg (by decide), if_neg (by decide)]; exact rinS1 x s w hs
  | true =>
    rw [if_pos rfl, if_pos rfl]
    have hS := fit_scale hs
    cases hf : fitB x with
    | false => rw [show mulE x s = 10 by simp [mulE, hf], show mulV x s = 0 by simp [mulV, mulE, hf]]; exact rinF1 x s w hs hf
    | true =>
      cases hp : fitB (x * s) with
      | false => rw [show mulE x s = 10 by simp [mulE, hp], show mulV x s = 0 by simp [mulV, mulE, hp]]; exact rinP1f x s w hs hf hp
      | true => rw [show mulE x s = 0 by simp [mulE, hf, hS, hp], show mulV x s = x * s by simp [mulV, mulE, hf, hS, hp]]; exact rinP1t x s w hs hf hp

theorem rinput2_any (x s : Int) (w : World) : Calls Tryd.prog 13 #[.int .i64 2, .int .i64 x, .int .i64 s] w fun e w' => e = .returned (.tuple #[.int .i64 (if scB s 1048576 = true then uniV x s else 0), .int .i64 (if scB s 1048576 = true then uniE x s else 47)]) ∧ w' = w := by
  cases hs : scB s 1048576 with
  | false => rw [if_neg (by decide), if_neg (by decide)]; exact rinS2 x s w hs
  | true =>
    rw [if_pos rfl, if_pos rfl]
    by_cases h0 : x = 0
    · have f0 : (x != 0) = false := by simp [h0]
      rw [show uniE x s = mulE x s by simp [uniE, h0], show uniV x s = mulV x s by simp [uniV, uniE, mulV, h0]]
      have hS := fit_scale hs
      cases hf : fitB x with
      | false => rw [show mulE x s = 10 by simp [mulE, hf], show mulV x s = 0 by simp [mulV, mulE, hf]]; exact rinF2a x s w hs f0 hf
      | true =>
        cases hp : fitB (x * s) with
        | false => rw [show mulE x s = 10 by simp [mulE, hp], show mulV x s = 0 by simp [mulV, mulE, hp]]; exact rinP2af x s w hs f0 hf hp
        | true => rw [show mulE x s = 0 by simp [mulE, hf, hS, hp], show mulV x s = x * s by simp [mulV, mulE, hf, hS, hp]]; exact rinP2at x s w hs f0 hf hp
    · have f0 : (x != 0) = true := by simp [h0]
      by_cases h1 : x = 1
      · have f1 : (x != 1) = false := by simp [h1]
        rw [show uniE x s = mulE x s by simp [uniE, h1], show uniV x s = mulV x s by simp [uniV, uniE, mulV, h1]]
        have hS := fit_scale hs
        cases hf : fitB x with
        | false => rw [show mulE x s = 10 by simp [mulE, hf], show mulV x s = 0 by simp [mulV, mulE, hf]]; exact rinF2b x s w hs f0 f1 hf
        | true =>
          cases hp : fitB (x * s) with
          | false => rw [show mulE x s = 10 by simp [mulE, hp], show mulV x s = 0 by simp [mulV, mulE, hp]]; exact rinP2bf x s w hs f0 f1 hf hp
          | true => rw [show mulE x s = 0 by simp [mulE, hf, hS, hp], show mulV x s = x * s by simp [mulV, mulE, hf, hS, hp]]; exact rinP2bt x s w hs f0 f1 hf hp
      · have f1 : (x != 1) = true := by simp [h1]
        rw [show uniE x s = 49 by simp [uniE, h0, h1], show uniV x s = 0 by simp [uniV, uniE, h0, h1]]
        exact rinU2 x s w hs f0 f1

theorem rinput3_any (x s : Int) (w : World) : Calls Tryd.prog 13 #[.int .i64 3, .int .i64 x, .int .i64 s] w fun e w' => e = .returned (.tuple #[.int .i64 (if scB s 1048576 = true then sqrV x s else 0), .int .i64 (if scB s 1048576 = true then sqrE x s else 47)]) ∧ w' = w := by
  cases hs : scB s 1048576 with
  | false => rw [if_neg (by decide), if_neg (by decide)]; exact rinS3 x s w hs
  | true =>
    rw [if_pos rfl, if_pos rfl]
    have hS := fit_scale hs
    cases hf : fitB x with
    | false => rw [show sqrE x s = 10 by simp [sqrE, mulE, hf], show sqrV x s = 0 by simp [sqrV, sqrE, mulE, hf]]; exact rinF3 x s w hs hf
    | true =>
      cases hr : fitB (x * x) with
      | false => rw [show sqrE x s = 10 by simp [sqrE, mulE, hf, hr], show sqrV x s = 0 by simp [sqrV, sqrE, mulE, hf, hr]]; exact rinQ3 x s w hs hf hr
      | true =>
        cases hp : fitB (x * x * s) with
        | false => rw [show sqrE x s = 10 by simp [sqrE, mulE, hf, hr, hp], show sqrV x s = 0 by simp [sqrV, sqrE, mulE, hf, hr, hp]]; exact rinP3f x s w hs hf hr hp
        | true => rw [show sqrE x s = 0 by simp [sqrE, mulE, hf, hr, hS, hp], show sqrV x s = x * x * s by simp [sqrV, sqrE, mulE, hf, hr, hS, hp]]; exact rinP3t x s w hs hf hr hp

theorem rinput4_any (x s : Int) (w : World) : Calls Tryd.prog 13 #[.int .i64 4, .int .i64 x, .int .i64 s] w fun e w' => e = .returned (.tuple #[.int .i64 (if scB s 1 = true then mulV x s else 0), .int .i64 (if scB s 1 = true then mulE x s else 47)]) ∧ w' = w := by
  cases hs : scB s 1 with
  | false => rw [if_neg (by decide), if_neg (by decide)]; exact rinS4 x s w hs
  | true =>
    rw [if_pos rfl, if_pos rfl]
    have h1 : s = 1 := by have := scB_t hs; omega
    have hS : fitB 1 = true := by decide
    cases hf : fitB x with
    | false => rw [show mulE x s = 10 by simp [mulE, hf], show mulV x s = 0 by simp [mulV, mulE, hf]]; exact rinF4 x s w hs hf
    | true => rw [show mulE x s = 0 by simp [mulE, h1, hf, hS], show mulV x s = x by simp [mulV, mulE, h1, hf, hS]]; exact rinP4t x s w hs hf
end Go.Proofs.YtiigmohnmkgfoaaDoor
