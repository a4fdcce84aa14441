/-
  Package reg: what Fit and Out return, and the document's own answers for them.
-/
import Derived.Test.YtifkkkfejbgifaaA1
namespace Go.Proofs.Ytifkkkfejbgifaa
open Go.ChangeShapes Go.WideShapes Go.ChangeAt Go.RowKit
set_option linter.unusedVariables false
set_option linter.unusedSimpArgs false

theorem fit_rng {v p f a b : Int} (h : fitB v p f a b = true) : -2147483647 ≤ f ∧ f ≤ 2147483647 := by
  unfold fitB zeroB lineB rngB at h
  simp at h
  omega
set_option maxRecDepth 100000 in
set_option maxHeartbeats 1000000 in
theorem rfit_any (v p f a b : Int) (w : World) : Calls Try.prog 34 #[rg v p f, .int .i64 a, .int .i64 b] w fun e w' => e = .returned (.bool (fitB v p f a b)) ∧ Below w.heap.size w w' := by
  cases ha : nodeB a with
  | false =>
    go_enter Try.func34, Try.ntmps34
    go_wp2_with (first | (go_at_call_of 38 a; refine (rnode_any a _).mono ?_; rintro e wx ⟨rfl, hw⟩; rw [hw, ha]; clear hw wx))
    all_goals
      go_ret
      exact ⟨ret_bool (by first | (simp [fitB, edgeB, ha]; done) | (simp [fitB, edgeB, ha]; omega)), by go_grown⟩
  | true =>
    cases hb : nodeB b with
    | false =>
      go_enter Try.func34, Try.ntmps34
      go_wp2_with (first | (go_at_call_of 38 a; refine (rnode_any a _).mono ?_; rintro e wx ⟨rfl, hw⟩; rw [hw, ha]; clear hw wx) | (go_at_call_of 38 b; refine (rnode_any b _).mono ?_; rintro e wx ⟨rfl, hw⟩; rw [hw, hb]; clear hw wx))
      all_goals
        go_ret
        exact ⟨ret_bool (by first | (simp [fitB, edgeB, ha, hb]; done) | (simp [fitB, edgeB, ha, hb]; omega)), by go_grown⟩
    | true =>
      by_cases hab : a = b
      · have hab' : (a == b) = true := by simp [hab]
        have HAB : Hid (a = b) := hab
        clear hab
        go_enter Try.func34, Try.ntmps34
        go_wp2_with (first | (go_at_call_of 38 a; refine (rnode_any a _).mono ?_; rintro e wx ⟨rfl, hw⟩; rw [hw, ha]; clear hw wx) | (go_at_call_of 38 b; refine (rnode_any b _).mono ?_; rintro e wx ⟨rfl, hw⟩; rw [hw, hb]; clear hw wx))
        all_goals
          go_ret
          exact ⟨ret_bool (by first | (simp [fitB, edgeB, HAB.out]; done) | (simp [fitB, edgeB, HAB.out]; omega)), by go_grown⟩
      · by_cases hv : v = 0
        · subst hv
          by_cases hp : p = 0
          · subst hp
            by_cases hf : f = 0
            · subst hf
              go_enter Try.func34, Try.ntmps34
              go_wp2_with (first | (go_at_call_of 38 a; refine (rnode_any a _).mono ?_; rintro e wx ⟨rfl, hw⟩; rw [hw, ha]; clear hw wx) | (go_at_call_of 38 b; refine (rnode_any b _).mono ?_; rintro e wx ⟨rfl, hw⟩; rw [hw, hb]; clear hw wx))
              all_goals
                go_ret
                exact ⟨ret_bool (by first | (simp [fitB, edgeB, ha, hb, hab, zeroB]; done) | (simp [fitB, edgeB, ha, hb, hab, zeroB]; omega)), by go_grown⟩
            ·
              go_enter Try.func34, Try.ntmps34
              go_wp2_with (first | (go_at_call_of 38 a; refine (rnode_any a _).mono ?_; rintro e wx ⟨rfl, hw⟩; rw [hw, ha]; clear hw wx) | (go_at_call_of 38 b; refine (rnode_any b _).mono ?_; rintro e wx ⟨rfl, hw⟩; rw [hw, hb]; clear hw wx))
              all_goals
                go_ret
                exact ⟨ret_bool (by first | (simp [fitB, edgeB, ha, hb, zeroB, lineB, hf]; done) | (simp [fitB, edgeB, ha, hb, zeroB, lineB, hf]; omega)), by go_grown⟩
          ·
            go_enter Try.func34, Try.ntmps34
            go_wp2_with (first | (go_at_call_of 38 a; refine (rnode_any a _).mono ?_; rintro e wx ⟨rfl, hw⟩; rw [hw, ha]; clear hw wx) | (go_at_call_of 38 b; refine (rnode_any b _).mono ?_; rintro e wx ⟨rfl, hw⟩; rw [hw, hb]; clear hw wx))
            all_goals
              go_ret
              exact ⟨ret_bool (by first | (simp [fitB, edgeB, ha, hb, zeroB, lineB, hp]; done) | (simp [fitB, edgeB, ha, hb, zeroB, lineB, hp]; omega)), by go_grown⟩
        · by_cases h1 : 1 ≤ v
          · by_cases h2 : v ≤ 1099511627776
            · by_cases h3 : -2147483647 ≤ f
              · by_cases h4 : f ≤ 2147483647
                · by_cases h5 : p = a
                  · subst h5
                    go_enter Try.func34, Try.ntmps34
                    go_wp2_with (first | (go_at_call_of 38 p; refine (rnode_any p _).mono ?_; rintro e wx ⟨rfl, hw⟩; rw [hw, ha]; clear hw wx) | (go_at_call_of 38 b; refine (rnode_any b _).mono ?_; rintro e wx ⟨rfl, hw⟩; rw [hw, hb]; clear hw wx))
                    all_goals
                      go_ret
                      exact ⟨ret_bool (by first | (simp [fitB, edgeB, ha, hb, hab, zeroB, lineB, hv, endB, rngB, h1, h2, h3, h4]; done) | (simp [fitB, edgeB, ha, hb, hab, zeroB, lineB, hv, endB, rngB, h1, h2, h3, h4]; omega)), by go_grown⟩
                  · by_cases h6 : p = b
                    · subst h6
                      go_enter Try.func34, Try.ntmps34
                      go_wp2_with (first | (go_at_call_of 38 a; refine (rnode_any a _).mono ?_; rintro e wx ⟨rfl, hw⟩; rw [hw, ha]; clear hw wx) | (go_at_call_of 38 p; refine (rnode_any p _).mono ?_; rintro e wx ⟨rfl, hw⟩; rw [hw, hb]; clear hw wx))
                      all_goals
                        go_ret
                        exact ⟨ret_bool (by first | (simp [fitB, edgeB, ha, hb, hab, zeroB, lineB, hv, endB, rngB, h1, h2, h3, h4]; done) | (simp [fitB, edgeB, ha, hb, hab, zeroB, lineB, hv, endB, rngB, h1, h2, h3, h4]; omega)), by go_grown⟩
                    ·
                      go_enter Try.func34, Try.ntmps34
                      go_wp2_with (first | (go_at_call_of 38 a; refine (rnode_any a _).mono ?_; rintro e wx ⟨rfl, hw⟩; rw [hw, ha]; clear hw wx) | (go_at_call_of 38 b; refine (rnode_any b _).mono ?_; rintro e wx ⟨rfl, hw⟩; rw [hw, hb]; clear hw wx))
                      all_goals
                        go_ret
                        exact ⟨ret_bool (by first | (simp [fitB, edgeB, ha, hb, hab, zeroB, lineB, hv, endB, rngB, h1, h2, h3, h4, h5, h6]; done) | (simp [fitB, edgeB, ha, hb, hab, zeroB, lineB, hv, endB, rngB, h1, h2, h3, h4, h5, h6]; omega)), by go_grown⟩
                ·
                  go_enter Try.func34, Try.ntmps34
                  go_wp2_with (first | (go_at_call_of 38 a; refine (rnode_any a _).mono ?_; rintro e wx ⟨rfl, hw⟩; rw [hw, ha]; clear hw wx) | (go_at_call_of 38 b; refine (rnode_any b _).mono ?_; rintro e wx ⟨rfl, hw⟩; rw [hw, hb]; clear hw wx))
                  all_goals
                    go_ret
                    exact ⟨ret_bool (by first | (simp [fitB, edgeB, ha, hb, hab, zeroB, lineB, hv, endB, rngB, h1, h2, h3, h4]; done) | (simp [fitB, edgeB, ha, hb, hab, zeroB, lineB, hv, endB, rngB, h1, h2, h3, h4]; omega)), by go_grown⟩
              ·
                go_enter Try.func34, Try.ntmps34
                go_wp2_with (first | (go_at_call_of 38 a; refine (rnode_any a _).mono ?_; rintro e wx ⟨rfl, hw⟩; rw [hw, ha]; clear hw wx) | (go_at_call_of 38 b; refine (rnode_any b _).mono ?_; rintro e wx ⟨rfl, hw⟩; rw [hw, hb]; clear hw wx))
                all_goals
                  go_ret
                  exact ⟨ret_bool (by first | (simp [fitB, edgeB, ha, hb, hab, zeroB, lineB, hv, endB, rngB, h1, h2, h3]; done) | (simp [fitB, edgeB, ha, hb, hab, zeroB, lineB, hv, endB, rngB, h1, h2, h3]; omega)), by go_grown⟩
            ·
              go_enter Try.func34, Try.ntmps34
              go_wp2_with (first | (go_at_call_of 38 a; refine (rnode_any a _).mono ?_; rintro e wx ⟨rfl, hw⟩; rw [hw, ha]; clear hw wx) | (go_at_call_of 38 b; refine (rnode_any b _).mono ?_; rintro e wx ⟨rfl, hw⟩; rw [hw, hb]; clear hw wx))
              all_goals
                go_ret
                exact ⟨ret_bool (by first | (simp [fitB, edgeB, ha, hb, hab, zeroB, lineB, hv, endB, rngB, h1, h2]; done) | (simp [fitB, edgeB, ha, hb, hab, zeroB, lineB, hv, endB, rngB, h1, h2]; omega)), by go_grown⟩
          ·
            go_enter Try.func34, Try.ntmps34
            go_wp2_with (first | (go_at_call_of 38 a; refine (rnode_any a _).mono ?_; rintro e wx ⟨rfl, hw⟩; rw [hw, ha]; clear hw wx) | (go_at_call_of 38 b; refine (rnode_any b _).mono ?_; rintro e wx ⟨rfl, hw⟩; rw [hw, hb]; clear hw wx))
            all_goals
              go_ret
              exact ⟨ret_bool (by first | (simp [fitB, edgeB, ha, hb, hab, zeroB, lineB, hv, endB, rngB, h1]; done) | (simp [fitB, edgeB, ha, hb, hab, zeroB, lineB, hv, endB, rngB, h1]; omega)), by go_grown⟩
def outZ (v p f a b : Int) : Int := if fitB v p f a b = true then alongZ f a b else 0
end Go.Proofs.Ytifkkkfejbgifaa
