/-
  Package reg: what Fit and Out return, and the document's own answers for them.
-/
import Derived.Test.YtcjdfnfaiocdjaaR1
namespace Go.Proofs.Ytcjdfnfaiocdjaa
open Go.ChangeShapes Go.WideShapes Go.ChangeAt Go.RowKit
set_option linter.unusedVariables false
set_option linter.unusedSimpArgs false

theorem fit_rng {v p f a b : Int} (h : fitB v p f a b = true) : -2147483647 ≤ f ∧ f ≤ 2147483647 := by
  unfold fitB zeroB lineB rngB at h
  simp at h
  omega
set_option maxRecDepth 100000 in
set_option maxHeartbeats 1000000 in
theorem fit_any (v p f a b : Int) (w : World) : Calls Try.prog 19 #[rg v p f, .int .i64 a, .int .i64 b] w fun e w' => e = .returned (.bool (fitB v p f a b)) ∧ Below w.heap.size w w' := by
  cases he : edgeB a b with
  | false =>
    go_enter Try.func19, Try.ntmps19
    go_wp2_with (first | (go_at_call 33; refine (edge_any a b _).mono ?_; rintro e wx ⟨rfl, hw⟩; rw [hw, he]; clear hw wx))
    all_goals
      go_ret
      exact ⟨ret_bool (by first | (simp [fitB, he]; done) | (simp [fitB, he]; omega)), by go_grown⟩
  | true =>
    by_cases hv : v = 0
    · subst hv
      by_cases hp : p = 0
      · subst hp
        by_cases hf : f = 0
        · subst hf
          go_enter Try.func19, Try.ntmps19
          go_wp2_with (first | (go_at_call 33; refine (edge_any a b _).mono ?_; rintro e wx ⟨rfl, hw⟩; rw [hw, he]; clear hw wx))
          all_goals
            go_ret
            exact ⟨ret_bool (by first | (simp [fitB, he, zeroB]; done) | (simp [fitB, he, zeroB]; omega)), by go_grown⟩
        ·
          go_enter Try.func19, Try.ntmps19
          go_wp2_with (first | (go_at_call 33; refine (edge_any a b _).mono ?_; rintro e wx ⟨rfl, hw⟩; rw [hw, he]; clear hw wx))
          all_goals
            go_ret
            exact ⟨ret_bool (by first | (simp [fitB, he, zeroB, lineB, hf]; done) | (simp [fitB, he, zeroB, lineB, hf]; omega)), by go_grown⟩
      ·
        go_enter Try.func19, Try.ntmps19
        go_wp2_with (first | (go_at_call 33; refine (edge_any a b _).mono ?_; rintro e wx ⟨rfl, hw⟩; rw [hw, he]; clear hw wx))
        all_goals
          go_ret
          exact ⟨ret_bool (by first | (simp [fitB, he, zeroB, lineB, hp]; done) | (simp [fitB, he, zeroB, lineB, hp]; omega)), by go_grown⟩
    · by_cases h1 : 1 ≤ v
      · by_cases h2 : v ≤ 1099511627776
        · cases hd : endB p a b with
          | false =>
            go_enter Try.func19, Try.ntmps19
            go_wp2_with (first | (go_at_call 33; refine (edge_any a b _).mono ?_; rintro e wx ⟨rfl, hw⟩; rw [hw, he]; clear hw wx) | (go_at_call 34; refine (end_any p a b _).mono ?_; rintro e wx ⟨rfl, hw⟩; rw [hw, hd]; clear hw wx))
            all_goals
              go_ret
              exact ⟨ret_bool (by first | (simp [fitB, he, zeroB, lineB, hv, hd]; done) | (simp [fitB, he, zeroB, lineB, hv, hd]; omega)), by go_grown⟩
          | true =>
            go_enter Try.func19, Try.ntmps19
            go_wp2_with (first | (go_at_call 33; refine (edge_any a b _).mono ?_; rintro e wx ⟨rfl, hw⟩; rw [hw, he]; clear hw wx) | (go_at_call 34; refine (end_any p a b _).mono ?_; rintro e wx ⟨rfl, hw⟩; rw [hw, hd]; clear hw wx) | (go_at_call 35; refine (rng_any f _).mono ?_; rintro e wx ⟨rfl, hw⟩; rw [hw]; clear hw wx))
            all_goals
              go_ret
              exact ⟨ret_bool (by first | (simp [fitB, he, zeroB, lineB, hv, hd, h1, h2]; done) | (simp [fitB, he, zeroB, lineB, hv, hd, h1, h2]; omega)), by go_grown⟩
        ·
          go_enter Try.func19, Try.ntmps19
          go_wp2_with (first | (go_at_call 33; refine (edge_any a b _).mono ?_; rintro e wx ⟨rfl, hw⟩; rw [hw, he]; clear hw wx))
          all_goals
            go_ret
            exact ⟨ret_bool (by first | (simp [fitB, he, zeroB, lineB, hv, h1, h2]; done) | (simp [fitB, he, zeroB, lineB, hv, h1, h2]; omega)), by go_grown⟩
      ·
        go_enter Try.func19, Try.ntmps19
        go_wp2_with (first | (go_at_call 33; refine (edge_any a b _).mono ?_; rintro e wx ⟨rfl, hw⟩; rw [hw, he]; clear hw wx))
        all_goals
          go_ret
          exact ⟨ret_bool (by first | (simp [fitB, he, zeroB, lineB, hv, h1]; done) | (simp [fitB, he, zeroB, lineB, hv, h1]; omega)), by go_grown⟩
set_option maxRecDepth 100000 in
set_option maxHeartbeats 1000000 in
theorem rfit_any (v p f a b : Int) (w : World) : Calls Try.prog 22 #[rg v p f, .int .i64 a, .int .i64 b] w fun e w' => e = .returned (.bool (fitB v p f a b)) ∧ Below w.heap.size w w' := by
  cases ha : nodeB a with
  | false =>
    go_enter Try.func22, Try.ntmps22
    go_wp2_with (first | (go_at_call_of 40 a; refine (rnode_any a _).mono ?_; rintro e wx ⟨rfl, hw⟩; rw [hw, ha]; clear hw wx))
    all_goals
      go_ret
      exact ⟨ret_bool (by first | (simp [fitB, edgeB, ha]; done) | (simp [fitB, edgeB, ha]; omega)), by go_grown⟩
  | true =>
    cases hb : nodeB b with
    | false =>
      go_enter Try.func22, Try.ntmps22
      go_wp2_with (first | (go_at_call_of 40 a; refine (rnode_any a _).mono ?_; rintro e wx ⟨rfl, hw⟩; rw [hw, ha]; clear hw wx) | (go_at_call_of 40 b; refine (rnode_any b _).mono ?_; rintro e wx ⟨rfl, hw⟩; rw [hw, hb]; clear hw wx))
      all_goals
        go_ret
        exact ⟨ret_bool (by first | (simp [fitB, edgeB, ha, hb]; done) | (simp [fitB, edgeB, ha, hb]; omega)), by go_grown⟩
    | true =>
      by_cases hab : a = b
      · have hab' : (a == b) = true := by simp [hab]
        have HAB : Hid (a = b) := hab
        clear hab
        go_enter Try.func22, Try.ntmps22
        go_wp2_with (first | (go_at_call_of 40 a; refine (rnode_any a _).mono ?_; rintro e wx ⟨rfl, hw⟩; rw [hw, ha]; clear hw wx) | (go_at_call_of 40 b; refine (rnode_any b _).mono ?_; rintro e wx ⟨rfl, hw⟩; rw [hw, hb]; clear hw wx))
        all_goals
          go_ret
          exact ⟨ret_bool (by first | (simp [fitB, edgeB, HAB.out]; done) | (simp [fitB, edgeB, HAB.out]; omega)), by go_grown⟩
      · by_cases hv : v = 0
        · subst hv
          by_cases hp : p = 0
          · subst hp
            by_cases hf : f = 0
            · subst hf
              go_enter Try.func22, Try.ntmps22
              go_wp2_with (first | (go_at_call_of 40 a; refine (rnode_any a _).mono ?_; rintro e wx ⟨rfl, hw⟩; rw [hw, ha]; clear hw wx) | (go_at_call_of 40 b; refine (rnode_any b _).mono ?_; rintro e wx ⟨rfl, hw⟩; rw [hw, hb]; clear hw wx))
              all_goals
                go_ret
                exact ⟨ret_bool (by first | (simp [fitB, edgeB, ha, hb, hab, zeroB]; done) | (simp [fitB, edgeB, ha, hb, hab, zeroB]; omega)), by go_grown⟩
            ·
              go_enter Try.func22, Try.ntmps22
              go_wp2_with (first | (go_at_call_of 40 a; refine (rnode_any a _).mono ?_; rintro e wx ⟨rfl, hw⟩; rw [hw, ha]; clear hw wx) | (go_at_call_of 40 b; refine (rnode_any b _).mono ?_; rintro e wx ⟨rfl, hw⟩; rw [hw, hb]; clear hw wx))
              all_goals
                go_ret
                exact ⟨ret_bool (by first | (simp [fitB, edgeB, ha, hb, zeroB, lineB, hf]; done) | (simp [fitB, edgeB, ha, hb, zeroB, lineB, hf]; omega)), by go_grown⟩
          ·
            go_enter Try.func22, Try.ntmps22
            go_wp2_with (first | (go_at_call_of 40 a; refine (rnode_any a _).mono ?_; rintro e wx ⟨rfl, hw⟩; rw [hw, ha]; clear hw wx) | (go_at_call_of 40 b; refine (rnode_any b _).mono ?_; rintro e wx ⟨rfl, hw⟩; rw [hw, hb]; clear hw wx))
            all_goals
              go_ret
              exact ⟨ret_bool (by first | (simp [fitB, edgeB, ha, hb, zeroB, lineB, hp]; done) | (simp [fitB, edgeB, ha, hb, zeroB, lineB, hp]; omega)), by go_grown⟩
        · by_cases h1 : 1 ≤ v
          · by_cases h2 : v ≤ 1099511627776
            · by_cases h3 : -2147483647 ≤ f
              · by_cases h4 : f ≤ 2147483647
                · by_cases h5 : p = a
                  · subst h5
                    go_enter Try.func22, Try.ntmps22
                    go_wp2_with (first | (go_at_call_of 40 p; refine (rnode_any p _).mono ?_; rintro e wx ⟨rfl, hw⟩; rw [hw, ha]; clear hw wx) | (go_at_call_of 40 b; refine (rnode_any b _).mono ?_; rintro e wx ⟨rfl, hw⟩; rw [hw, hb]; clear hw wx))
                    all_goals
                      go_ret
                      exact ⟨ret_bool (by first | (simp [fitB, edgeB, ha, hb, hab, zeroB, lineB, hv, endB, rngB, h1, h2, h3, h4]; done) | (simp [fitB, edgeB, ha, hb, hab, zeroB, lineB, hv, endB, rngB, h1, h2, h3, h4]; omega)), by go_grown⟩
                  · by_cases h6 : p = b
                    · subst h6
                      go_enter Try.func22, Try.ntmps22
                      go_wp2_with (first | (go_at_call_of 40 a; refine (rnode_any a _).mono ?_; rintro e wx ⟨rfl, hw⟩; rw [hw, ha]; clear hw wx) | (go_at_call_of 40 p; refine (rnode_any p _).mono ?_; rintro e wx ⟨rfl, hw⟩; rw [hw, hb]; clear hw wx))
                      all_goals
                        go_ret
                        exact ⟨ret_bool (by first | (simp [fitB, edgeB, ha, hb, hab, zeroB, lineB, hv, endB, rngB, h1, h2, h3, h4]; done) | (simp [fitB, edgeB, ha, hb, hab, zeroB, lineB, hv, endB, rngB, h1, h2, h3, h4]; omega)), by go_grown⟩
                    ·
                      go_enter Try.func22, Try.ntmps22
                      go_wp2_with (first | (go_at_call_of 40 a; refine (rnode_any a _).mono ?_; rintro e wx ⟨rfl, hw⟩; rw [hw, ha]; clear hw wx) | (go_at_call_of 40 b; refine (rnode_any b _).mono ?_; rintro e wx ⟨rfl, hw⟩; rw [hw, hb]; clear hw wx))
                      all_goals
                        go_ret
                        exact ⟨ret_bool (by first | (simp [fitB, edgeB, ha, hb, hab, zeroB, lineB, hv, endB, rngB, h1, h2, h3, h4, h5, h6]; done) | (simp [fitB, edgeB, ha, hb, hab, zeroB, lineB, hv, endB, rngB, h1, h2, h3, h4, h5, h6]; omega)), by go_grown⟩
                ·
                  go_enter Try.func22, Try.ntmps22
                  go_wp2_with (first | (go_at_call_of 40 a; refine (rnode_any a _).mono ?_; rintro e wx ⟨rfl, hw⟩; rw [hw, ha]; clear hw wx) | (go_at_call_of 40 b; refine (rnode_any b _).mono ?_; rintro e wx ⟨rfl, hw⟩; rw [hw, hb]; clear hw wx))
                  all_goals
                    go_ret
                    exact ⟨ret_bool (by first | (simp [fitB, edgeB, ha, hb, hab, zeroB, lineB, hv, endB, rngB, h1, h2, h3, h4]; done) | (simp [fitB, edgeB, ha, hb, hab, zeroB, lineB, hv, endB, rngB, h1, h2, h3, h4]; omega)), by go_grown⟩
              ·
                go_enter Try.func22, Try.ntmps22
                go_wp2_with (first | (go_at_call_of 40 a; refine (rnode_any a _).mono ?_; rintro e wx ⟨rfl, hw⟩; rw [hw, ha]; clear hw wx) | (go_at_call_of 40 b; refine (rnode_any b _).mono ?_; rintro e wx ⟨rfl, hw⟩; rw [hw, hb]; clear hw wx))
                all_goals
                  go_ret
                  exact ⟨ret_bool (by first | (simp [fitB, edgeB, ha, hb, hab, zeroB, lineB, hv, endB, rngB, h1, h2, h3]; done) | (simp [fitB, edgeB, ha, hb, hab, zeroB, lineB, hv, endB, rngB, h1, h2, h3]; omega)), by go_grown⟩
            ·
              go_enter Try.func22, Try.ntmps22
              go_wp2_with (first | (go_at_call_of 40 a; refine (rnode_any a _).mono ?_; rintro e wx ⟨rfl, hw⟩; rw [hw, ha]; clear hw wx) | (go_at_call_of 40 b; refine (rnode_any b _).mono ?_; rintro e wx ⟨rfl, hw⟩; rw [hw, hb]; clear hw wx))
              all_goals
                go_ret
                exact ⟨ret_bool (by first | (simp [fitB, edgeB, ha, hb, hab, zeroB, lineB, hv, endB, rngB, h1, h2]; done) | (simp [fitB, edgeB, ha, hb, hab, zeroB, lineB, hv, endB, rngB, h1, h2]; omega)), by go_grown⟩
          ·
            go_enter Try.func22, Try.ntmps22
            go_wp2_with (first | (go_at_call_of 40 a; refine (rnode_any a _).mono ?_; rintro e wx ⟨rfl, hw⟩; rw [hw, ha]; clear hw wx) | (go_at_call_of 40 b; refine (rnode_any b _).mono ?_; rintro e wx ⟨rfl, hw⟩; rw [hw, hb]; clear hw wx))
            all_goals
              go_ret
              exact ⟨ret_bool (by first | (simp [fitB, edgeB, ha, hb, hab, zeroB, lineB, hv, endB, rngB, h1]; done) | (simp [fitB, edgeB, ha, hb, hab, zeroB, lineB, hv, endB, rngB, h1]; omega)), by go_grown⟩
def outZ (v p f a b : Int) : Int := if fitB v p f a b = true then alongZ f a b else 0
set_option maxRecDepth 100000 in
set_option maxHeartbeats 1000000 in
theorem out_any (v p f a b : Int) (w : World) : Calls Try.prog 21 #[rg v p f, .int .i64 a, .int .i64 b] w fun e w' => e = .returned (.int .i64 (outZ v p f a b)) ∧ Below w.heap.size w w' := by
  cases hf : fitB v p f a b with
  | false =>
    go_enter Try.func21, Try.ntmps21
    go_wp2_with (first | (go_at_call 19; refine (fit_any v p f a b _).mono ?_; rintro e w1 ⟨rfl, hb⟩; rw [hf]; obtain ⟨a0, a1, a2, b0, b1, b2, z0⟩ := (Tri.new w (.int .i64 v) (.int .i64 p) (.int .i64 f) 23).below hb; have hB : Below w.heap.size w w1 := Below.trans (by go_grown) (hb.mono (by simp)); clear hb))
    all_goals
      go_ret
      exact ⟨ret_i64 (by first | (simp [outZ, hf]; done) | (simp [outZ, hf]; omega)), by go_grown⟩
  | true =>
    obtain ⟨r1, r2⟩ := fit_rng hf
    go_enter Try.func21, Try.ntmps21
    go_wp2_with (first | (go_at_call 19; refine (fit_any v p f a b _).mono ?_; rintro e w1 ⟨rfl, hb⟩; rw [hf]; obtain ⟨a0, a1, a2, b0, b1, b2, z0⟩ := (Tri.new w (.int .i64 v) (.int .i64 p) (.int .i64 f) 23).below hb; have hB : Below w.heap.size w w1 := Below.trans (by go_grown) (hb.mono (by simp)); clear hb) | (go_at_call 39; refine (along_any f a b _ (by omega) (by omega)).mono ?_; rintro e wx ⟨rfl, hw⟩; rw [hw]; clear hw wx))
    all_goals
      go_ret
      exact ⟨ret_i64 (by first | (simp [outZ, hf]; done) | (simp [outZ, hf]; omega)), by go_grown⟩
set_option maxRecDepth 100000 in
set_option maxHeartbeats 1000000 in
theorem rout_any (v p f a b : Int) (w : World) : Calls Try.prog 24 #[rg v p f, .int .i64 a, .int .i64 b] w fun e w' => e = .returned (.int .i64 (outZ v p f a b)) ∧ Below w.heap.size w w' := by
  cases hf : fitB v p f a b with
  | false =>
    go_enter Try.func24, Try.ntmps24
    go_wp2_with (first | (go_at_call 22; refine (rfit_any v p f a b _).mono ?_; rintro e w1 ⟨rfl, hb⟩; rw [hf]; obtain ⟨a0, a1, a2, b0, b1, b2, z0⟩ := (Tri.new w (.int .i64 v) (.int .i64 p) (.int .i64 f) 23).below hb; have hB : Below w.heap.size w w1 := Below.trans (by go_grown) (hb.mono (by simp)); clear hb))
    all_goals
      go_ret
      exact ⟨ret_i64 (by first | (simp [outZ, hf]; done) | (simp [outZ, hf]; omega)), by go_grown⟩
  | true =>
    obtain ⟨r1, r2⟩ := fit_rng hf
    by_cases hab : a < b
    ·
      go_enter Try.func24, Try.ntmps24
      go_wp2_with (first | (go_at_call 22; refine (rfit_any v p f a b _).mono ?_; rintro e w1 ⟨rfl, hb⟩; rw [hf]; obtain ⟨a0, a1, a2, b0, b1, b2, z0⟩ := (Tri.new w (.int .i64 v) (.int .i64 p) (.int .i64 f) 23).below hb; have hB : Below w.heap.size w w1 := Below.trans (by go_grown) (hb.mono (by simp)); clear hb))
      all_goals
        go_ret
        exact ⟨ret_i64 (by first | (simp [outZ, hf, alongZ, hab]; done) | (simp [outZ, hf, alongZ, hab]; omega)), by go_grown⟩
    ·
      go_enter Try.func24, Try.ntmps24
      go_wp2_with (first | (go_at_call 22; refine (rfit_any v p f a b _).mono ?_; rintro e w1 ⟨rfl, hb⟩; rw [hf]; obtain ⟨a0, a1, a2, b0, b1, b2, z0⟩ := (Tri.new w (.int .i64 v) (.int .i64 p) (.int .i64 f) 23).below hb; have hB : Below w.heap.size w w1 := Below.trans (by go_grown) (hb.mono (by simp)); clear hb))
      all_goals
        go_ret
        exact ⟨ret_i64 (by first | (simp [outZ, hf, alongZ, hab]; done) | (simp [outZ, hf, alongZ, hab]; omega)), by go_grown⟩
end Go.Proofs.Ytcjdfnfaiocdjaa
