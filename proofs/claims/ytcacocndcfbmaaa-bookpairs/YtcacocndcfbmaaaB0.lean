/-
  Package reg: Out, and the document's.
-/
import Derived.Test.YtcacocndcfbmaaaA2
namespace Go.Proofs.Ytcacocndcfbmaaa
open Go.ChangeShapes Go.WideShapes Go.ChangeAt Go.RowKit
set_option linter.unusedVariables false
set_option linter.unusedSimpArgs false

theorem along_any (x a b : Int) (w : World) (h1 : -9223372036854775808 < x) (h2 : x ≤ 9223372036854775807) : Calls Try.prog 47 #[.int .i64 x, .int .i64 a, .int .i64 b] w fun e w' => e = .returned (.int .i64 (alongZ x a b)) ∧ w' = w := by
  by_cases h : a < b
  · go_enter Try.func47, Try.ntmps47
    go_wp2
    go_ret
    exact ⟨ret_i64 (by simp [alongZ, h]), rfl⟩
  · go_enter Try.func47, Try.ntmps47
    go_wp2
    go_ret
    exact ⟨ret_i64 (by first | (simp [alongZ, h]; done) | (simp [alongZ, h, IntKind.wrap_i64]; omega)), rfl⟩
set_option maxRecDepth 100000 in
set_option maxHeartbeats 1000000 in
theorem out_any (v p f a b : Int) (w : World) : Calls Try.prog 40 #[rg v p f, .int .i64 a, .int .i64 b] w fun e w' => e = .returned (.int .i64 (outZ v p f a b)) ∧ Below w.heap.size w w' := by
  cases hf : fitB v p f a b with
  | false =>
    go_enter Try.func40, Try.ntmps40
    go_wp2_with (first | (go_at_call 46; refine (fit_any v p f a b _).mono ?_; rintro e w1 ⟨rfl, hb⟩; rw [hf]; obtain ⟨a0, a1, a2, b0, b1, b2, z0⟩ := (Tri.new w (.int .i64 v) (.int .i64 p) (.int .i64 f) 50).below hb; have hB : Below w.heap.size w w1 := Below.trans (by go_grown) (hb.mono (by simp)); clear hb))
    all_goals
      go_ret
      exact ⟨ret_i64 (by first | (simp [outZ, hf]; done) | (simp [outZ, hf]; omega)), by go_grown⟩
  | true =>
    obtain ⟨r1, r2⟩ := fit_rng hf
    go_enter Try.func40, Try.ntmps40
    go_wp2_with (first | (go_at_call 46; refine (fit_any v p f a b _).mono ?_; rintro e w1 ⟨rfl, hb⟩; rw [hf]; obtain ⟨a0, a1, a2, b0, b1, b2, z0⟩ := (Tri.new w (.int .i64 v) (.int .i64 p) (.int .i64 f) 50).below hb; have hB : Below w.heap.size w w1 := Below.trans (by go_grown) (hb.mono (by simp)); clear hb) | (go_at_call 47; refine (along_any f a b _ (by omega) (by omega)).mono ?_; rintro e wx ⟨rfl, hw⟩; rw [hw]; clear hw wx))
    all_goals
      go_ret
      exact ⟨ret_i64 (by first | (simp [outZ, hf]; done) | (simp [outZ, hf]; omega)), by go_grown⟩
set_option maxRecDepth 100000 in
set_option maxHeartbeats 1000000 in
theorem rout_any (v p f a b : Int) (w : World) : Calls Try.prog 23 #[rg v p f, .int .i64 a, .int .i64 b] w fun e w' => e = .returned (.int .i64 (outZ v p f a b)) ∧ Below w.heap.size w w' := by
  cases hf : fitB v p f a b with
  | false =>
    go_enter Try.func23, Try.ntmps23
    go_wp2_with (first | (go_at_call 35; refine (rfit_any v p f a b _).mono ?_; rintro e w1 ⟨rfl, hb⟩; rw [hf]; obtain ⟨a0, a1, a2, b0, b1, b2, z0⟩ := (Tri.new w (.int .i64 v) (.int .i64 p) (.int .i64 f) 50).below hb; have hB : Below w.heap.size w w1 := Below.trans (by go_grown) (hb.mono (by simp)); clear hb))
    all_goals
      go_ret
      exact ⟨ret_i64 (by first | (simp [outZ, hf]; done) | (simp [outZ, hf]; omega)), by go_grown⟩
  | true =>
    obtain ⟨r1, r2⟩ := fit_rng hf
    by_cases hab : a < b
    ·
      go_enter Try.func23, Try.ntmps23
      go_wp2_with (first | (go_at_call 35; refine (rfit_any v p f a b _).mono ?_; rintro e w1 ⟨rfl, hb⟩; rw [hf]; obtain ⟨a0, a1, a2, b0, b1, b2, z0⟩ := (Tri.new w (.int .i64 v) (.int .i64 p) (.int .i64 f) 50).below hb; have hB : Below w.heap.size w w1 := Below.trans (by go_grown) (hb.mono (by simp)); clear hb))
      all_goals
        go_ret
        exact ⟨ret_i64 (by first | (simp [outZ, hf, alongZ, hab]; done) | (simp [outZ, hf, alongZ, hab]; omega)), by go_grown⟩
    ·
      go_enter Try.func23, Try.ntmps23
      go_wp2_with (first | (go_at_call 35; refine (rfit_any v p f a b _).mono ?_; rintro e w1 ⟨rfl, hb⟩; rw [hf]; obtain ⟨a0, a1, a2, b0, b1, b2, z0⟩ := (Tri.new w (.int .i64 v) (.int .i64 p) (.int .i64 f) 50).below hb; have hB : Below w.heap.size w w1 := Below.trans (by go_grown) (hb.mono (by simp)); clear hb))
      all_goals
        go_ret
        exact ⟨ret_i64 (by first | (simp [outZ, hf, alongZ, hab]; done) | (simp [outZ, hf, alongZ, hab]; omega)), by go_grown⟩
theorem out_rng (v p f a b : Int) : -2147483647 ≤ outZ v p f a b ∧ outZ v p f a b ≤ 2147483647 := by
  unfold outZ
  split
  · rename_i h
    have := fit_rng h
    unfold alongZ
    split <;> omega
  · omega
end Go.Proofs.Ytcacocndcfbmaaa
