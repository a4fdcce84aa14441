/-
  Package reg: the document's own answer for Move.
-/
import Derived.Test.YtcjdfnfaiocdjaaR3
import Derived.Deep.QuietTactic
import Derived.WalkSmall
namespace Go.Proofs.Ytcjdfnfaiocdjaa
open Go.ChangeShapes Go.WideShapes Go.ChangeAt Go.RowKit
set_option linter.unusedVariables false
set_option linter.unusedSimpArgs false

set_option maxRecDepth 100000 in
set_option maxHeartbeats 2000000 in
theorem rmove_any (v p f a b x q : Int) (w : World) : Calls Try.prog 31 #[rg v p f, .int .i64 a, .int .i64 b, .int .i64 x, .int .i64 q] w fun e w' => e = .returned (mvV (mv v p f a b x q)) ∧ Below w.heap.size w w' := by
  cases hf : fitB v p f a b with
  | false =>
    go_enter Try.func31, Try.ntmps31
    go_wp2_with (first | (go_at_call 22; refine (rfit_any v p f a b _).mono ?_; rintro e w1 ⟨rfl, hb⟩; rw [hf]; obtain ⟨a0, a1, a2, b0, b1, b2, z0⟩ := ((Tri.new w (.int .i64 v) (.int .i64 p) (.int .i64 f) 23).alloc (.cells #[.int .i64 0, .int .i64 0, .int .i64 0] 23)).below hb; obtain ⟨c0, c1, c2, d0, d1, d2, z1⟩ := ((Tri.new (w.alloc (.cells #[.int .i64 v, .int .i64 p, .int .i64 f] 23)) (.int .i64 0) (.int .i64 0) (.int .i64 0) 23).below hb).at (k' := w.heap.size + 1) (by simp); have hB : Below w.heap.size w w1 := Below.trans (by go_grown) (hb.mono (by simp; omega)); clear hb))
    exact bodyPost_ret (v := mvV (MV.mk 0 0 0 31)) (by simp [results, Try.results31, go_sem, c0, c1, c2, d0, d1, d2, z1]) rfl ⟨by rw [show mv v p f a b x q = (MV.mk 0 0 0 31) from by simp [mv, hf]], by go_grown⟩
  | true =>
    obtain ⟨v0, v1, hab⟩ := fit_ver hf
    obtain ⟨r1, r2⟩ := fit_rng hf
    cases hd : endB q a b with
    | false =>
      have hq : (q != a) = true ∧ (q != b) = true := by unfold endB at hd; simpa using hd
      obtain ⟨hq1, hq2⟩ := hq
      go_enter Try.func31, Try.ntmps31
      go_wp2_with (first | (go_at_call 22; refine (rfit_any v p f a b _).mono ?_; rintro e w1 ⟨rfl, hb⟩; rw [hf]; obtain ⟨a0, a1, a2, b0, b1, b2, z0⟩ := ((Tri.new w (.int .i64 v) (.int .i64 p) (.int .i64 f) 23).alloc (.cells #[.int .i64 0, .int .i64 0, .int .i64 0] 23)).below hb; obtain ⟨c0, c1, c2, d0, d1, d2, z1⟩ := ((Tri.new (w.alloc (.cells #[.int .i64 v, .int .i64 p, .int .i64 f] 23)) (.int .i64 0) (.int .i64 0) (.int .i64 0) 23).below hb).at (k' := w.heap.size + 1) (by simp); have hB : Below w.heap.size w w1 := Below.trans (by go_grown) (hb.mono (by simp; omega)); clear hb))
      exact bodyPost_ret (v := mvV (MV.mk 0 0 0 31)) (by simp [results, Try.results31, go_sem, c0, c1, c2, d0, d1, d2, z1]) rfl ⟨by rw [show mv v p f a b x q = (MV.mk 0 0 0 31) from by simp [mv, hf, hd]], by go_grown⟩
    | true =>
      have hq : (q != a) = false ∨ ((q != a) = true ∧ (q != b) = false) := by
        unfold endB at hd
        by_cases h : q = a
        · exact .inl (by simp [h])
        · exact .inr ⟨by simpa using h, by simpa [h] using hd⟩
      have hpre : Hid (¬ (fitB v p f a b = false ∨ endB q a b = false)) := by show ¬ _; simp [hf, hd]
      clear hd
      rcases hq with hq1 | ⟨hq1, hq2⟩
      ·
        cases hx : rngB x with
        | false =>
          rcases rng_false hx with h | h
          ·
            go_enter Try.func31, Try.ntmps31
            go_wp2_with (first | (go_at_call 22; refine (rfit_any v p f a b _).mono ?_; rintro e w1 ⟨rfl, hb⟩; rw [hf]; obtain ⟨a0, a1, a2, b0, b1, b2, z0⟩ := ((Tri.new w (.int .i64 v) (.int .i64 p) (.int .i64 f) 23).alloc (.cells #[.int .i64 0, .int .i64 0, .int .i64 0] 23)).below hb; obtain ⟨c0, c1, c2, d0, d1, d2, z1⟩ := ((Tri.new (w.alloc (.cells #[.int .i64 v, .int .i64 p, .int .i64 f] 23)) (.int .i64 0) (.int .i64 0) (.int .i64 0) 23).below hb).at (k' := w.heap.size + 1) (by simp); have hB : Below w.heap.size w w1 := Below.trans (by go_grown) (hb.mono (by simp; omega)); clear hb))
            exact bodyPost_ret (v := mvV (MV.mk 0 0 0 10)) (by simp [results, Try.results31, go_sem, c0, c1, c2, d0, d1, d2, z1]) rfl ⟨by rw [show mv v p f a b x q = (MV.mk 0 0 0 10) from by unfold mv; rw [if_neg hpre.out, if_pos hx]], by go_grown⟩
          ·
            go_enter Try.func31, Try.ntmps31
            go_wp2_with (first | (go_at_call 22; refine (rfit_any v p f a b _).mono ?_; rintro e w1 ⟨rfl, hb⟩; rw [hf]; obtain ⟨a0, a1, a2, b0, b1, b2, z0⟩ := ((Tri.new w (.int .i64 v) (.int .i64 p) (.int .i64 f) 23).alloc (.cells #[.int .i64 0, .int .i64 0, .int .i64 0] 23)).below hb; obtain ⟨c0, c1, c2, d0, d1, d2, z1⟩ := ((Tri.new (w.alloc (.cells #[.int .i64 v, .int .i64 p, .int .i64 f] 23)) (.int .i64 0) (.int .i64 0) (.int .i64 0) 23).below hb).at (k' := w.heap.size + 1) (by simp); have hB : Below w.heap.size w w1 := Below.trans (by go_grown) (hb.mono (by simp; omega)); clear hb))
            exact bodyPost_ret (v := mvV (MV.mk 0 0 0 10)) (by simp [results, Try.results31, go_sem, c0, c1, c2, d0, d1, d2, z1]) rfl ⟨by rw [show mv v p f a b x q = (MV.mk 0 0 0 10) from by unfold mv; rw [if_neg hpre.out, if_pos hx]], by go_grown⟩
        | true =>
          obtain ⟨x1, x2⟩ := rng_true hx
          have hx' : ¬ rngB x = false := by simp [hx]
          by_cases hx0 : x = 0
          · subst hx0
            go_enter Try.func31, Try.ntmps31
            go_wp2_with (first | (go_at_call 22; refine (rfit_any v p f a b _).mono ?_; rintro e w1 ⟨rfl, hb⟩; rw [hf]; obtain ⟨a0, a1, a2, b0, b1, b2, z0⟩ := ((Tri.new w (.int .i64 v) (.int .i64 p) (.int .i64 f) 23).alloc (.cells #[.int .i64 0, .int .i64 0, .int .i64 0] 23)).below hb; obtain ⟨c0, c1, c2, d0, d1, d2, z1⟩ := ((Tri.new (w.alloc (.cells #[.int .i64 v, .int .i64 p, .int .i64 f] 23)) (.int .i64 0) (.int .i64 0) (.int .i64 0) 23).below hb).at (k' := w.heap.size + 1) (by simp); have hB : Below w.heap.size w w1 := Below.trans (by go_grown) (hb.mono (by simp; omega)); clear hb))
            exact bodyPost_ret (v := mvV (MV.mk v p f 0)) (by simp [results, Try.results31, go_sem, c0, c1, c2, d0, d1, d2, z1]) rfl ⟨by rw [show mv v p f a b 0 q = (MV.mk v p f 0) from by unfold mv; rw [if_neg hpre.out, if_neg hx', if_pos rfl]], by go_grown⟩
          · obtain ⟨y, HY⟩ : ∃ y, Hid (f + alongZ x a b = y) := ⟨_, rfl⟩
            by_cases hlt : b < a
            · have hy : f - x = y := by rw [← HY.out]; unfold alongZ; rw [if_neg (by omega)]; omega
              have w1' : IntKind.i64.wrap (f - x) = y := by rw [hy, IntKind.wrap_i64]; omega
              have w2' : IntKind.i64.wrap (f + x) = f + x := by rw [IntKind.wrap_i64]; omega
              have HY2 : Hid (-4294967294 ≤ y ∧ y ≤ 4294967294) := by show _ ∧ _; omega
              clear hy
              by_cases hm : 1099511627776 ≤ v
              ·
                go_enter Try.func31, Try.ntmps31
                go_wp2_with (first | (go_at_call 22; refine (rfit_any v p f a b _).mono ?_; rintro e w1 ⟨rfl, hb⟩; rw [hf]; obtain ⟨a0, a1, a2, b0, b1, b2, z0⟩ := ((Tri.new w (.int .i64 v) (.int .i64 p) (.int .i64 f) 23).alloc (.cells #[.int .i64 0, .int .i64 0, .int .i64 0] 23)).below hb; obtain ⟨c0, c1, c2, d0, d1, d2, z1⟩ := ((Tri.new (w.alloc (.cells #[.int .i64 v, .int .i64 p, .int .i64 f] 23)) (.int .i64 0) (.int .i64 0) (.int .i64 0) 23).below hb).at (k' := w.heap.size + 1) (by simp); have hB : Below w.heap.size w w1 := Below.trans (by go_grown) (hb.mono (by simp; omega)); clear hb))
                exact bodyPost_ret (v := mvV (MV.mk 0 0 0 10)) (by simp [results, Try.results31, go_sem, c0, c1, c2, d0, d1, d2, z1]) rfl ⟨by rw [show mv v p f a b x q = (MV.mk 0 0 0 10) from by unfold mv; rw [if_neg hpre.out, if_neg hx', if_neg hx0, if_pos (Or.inl (by omega))]], by go_grown⟩
              · by_cases hy1 : y < -2147483647
                ·
                  go_enter Try.func31, Try.ntmps31
                  go_wp2_with (first | (go_at_call 22; refine (rfit_any v p f a b _).mono ?_; rintro e w1 ⟨rfl, hb⟩; rw [hf]; obtain ⟨a0, a1, a2, b0, b1, b2, z0⟩ := ((Tri.new w (.int .i64 v) (.int .i64 p) (.int .i64 f) 23).alloc (.cells #[.int .i64 0, .int .i64 0, .int .i64 0] 23)).below hb; obtain ⟨c0, c1, c2, d0, d1, d2, z1⟩ := ((Tri.new (w.alloc (.cells #[.int .i64 v, .int .i64 p, .int .i64 f] 23)) (.int .i64 0) (.int .i64 0) (.int .i64 0) 23).below hb).at (k' := w.heap.size + 1) (by simp); have hB : Below w.heap.size w w1 := Below.trans (by go_grown) (hb.mono (by simp; omega)); clear hb))
                  exact bodyPost_ret (v := mvV (MV.mk 0 0 0 10)) (by simp [results, Try.results31, go_sem, c0, c1, c2, d0, d1, d2, z1]) rfl ⟨by rw [show mv v p f a b x q = (MV.mk 0 0 0 10) from by unfold mv; rw [if_neg hpre.out, if_neg hx', if_neg hx0, HY.out, if_pos (Or.inr (by unfold rngB; simp; omega))]], by go_grown⟩
                · by_cases hy2 : 2147483647 < y
                  ·
                    go_enter Try.func31, Try.ntmps31
                    go_wp2_with (first | (go_at_call 22; refine (rfit_any v p f a b _).mono ?_; rintro e w1 ⟨rfl, hb⟩; rw [hf]; obtain ⟨a0, a1, a2, b0, b1, b2, z0⟩ := ((Tri.new w (.int .i64 v) (.int .i64 p) (.int .i64 f) 23).alloc (.cells #[.int .i64 0, .int .i64 0, .int .i64 0] 23)).below hb; obtain ⟨c0, c1, c2, d0, d1, d2, z1⟩ := ((Tri.new (w.alloc (.cells #[.int .i64 v, .int .i64 p, .int .i64 f] 23)) (.int .i64 0) (.int .i64 0) (.int .i64 0) 23).below hb).at (k' := w.heap.size + 1) (by simp); have hB : Below w.heap.size w w1 := Below.trans (by go_grown) (hb.mono (by simp; omega)); clear hb))
                    exact bodyPost_ret (v := mvV (MV.mk 0 0 0 10)) (by simp [results, Try.results31, go_sem, c0, c1, c2, d0, d1, d2, z1]) rfl ⟨by rw [show mv v p f a b x q = (MV.mk 0 0 0 10) from by unfold mv; rw [if_neg hpre.out, if_neg hx', if_neg hx0, HY.out, if_pos (Or.inr (by unfold rngB; simp; omega))]], by go_grown⟩
                  ·
                    go_enter Try.func31, Try.ntmps31
                    go_wp2_with (first | (go_at_call 22; refine (rfit_any v p f a b _).mono ?_; rintro e w1 ⟨rfl, hb⟩; rw [hf]; obtain ⟨a0, a1, a2, b0, b1, b2, z0⟩ := ((Tri.new w (.int .i64 v) (.int .i64 p) (.int .i64 f) 23).alloc (.cells #[.int .i64 0, .int .i64 0, .int .i64 0] 23)).below hb; obtain ⟨c0, c1, c2, d0, d1, d2, z1⟩ := ((Tri.new (w.alloc (.cells #[.int .i64 v, .int .i64 p, .int .i64 f] 23)) (.int .i64 0) (.int .i64 0) (.int .i64 0) 23).below hb).at (k' := w.heap.size + 1) (by simp); have hB : Below w.heap.size w w1 := Below.trans (by go_grown) (hb.mono (by simp; omega)); clear hb))
                    exact bodyPost_ret (v := mvV (MV.mk (v + 1) q y 0)) (by simp [results, Try.results31, go_sem, c0, c1, c2, d0, d1, d2, z1]) rfl ⟨by rw [show mv v p f a b x q = (MV.mk (v + 1) q y 0) from by unfold mv; rw [if_neg hpre.out, if_neg hx', if_neg hx0, HY.out, if_neg (by unfold rngB; simp; omega)]], by go_grown⟩
            · have hy : f + x = y := by rw [← HY.out]; unfold alongZ; rw [if_pos (by omega)]
              have w2' : IntKind.i64.wrap (f + x) = y := by rw [hy, IntKind.wrap_i64]; omega
              have HY2 : Hid (-4294967294 ≤ y ∧ y ≤ 4294967294) := by show _ ∧ _; omega
              clear hy
              by_cases hm : 1099511627776 ≤ v
              ·
                go_enter Try.func31, Try.ntmps31
                go_wp2_with (first | (go_at_call 22; refine (rfit_any v p f a b _).mono ?_; rintro e w1 ⟨rfl, hb⟩; rw [hf]; obtain ⟨a0, a1, a2, b0, b1, b2, z0⟩ := ((Tri.new w (.int .i64 v) (.int .i64 p) (.int .i64 f) 23).alloc (.cells #[.int .i64 0, .int .i64 0, .int .i64 0] 23)).below hb; obtain ⟨c0, c1, c2, d0, d1, d2, z1⟩ := ((Tri.new (w.alloc (.cells #[.int .i64 v, .int .i64 p, .int .i64 f] 23)) (.int .i64 0) (.int .i64 0) (.int .i64 0) 23).below hb).at (k' := w.heap.size + 1) (by simp); have hB : Below w.heap.size w w1 := Below.trans (by go_grown) (hb.mono (by simp; omega)); clear hb))
                exact bodyPost_ret (v := mvV (MV.mk 0 0 0 10)) (by simp [results, Try.results31, go_sem, c0, c1, c2, d0, d1, d2, z1]) rfl ⟨by rw [show mv v p f a b x q = (MV.mk 0 0 0 10) from by unfold mv; rw [if_neg hpre.out, if_neg hx', if_neg hx0, if_pos (Or.inl (by omega))]], by go_grown⟩
              · by_cases hy1 : y < -2147483647
                ·
                  go_enter Try.func31, Try.ntmps31
                  go_wp2_with (first | (go_at_call 22; refine (rfit_any v p f a b _).mono ?_; rintro e w1 ⟨rfl, hb⟩; rw [hf]; obtain ⟨a0, a1, a2, b0, b1, b2, z0⟩ := ((Tri.new w (.int .i64 v) (.int .i64 p) (.int .i64 f) 23).alloc (.cells #[.int .i64 0, .int .i64 0, .int .i64 0] 23)).below hb; obtain ⟨c0, c1, c2, d0, d1, d2, z1⟩ := ((Tri.new (w.alloc (.cells #[.int .i64 v, .int .i64 p, .int .i64 f] 23)) (.int .i64 0) (.int .i64 0) (.int .i64 0) 23).below hb).at (k' := w.heap.size + 1) (by simp); have hB : Below w.heap.size w w1 := Below.trans (by go_grown) (hb.mono (by simp; omega)); clear hb))
                  exact bodyPost_ret (v := mvV (MV.mk 0 0 0 10)) (by simp [results, Try.results31, go_sem, c0, c1, c2, d0, d1, d2, z1]) rfl ⟨by rw [show mv v p f a b x q = (MV.mk 0 0 0 10) from by unfold mv; rw [if_neg hpre.out, if_neg hx', if_neg hx0, HY.out, if_pos (Or.inr (by unfold rngB; simp; omega))]], by go_grown⟩
                · by_cases hy2 : 2147483647 < y
                  ·
                    go_enter Try.func31, Try.ntmps31
                    go_wp2_with (first | (go_at_call 22; refine (rfit_any v p f a b _).mono ?_; rintro e w1 ⟨rfl, hb⟩; rw [hf]; obtain ⟨a0, a1, a2, b0, b1, b2, z0⟩ := ((Tri.new w (.int .i64 v) (.int .i64 p) (.int .i64 f) 23).alloc (.cells #[.int .i64 0, .int .i64 0, .int .i64 0] 23)).below hb; obtain ⟨c0, c1, c2, d0, d1, d2, z1⟩ := ((Tri.new (w.alloc (.cells #[.int .i64 v, .int .i64 p, .int .i64 f] 23)) (.int .i64 0) (.int .i64 0) (.int .i64 0) 23).below hb).at (k' := w.heap.size + 1) (by simp); have hB : Below w.heap.size w w1 := Below.trans (by go_grown) (hb.mono (by simp; omega)); clear hb))
                    exact bodyPost_ret (v := mvV (MV.mk 0 0 0 10)) (by simp [results, Try.results31, go_sem, c0, c1, c2, d0, d1, d2, z1]) rfl ⟨by rw [show mv v p f a b x q = (MV.mk 0 0 0 10) from by unfold mv; rw [if_neg hpre.out, if_neg hx', if_neg hx0, HY.out, if_pos (Or.inr (by unfold rngB; simp; omega))]], by go_grown⟩
                  ·
                    go_enter Try.func31, Try.ntmps31
                    go_wp2_with (first | (go_at_call 22; refine (rfit_any v p f a b _).mono ?_; rintro e w1 ⟨rfl, hb⟩; rw [hf]; obtain ⟨a0, a1, a2, b0, b1, b2, z0⟩ := ((Tri.new w (.int .i64 v) (.int .i64 p) (.int .i64 f) 23).alloc (.cells #[.int .i64 0, .int .i64 0, .int .i64 0] 23)).below hb; obtain ⟨c0, c1, c2, d0, d1, d2, z1⟩ := ((Tri.new (w.alloc (.cells #[.int .i64 v, .int .i64 p, .int .i64 f] 23)) (.int .i64 0) (.int .i64 0) (.int .i64 0) 23).below hb).at (k' := w.heap.size + 1) (by simp); have hB : Below w.heap.size w w1 := Below.trans (by go_grown) (hb.mono (by simp; omega)); clear hb))
                    exact bodyPost_ret (v := mvV (MV.mk (v + 1) q y 0)) (by simp [results, Try.results31, go_sem, c0, c1, c2, d0, d1, d2, z1]) rfl ⟨by rw [show mv v p f a b x q = (MV.mk (v + 1) q y 0) from by unfold mv; rw [if_neg hpre.out, if_neg hx', if_neg hx0, HY.out, if_neg (by unfold rngB; simp; omega)]], by go_grown⟩
      ·
        cases hx : rngB x with
        | false =>
          rcases rng_false hx with h | h
          ·
            go_enter Try.func31, Try.ntmps31
            go_wp2_with (first | (go_at_call 22; refine (rfit_any v p f a b _).mono ?_; rintro e w1 ⟨rfl, hb⟩; rw [hf]; obtain ⟨a0, a1, a2, b0, b1, b2, z0⟩ := ((Tri.new w (.int .i64 v) (.int .i64 p) (.int .i64 f) 23).alloc (.cells #[.int .i64 0, .int .i64 0, .int .i64 0] 23)).below hb; obtain ⟨c0, c1, c2, d0, d1, d2, z1⟩ := ((Tri.new (w.alloc (.cells #[.int .i64 v, .int .i64 p, .int .i64 f] 23)) (.int .i64 0) (.int .i64 0) (.int .i64 0) 23).below hb).at (k' := w.heap.size + 1) (by simp); have hB : Below w.heap.size w w1 := Below.trans (by go_grown) (hb.mono (by simp; omega)); clear hb))
            exact bodyPost_ret (v := mvV (MV.mk 0 0 0 10)) (by simp [results, Try.results31, go_sem, c0, c1, c2, d0, d1, d2, z1]) rfl ⟨by rw [show mv v p f a b x q = (MV.mk 0 0 0 10) from by unfold mv; rw [if_neg hpre.out, if_pos hx]], by go_grown⟩
          ·
            go_enter Try.func31, Try.ntmps31
            go_wp2_with (first | (go_at_call 22; refine (rfit_any v p f a b _).mono ?_; rintro e w1 ⟨rfl, hb⟩; rw [hf]; obtain ⟨a0, a1, a2, b0, b1, b2, z0⟩ := ((Tri.new w (.int .i64 v) (.int .i64 p) (.int .i64 f) 23).alloc (.cells #[.int .i64 0, .int .i64 0, .int .i64 0] 23)).below hb; obtain ⟨c0, c1, c2, d0, d1, d2, z1⟩ := ((Tri.new (w.alloc (.cells #[.int .i64 v, .int .i64 p, .int .i64 f] 23)) (.int .i64 0) (.int .i64 0) (.int .i64 0) 23).below hb).at (k' := w.heap.size + 1) (by simp); have hB : Below w.heap.size w w1 := Below.trans (by go_grown) (hb.mono (by simp; omega)); clear hb))
            exact bodyPost_ret (v := mvV (MV.mk 0 0 0 10)) (by simp [results, Try.results31, go_sem, c0, c1, c2, d0, d1, d2, z1]) rfl ⟨by rw [show mv v p f a b x q = (MV.mk 0 0 0 10) from by unfold mv; rw [if_neg hpre.out, if_pos hx]], by go_grown⟩
        | true =>
          obtain ⟨x1, x2⟩ := rng_true hx
          have hx' : ¬ rngB x = false := by simp [hx]
          by_cases hx0 : x = 0
          · subst hx0
            go_enter Try.func31, Try.ntmps31
            go_wp2_with (first | (go_at_call 22; refine (rfit_any v p f a b _).mono ?_; rintro e w1 ⟨rfl, hb⟩; rw [hf]; obtain ⟨a0, a1, a2, b0, b1, b2, z0⟩ := ((Tri.new w (.int .i64 v) (.int .i64 p) (.int .i64 f) 23).alloc (.cells #[.int .i64 0, .int .i64 0, .int .i64 0] 23)).below hb; obtain ⟨c0, c1, c2, d0, d1, d2, z1⟩ := ((Tri.new (w.alloc (.cells #[.int .i64 v, .int .i64 p, .int .i64 f] 23)) (.int .i64 0) (.int .i64 0) (.int .i64 0) 23).below hb).at (k' := w.heap.size + 1) (by simp); have hB : Below w.heap.size w w1 := Below.trans (by go_grown) (hb.mono (by simp; omega)); clear hb))
            exact bodyPost_ret (v := mvV (MV.mk v p f 0)) (by simp [results, Try.results31, go_sem, c0, c1, c2, d0, d1, d2, z1]) rfl ⟨by rw [show mv v p f a b 0 q = (MV.mk v p f 0) from by unfold mv; rw [if_neg hpre.out, if_neg hx', if_pos rfl]], by go_grown⟩
          · obtain ⟨y, HY⟩ : ∃ y, Hid (f + alongZ x a b = y) := ⟨_, rfl⟩
            by_cases hlt : b < a
            · have hy : f - x = y := by rw [← HY.out]; unfold alongZ; rw [if_neg (by omega)]; omega
              have w1' : IntKind.i64.wrap (f - x) = y := by rw [hy, IntKind.wrap_i64]; omega
              have w2' : IntKind.i64.wrap (f + x) = f + x := by rw [IntKind.wrap_i64]; omega
              have HY2 : Hid (-4294967294 ≤ y ∧ y ≤ 4294967294) := by show _ ∧ _; omega
              clear hy
              by_cases hm : 1099511627776 ≤ v
              ·
                go_enter Try.func31, Try.ntmps31
                go_wp2_with (first | (go_at_call 22; refine (rfit_any v p f a b _).mono ?_; rintro e w1 ⟨rfl, hb⟩; rw [hf]; obtain ⟨a0, a1, a2, b0, b1, b2, z0⟩ := ((Tri.new w (.int .i64 v) (.int .i64 p) (.int .i64 f) 23).alloc (.cells #[.int .i64 0, .int .i64 0, .int .i64 0] 23)).below hb; obtain ⟨c0, c1, c2, d0, d1, d2, z1⟩ := ((Tri.new (w.alloc (.cells #[.int .i64 v, .int .i64 p, .int .i64 f] 23)) (.int .i64 0) (.int .i64 0) (.int .i64 0) 23).below hb).at (k' := w.heap.size + 1) (by simp); have hB : Below w.heap.size w w1 := Below.trans (by go_grown) (hb.mono (by simp; omega)); clear hb))
                exact bodyPost_ret (v := mvV (MV.mk 0 0 0 10)) (by simp [results, Try.results31, go_sem, c0, c1, c2, d0, d1, d2, z1]) rfl ⟨by rw [show mv v p f a b x q = (MV.mk 0 0 0 10) from by unfold mv; rw [if_neg hpre.out, if_neg hx', if_neg hx0, if_pos (Or.inl (by omega))]], by go_grown⟩
              · by_cases hy1 : y < -2147483647
                ·
                  go_enter Try.func31, Try.ntmps31
                  go_wp2_with (first | (go_at_call 22; refine (rfit_any v p f a b _).mono ?_; rintro e w1 ⟨rfl, hb⟩; rw [hf]; obtain ⟨a0, a1, a2, b0, b1, b2, z0⟩ := ((Tri.new w (.int .i64 v) (.int .i64 p) (.int .i64 f) 23).alloc (.cells #[.int .i64 0, .int .i64 0, .int .i64 0] 23)).below hb; obtain ⟨c0, c1, c2, d0, d1, d2, z1⟩ := ((Tri.new (w.alloc (.cells #[.int .i64 v, .int .i64 p, .int .i64 f] 23)) (.int .i64 0) (.int .i64 0) (.int .i64 0) 23).below hb).at (k' := w.heap.size + 1) (by simp); have hB : Below w.heap.size w w1 := Below.trans (by go_grown) (hb.mono (by simp; omega)); clear hb))
                  exact bodyPost_ret (v := mvV (MV.mk 0 0 0 10)) (by simp [results, Try.results31, go_sem, c0, c1, c2, d0, d1, d2, z1]) rfl ⟨by rw [show mv v p f a b x q = (MV.mk 0 0 0 10) from by unfold mv; rw [if_neg hpre.out, if_neg hx', if_neg hx0, HY.out, if_pos (Or.inr (by unfold rngB; simp; omega))]], by go_grown⟩
                · by_cases hy2 : 2147483647 < y
                  ·
                    go_enter Try.func31, Try.ntmps31
                    go_wp2_with (first | (go_at_call 22; refine (rfit_any v p f a b _).mono ?_; rintro e w1 ⟨rfl, hb⟩; rw [hf]; obtain ⟨a0, a1, a2, b0, b1, b2, z0⟩ := ((Tri.new w (.int .i64 v) (.int .i64 p) (.int .i64 f) 23).alloc (.cells #[.int .i64 0, .int .i64 0, .int .i64 0] 23)).below hb; obtain ⟨c0, c1, c2, d0, d1, d2, z1⟩ := ((Tri.new (w.alloc (.cells #[.int .i64 v, .int .i64 p, .int .i64 f] 23)) (.int .i64 0) (.int .i64 0) (.int .i64 0) 23).below hb).at (k' := w.heap.size + 1) (by simp); have hB : Below w.heap.size w w1 := Below.trans (by go_grown) (hb.mono (by simp; omega)); clear hb))
                    exact bodyPost_ret (v := mvV (MV.mk 0 0 0 10)) (by simp [results, Try.results31, go_sem, c0, c1, c2, d0, d1, d2, z1]) rfl ⟨by rw [show mv v p f a b x q = (MV.mk 0 0 0 10) from by unfold mv; rw [if_neg hpre.out, if_neg hx', if_neg hx0, HY.out, if_pos (Or.inr (by unfold rngB; simp; omega))]], by go_grown⟩
                  ·
                    go_enter Try.func31, Try.ntmps31
                    go_wp2_with (first | (go_at_call 22; refine (rfit_any v p f a b _).mono ?_; rintro e w1 ⟨rfl, hb⟩; rw [hf]; obtain ⟨a0, a1, a2, b0, b1, b2, z0⟩ := ((Tri.new w (.int .i64 v) (.int .i64 p) (.int .i64 f) 23).alloc (.cells #[.int .i64 0, .int .i64 0, .int .i64 0] 23)).below hb; obtain ⟨c0, c1, c2, d0, d1, d2, z1⟩ := ((Tri.new (w.alloc (.cells #[.int .i64 v, .int .i64 p, .int .i64 f] 23)) (.int .i64 0) (.int .i64 0) (.int .i64 0) 23).below hb).at (k' := w.heap.size + 1) (by simp); have hB : Below w.heap.size w w1 := Below.trans (by go_grown) (hb.mono (by simp; omega)); clear hb))
                    exact bodyPost_ret (v := mvV (MV.mk (v + 1) q y 0)) (by simp [results, Try.results31, go_sem, c0, c1, c2, d0, d1, d2, z1]) rfl ⟨by rw [show mv v p f a b x q = (MV.mk (v + 1) q y 0) from by unfold mv; rw [if_neg hpre.out, if_neg hx', if_neg hx0, HY.out, if_neg (by unfold rngB; simp; omega)]], by go_grown⟩
            · have hy : f + x = y := by rw [← HY.out]; unfold alongZ; rw [if_pos (by omega)]
              have w2' : IntKind.i64.wrap (f + x) = y := by rw [hy, IntKind.wrap_i64]; omega
              have HY2 : Hid (-4294967294 ≤ y ∧ y ≤ 4294967294) := by show _ ∧ _; omega
              clear hy
              by_cases hm : 1099511627776 ≤ v
              ·
                go_enter Try.func31, Try.ntmps31
                go_wp2_with (first | (go_at_call 22; refine (rfit_any v p f a b _).mono ?_; rintro e w1 ⟨rfl, hb⟩; rw [hf]; obtain ⟨a0, a1, a2, b0, b1, b2, z0⟩ := ((Tri.new w (.int .i64 v) (.int .i64 p) (.int .i64 f) 23).alloc (.cells #[.int .i64 0, .int .i64 0, .int .i64 0] 23)).below hb; obtain ⟨c0, c1, c2, d0, d1, d2, z1⟩ := ((Tri.new (w.alloc (.cells #[.int .i64 v, .int .i64 p, .int .i64 f] 23)) (.int .i64 0) (.int .i64 0) (.int .i64 0) 23).below hb).at (k' := w.heap.size + 1) (by simp); have hB : Below w.heap.size w w1 := Below.trans (by go_grown) (hb.mono (by simp; omega)); clear hb))
                exact bodyPost_ret (v := mvV (MV.mk 0 0 0 10)) (by simp [results, Try.results31, go_sem, c0, c1, c2, d0, d1, d2, z1]) rfl ⟨by rw [show mv v p f a b x q = (MV.mk 0 0 0 10) from by unfold mv; rw [if_neg hpre.out, if_neg hx', if_neg hx0, if_pos (Or.inl (by omega))]], by go_grown⟩
              · by_cases hy1 : y < -2147483647
                ·
                  go_enter Try.func31, Try.ntmps31
                  go_wp2_with (first | (go_at_call 22; refine (rfit_any v p f a b _).mono ?_; rintro e w1 ⟨rfl, hb⟩; rw [hf]; obtain ⟨a0, a1, a2, b0, b1, b2, z0⟩ := ((Tri.new w (.int .i64 v) (.int .i64 p) (.int .i64 f) 23).alloc (.cells #[.int .i64 0, .int .i64 0, .int .i64 0] 23)).below hb; obtain ⟨c0, c1, c2, d0, d1, d2, z1⟩ := ((Tri.new (w.alloc (.cells #[.int .i64 v, .int .i64 p, .int .i64 f] 23)) (.int .i64 0) (.int .i64 0) (.int .i64 0) 23).below hb).at (k' := w.heap.size + 1) (by simp); have hB : Below w.heap.size w w1 := Below.trans (by go_grown) (hb.mono (by simp; omega)); clear hb))
                  exact bodyPost_ret (v := mvV (MV.mk 0 0 0 10)) (by simp [results, Try.results31, go_sem, c0, c1, c2, d0, d1, d2, z1]) rfl ⟨by rw [show mv v p f a b x q = (MV.mk 0 0 0 10) from by unfold mv; rw [if_neg hpre.out, if_neg hx', if_neg hx0, HY.out, if_pos (Or.inr (by unfold rngB; simp; omega))]], by go_grown⟩
                · by_cases hy2 : 2147483647 < y
                  ·
                    go_enter Try.func31, Try.ntmps31
                    go_wp2_with (first | (go_at_call 22; refine (rfit_any v p f a b _).mono ?_; rintro e w1 ⟨rfl, hb⟩; rw [hf]; obtain ⟨a0, a1, a2, b0, b1, b2, z0⟩ := ((Tri.new w (.int .i64 v) (.int .i64 p) (.int .i64 f) 23).alloc (.cells #[.int .i64 0, .int .i64 0, .int .i64 0] 23)).below hb; obtain ⟨c0, c1, c2, d0, d1, d2, z1⟩ := ((Tri.new (w.alloc (.cells #[.int .i64 v, .int .i64 p, .int .i64 f] 23)) (.int .i64 0) (.int .i64 0) (.int .i64 0) 23).below hb).at (k' := w.heap.size + 1) (by simp); have hB : Below w.heap.size w w1 := Below.trans (by go_grown) (hb.mono (by simp; omega)); clear hb))
                    exact bodyPost_ret (v := mvV (MV.mk 0 0 0 10)) (by simp [results, Try.results31, go_sem, c0, c1, c2, d0, d1, d2, z1]) rfl ⟨by rw [show mv v p f a b x q = (MV.mk 0 0 0 10) from by unfold mv; rw [if_neg hpre.out, if_neg hx', if_neg hx0, HY.out, if_pos (Or.inr (by unfold rngB; simp; omega))]], by go_grown⟩
                  ·
                    go_enter Try.func31, Try.ntmps31
                    go_wp2_with (first | (go_at_call 22; refine (rfit_any v p f a b _).mono ?_; rintro e w1 ⟨rfl, hb⟩; rw [hf]; obtain ⟨a0, a1, a2, b0, b1, b2, z0⟩ := ((Tri.new w (.int .i64 v) (.int .i64 p) (.int .i64 f) 23).alloc (.cells #[.int .i64 0, .int .i64 0, .int .i64 0] 23)).below hb; obtain ⟨c0, c1, c2, d0, d1, d2, z1⟩ := ((Tri.new (w.alloc (.cells #[.int .i64 v, .int .i64 p, .int .i64 f] 23)) (.int .i64 0) (.int .i64 0) (.int .i64 0) 23).below hb).at (k' := w.heap.size + 1) (by simp); have hB : Below w.heap.size w w1 := Below.trans (by go_grown) (hb.mono (by simp; omega)); clear hb))
                    exact bodyPost_ret (v := mvV (MV.mk (v + 1) q y 0)) (by simp [results, Try.results31, go_sem, c0, c1, c2, d0, d1, d2, z1]) rfl ⟨by rw [show mv v p f a b x q = (MV.mk (v + 1) q y 0) from by unfold mv; rw [if_neg hpre.out, if_neg hx', if_neg hx0, HY.out, if_neg (by unfold rngB; simp; omega)]], by go_grown⟩
end Go.Proofs.Ytcjdfnfaiocdjaa
