/-
  Package reg: what Move returns, and the document's own answer for it.
-/
import Derived.Test.YtcjdfnfaiocdjaaR2
import Derived.Deep.QuietTactic
import Derived.WalkSmall
namespace Go.Proofs.Ytcjdfnfaiocdjaa
open Go.ChangeShapes Go.WideShapes Go.ChangeAt Go.RowKit
set_option linter.unusedVariables false
set_option linter.unusedSimpArgs false

/-- Ver, Writer, Flow and the error. -/
structure MV where
  v : Int
  p : Int
  f : Int
  e : Int
def mv (v p f a b x q : Int) : MV :=
  if fitB v p f a b = false ∨ endB q a b = false then ⟨0, 0, 0, 31⟩ else if rngB x = false then ⟨0, 0, 0, 10⟩ else if x = 0 then ⟨v, p, f, 0⟩
  else if v = 1099511627776 ∨ rngB (f + alongZ x a b) = false then ⟨0, 0, 0, 10⟩ else ⟨v + 1, q, f + alongZ x a b, 0⟩
abbrev mvV (m : MV) : Value := .tuple #[rg m.v m.p m.f, .int .i64 m.e]
theorem fit_ver {v p f a b : Int} (h : fitB v p f a b = true) : 0 ≤ v ∧ v ≤ 1099511627776 ∧ a ≠ b := by
  unfold fitB zeroB lineB edgeB at h
  simp at h
  omega
theorem rng_true {x : Int} (h : rngB x = true) : -2147483647 ≤ x ∧ x ≤ 2147483647 := by
  unfold rngB at h
  simpa using h
theorem rng_false {x : Int} (h : rngB x = false) : x < -2147483647 ∨ 2147483647 < x := by
  unfold rngB at h
  simp at h
  omega
set_option maxRecDepth 100000 in
set_option maxHeartbeats 2000000 in
theorem move_any (v p f a b x q : Int) (w : World) : Calls Try.prog 30 #[rg v p f, .int .i64 a, .int .i64 b, .int .i64 x, .int .i64 q] w fun e w' => e = .returned (mvV (mv v p f a b x q)) ∧ Below w.heap.size w w' := by
  cases hf : fitB v p f a b with
  | false =>
    go_enter Try.func30, Try.ntmps30
    go_wp2_with (first | (go_at_call 19; refine (fit_any v p f a b _).mono ?_; rintro e w1 ⟨rfl, hb⟩; rw [hf]; obtain ⟨a0, a1, a2, b0, b1, b2, z0⟩ := ((Tri.new w (.int .i64 v) (.int .i64 p) (.int .i64 f) 23).alloc (.cells #[.int .i64 0, .int .i64 0, .int .i64 0] 23)).below hb; obtain ⟨c0, c1, c2, d0, d1, d2, z1⟩ := ((Tri.new (w.alloc (.cells #[.int .i64 v, .int .i64 p, .int .i64 f] 23)) (.int .i64 0) (.int .i64 0) (.int .i64 0) 23).below hb).at (k' := w.heap.size + 1) (by simp); have hB : Below w.heap.size w w1 := Below.trans (by go_grown) (hb.mono (by simp; omega)); clear hb))
    exact bodyPost_ret (v := mvV (MV.mk (0) (0) (0) (31))) (by simp [results, Try.results30, go_sem, c0, c1, c2, d0, d1, d2, z1]) rfl ⟨by rw [show mv v p f a b x q = (MV.mk (0) (0) (0) (31)) from by simp [mv, hf]], by go_grown⟩
  | true =>
    obtain ⟨v0, v1, hab⟩ := fit_ver hf
    obtain ⟨r1, r2⟩ := fit_rng hf
    cases hd : endB q a b with
    | false =>
      go_enter Try.func30, Try.ntmps30
      go_wp2_with (first | (go_at_call 19; refine (fit_any v p f a b _).mono ?_; rintro e w1 ⟨rfl, hb⟩; rw [hf]; obtain ⟨a0, a1, a2, b0, b1, b2, z0⟩ := ((Tri.new w (.int .i64 v) (.int .i64 p) (.int .i64 f) 23).alloc (.cells #[.int .i64 0, .int .i64 0, .int .i64 0] 23)).below hb; obtain ⟨c0, c1, c2, d0, d1, d2, z1⟩ := ((Tri.new (w.alloc (.cells #[.int .i64 v, .int .i64 p, .int .i64 f] 23)) (.int .i64 0) (.int .i64 0) (.int .i64 0) 23).below hb).at (k' := w.heap.size + 1) (by simp); have hB : Below w.heap.size w w1 := Below.trans (by go_grown) (hb.mono (by simp; omega)); clear hb) | (go_at_call 34; refine (end_any q a b _).mono ?_; rintro e wx ⟨rfl, hw⟩; rw [hw, hd]; clear hw wx))
      exact bodyPost_ret (v := mvV (MV.mk (0) (0) (0) (31))) (by simp [results, Try.results30, go_sem, c0, c1, c2, d0, d1, d2, z1]) rfl ⟨by rw [show mv v p f a b x q = (MV.mk (0) (0) (0) (31)) from by simp [mv, hf, hd]], by go_grown⟩
    | true =>
      cases hx : rngB x with
      | false =>
        go_enter Try.func30, Try.ntmps30
        go_wp2_with (first | (go_at_call 19; refine (fit_any v p f a b _).mono ?_; rintro e w1 ⟨rfl, hb⟩; rw [hf]; obtain ⟨a0, a1, a2, b0, b1, b2, z0⟩ := ((Tri.new w (.int .i64 v) (.int .i64 p) (.int .i64 f) 23).alloc (.cells #[.int .i64 0, .int .i64 0, .int .i64 0] 23)).below hb; obtain ⟨c0, c1, c2, d0, d1, d2, z1⟩ := ((Tri.new (w.alloc (.cells #[.int .i64 v, .int .i64 p, .int .i64 f] 23)) (.int .i64 0) (.int .i64 0) (.int .i64 0) 23).below hb).at (k' := w.heap.size + 1) (by simp); have hB : Below w.heap.size w w1 := Below.trans (by go_grown) (hb.mono (by simp; omega)); clear hb) | (go_at_call 34; refine (end_any q a b _).mono ?_; rintro e wx ⟨rfl, hw⟩; rw [hw, hd]; clear hw wx) | (go_at_call_of 35 x; refine (rng_any x _).mono ?_; rintro e wx ⟨rfl, hw⟩; rw [hw, hx]; clear hw wx))
        exact bodyPost_ret (v := mvV (MV.mk (0) (0) (0) (10))) (by simp [results, Try.results30, go_sem, c0, c1, c2, d0, d1, d2, z1]) rfl ⟨by rw [show mv v p f a b x q = (MV.mk (0) (0) (0) (10)) from by simp [mv, hf, hd, hx]], by go_grown⟩
      | true =>
        obtain ⟨x1, x2⟩ := rng_true hx
        by_cases hx0 : x = 0
        · subst hx0
          go_enter Try.func30, Try.ntmps30
          go_wp2_with (first | (go_at_call 19; refine (fit_any v p f a b _).mono ?_; rintro e w1 ⟨rfl, hb⟩; rw [hf]; obtain ⟨a0, a1, a2, b0, b1, b2, z0⟩ := ((Tri.new w (.int .i64 v) (.int .i64 p) (.int .i64 f) 23).alloc (.cells #[.int .i64 0, .int .i64 0, .int .i64 0] 23)).below hb; obtain ⟨c0, c1, c2, d0, d1, d2, z1⟩ := ((Tri.new (w.alloc (.cells #[.int .i64 v, .int .i64 p, .int .i64 f] 23)) (.int .i64 0) (.int .i64 0) (.int .i64 0) 23).below hb).at (k' := w.heap.size + 1) (by simp); have hB : Below w.heap.size w w1 := Below.trans (by go_grown) (hb.mono (by simp; omega)); clear hb) | (go_at_call 34; refine (end_any q a b _).mono ?_; rintro e wx ⟨rfl, hw⟩; rw [hw, hd]; clear hw wx) | (go_at_call 35; refine (rng_any 0 _).mono ?_; rintro e wx ⟨rfl, hw⟩; rw [hw, hx]; clear hw wx))
          exact bodyPost_ret (v := mvV (MV.mk (v) (p) (f) (0))) (by simp [results, Try.results30, go_sem, c0, c1, c2, d0, d1, d2, z1]) rfl ⟨by rw [show mv v p f a b 0 q = (MV.mk (v) (p) (f) (0)) from by simp [mv, hf, hd, hx]], by go_grown⟩
        · obtain ⟨y, HY⟩ : ∃ y, Hid (f + alongZ x a b = y) := ⟨_, rfl⟩
          have ha1 : -2147483647 ≤ alongZ x a b ∧ alongZ x a b ≤ 2147483647 := by unfold alongZ; split <;> omega
          have wr : IntKind.i64.wrap (f + alongZ x a b) = y := by rw [← HY.out, IntKind.wrap_i64]; omega
          by_cases hm : v = 1099511627776
          · have hm' : (v == 1099511627776) = true := by simp [hm]
            have HM : Hid (v = 1099511627776) := hm
            clear hm
            go_enter Try.func30, Try.ntmps30
            go_wp2_with (first | (go_at_call 19; refine (fit_any v p f a b _).mono ?_; rintro e w1 ⟨rfl, hb⟩; rw [hf]; obtain ⟨a0, a1, a2, b0, b1, b2, z0⟩ := ((Tri.new w (.int .i64 v) (.int .i64 p) (.int .i64 f) 23).alloc (.cells #[.int .i64 0, .int .i64 0, .int .i64 0] 23)).below hb; obtain ⟨c0, c1, c2, d0, d1, d2, z1⟩ := ((Tri.new (w.alloc (.cells #[.int .i64 v, .int .i64 p, .int .i64 f] 23)) (.int .i64 0) (.int .i64 0) (.int .i64 0) 23).below hb).at (k' := w.heap.size + 1) (by simp); have hB : Below w.heap.size w w1 := Below.trans (by go_grown) (hb.mono (by simp; omega)); clear hb) | (go_at_call 34; refine (end_any q a b _).mono ?_; rintro e wx ⟨rfl, hw⟩; rw [hw, hd]; clear hw wx) | (go_at_call_of 35 x; refine (rng_any x _).mono ?_; rintro e wx ⟨rfl, hw⟩; rw [hw, hx]; clear hw wx))
            go_quiet (first | (go_at_call 39; exact Calls.quiet_of_same (along_any x a b _ (by omega) (by omega))))
            have A2 : Tri (w1.drewN nq) w.heap.size (.int .i64 v) (.int .i64 p) (.int .i64 f) := ⟨a0, a1, a2, b0, b1, b2, z0⟩
            have C2 : Tri (w1.drewN nq) (w.heap.size + 1) (.int .i64 0) (.int .i64 0) (.int .i64 0) := ⟨c0, c1, c2, d0, d1, d2, z1⟩
            have B2 : Below w.heap.size w (w1.drewN nq) := below_drewN hB nq
            generalize World.drewN w1 nq = w2 at *
            clear a0 a1 a2 b0 b1 b2 z0 c0 c1 c2 d0 d1 d2 z1 hB
            obtain ⟨a0, a1, a2, b0, b1, b2, z0⟩ := A2
            obtain ⟨c0, c1, c2, d0, d1, d2, z1⟩ := C2
            go_wp2_with (first | (go_at_call 19; refine (fit_any v p f a b _).mono ?_; rintro e w1 ⟨rfl, hb⟩; rw [hf]; obtain ⟨a0, a1, a2, b0, b1, b2, z0⟩ := ((Tri.new w (.int .i64 v) (.int .i64 p) (.int .i64 f) 23).alloc (.cells #[.int .i64 0, .int .i64 0, .int .i64 0] 23)).below hb; obtain ⟨c0, c1, c2, d0, d1, d2, z1⟩ := ((Tri.new (w.alloc (.cells #[.int .i64 v, .int .i64 p, .int .i64 f] 23)) (.int .i64 0) (.int .i64 0) (.int .i64 0) 23).below hb).at (k' := w.heap.size + 1) (by simp); have hB : Below w.heap.size w w1 := Below.trans (by go_grown) (hb.mono (by simp; omega)); clear hb) | (go_at_call 34; refine (end_any q a b _).mono ?_; rintro e wx ⟨rfl, hw⟩; rw [hw, hd]; clear hw wx) | (go_at_call_of 35 x; refine (rng_any x _).mono ?_; rintro e wx ⟨rfl, hw⟩; rw [hw, hx]; clear hw wx))
            exact bodyPost_ret (v := mvV (MV.mk (0) (0) (0) (10))) (by simp [results, Try.results30, go_sem, c0, c1, c2, d0, d1, d2, z1]) rfl ⟨by rw [show mv v p f a b x q = (MV.mk (0) (0) (0) (10)) from by unfold mv; rw [if_neg (by simp [hf, hd]), if_neg (by simp [hx]), if_neg hx0, if_pos (Or.inl HM.out)]], by go_grown⟩
          · have hm' : (v == 1099511627776) = false := by simp [hm]
            cases hy : rngB y with
            | false =>
              go_enter Try.func30, Try.ntmps30
              go_wp2_with (first | (go_at_call 19; refine (fit_any v p f a b _).mono ?_; rintro e w1 ⟨rfl, hb⟩; rw [hf]; obtain ⟨a0, a1, a2, b0, b1, b2, z0⟩ := ((Tri.new w (.int .i64 v) (.int .i64 p) (.int .i64 f) 23).alloc (.cells #[.int .i64 0, .int .i64 0, .int .i64 0] 23)).below hb; obtain ⟨c0, c1, c2, d0, d1, d2, z1⟩ := ((Tri.new (w.alloc (.cells #[.int .i64 v, .int .i64 p, .int .i64 f] 23)) (.int .i64 0) (.int .i64 0) (.int .i64 0) 23).below hb).at (k' := w.heap.size + 1) (by simp); have hB : Below w.heap.size w w1 := Below.trans (by go_grown) (hb.mono (by simp; omega)); clear hb) | (go_at_call 34; refine (end_any q a b _).mono ?_; rintro e wx ⟨rfl, hw⟩; rw [hw, hd]; clear hw wx) | (go_at_call_of 35 x; refine (rng_any x _).mono ?_; rintro e wx ⟨rfl, hw⟩; rw [hw, hx]; clear hw wx) | (go_at_call_of 35 y; refine (rng_any y _).mono ?_; rintro e wx ⟨rfl, hw⟩; rw [hw, hy]; clear hw wx))
              go_quiet (first | (go_at_call 39; exact Calls.quiet_of_same (along_any x a b _ (by omega) (by omega))))
              have A2 : Tri (w1.drewN nq) w.heap.size (.int .i64 v) (.int .i64 p) (.int .i64 f) := ⟨a0, a1, a2, b0, b1, b2, z0⟩
              have C2 : Tri (w1.drewN nq) (w.heap.size + 1) (.int .i64 0) (.int .i64 0) (.int .i64 0) := ⟨c0, c1, c2, d0, d1, d2, z1⟩
              have B2 : Below w.heap.size w (w1.drewN nq) := below_drewN hB nq
              generalize World.drewN w1 nq = w2 at *
              clear a0 a1 a2 b0 b1 b2 z0 c0 c1 c2 d0 d1 d2 z1 hB
              obtain ⟨a0, a1, a2, b0, b1, b2, z0⟩ := A2
              obtain ⟨c0, c1, c2, d0, d1, d2, z1⟩ := C2
              go_wp2_with (first | (go_at_call 19; refine (fit_any v p f a b _).mono ?_; rintro e w1 ⟨rfl, hb⟩; rw [hf]; obtain ⟨a0, a1, a2, b0, b1, b2, z0⟩ := ((Tri.new w (.int .i64 v) (.int .i64 p) (.int .i64 f) 23).alloc (.cells #[.int .i64 0, .int .i64 0, .int .i64 0] 23)).below hb; obtain ⟨c0, c1, c2, d0, d1, d2, z1⟩ := ((Tri.new (w.alloc (.cells #[.int .i64 v, .int .i64 p, .int .i64 f] 23)) (.int .i64 0) (.int .i64 0) (.int .i64 0) 23).below hb).at (k' := w.heap.size + 1) (by simp); have hB : Below w.heap.size w w1 := Below.trans (by go_grown) (hb.mono (by simp; omega)); clear hb) | (go_at_call 34; refine (end_any q a b _).mono ?_; rintro e wx ⟨rfl, hw⟩; rw [hw, hd]; clear hw wx) | (go_at_call_of 35 x; refine (rng_any x _).mono ?_; rintro e wx ⟨rfl, hw⟩; rw [hw, hx]; clear hw wx) | (go_at_call_of 35 y; refine (rng_any y _).mono ?_; rintro e wx ⟨rfl, hw⟩; rw [hw, hy]; clear hw wx))
              exact bodyPost_ret (v := mvV (MV.mk (0) (0) (0) (10))) (by simp [results, Try.results30, go_sem, c0, c1, c2, d0, d1, d2, z1]) rfl ⟨by rw [show mv v p f a b x q = (MV.mk (0) (0) (0) (10)) from by simp [mv, hf, hd, hx, hx0, HY.out, hy]], by go_grown⟩
            | true =>
              go_enter Try.func30, Try.ntmps30
              go_wp2_with (first | (go_at_call 19; refine (fit_any v p f a b _).mono ?_; rintro e w1 ⟨rfl, hb⟩; rw [hf]; obtain ⟨a0, a1, a2, b0, b1, b2, z0⟩ := ((Tri.new w (.int .i64 v) (.int .i64 p) (.int .i64 f) 23).alloc (.cells #[.int .i64 0, .int .i64 0, .int .i64 0] 23)).below hb; obtain ⟨c0, c1, c2, d0, d1, d2, z1⟩ := ((Tri.new (w.alloc (.cells #[.int .i64 v, .int .i64 p, .int .i64 f] 23)) (.int .i64 0) (.int .i64 0) (.int .i64 0) 23).below hb).at (k' := w.heap.size + 1) (by simp); have hB : Below w.heap.size w w1 := Below.trans (by go_grown) (hb.mono (by simp; omega)); clear hb) | (go_at_call 34; refine (end_any q a b _).mono ?_; rintro e wx ⟨rfl, hw⟩; rw [hw, hd]; clear hw wx) | (go_at_call_of 35 x; refine (rng_any x _).mono ?_; rintro e wx ⟨rfl, hw⟩; rw [hw, hx]; clear hw wx) | (go_at_call_of 35 y; refine (rng_any y _).mono ?_; rintro e wx ⟨rfl, hw⟩; rw [hw, hy]; clear hw wx))
              go_quiet (first | (go_at_call 39; exact Calls.quiet_of_same (along_any x a b _ (by omega) (by omega))))
              have A2 : Tri (w1.drewN nq) w.heap.size (.int .i64 v) (.int .i64 p) (.int .i64 f) := ⟨a0, a1, a2, b0, b1, b2, z0⟩
              have C2 : Tri (w1.drewN nq) (w.heap.size + 1) (.int .i64 0) (.int .i64 0) (.int .i64 0) := ⟨c0, c1, c2, d0, d1, d2, z1⟩
              have B2 : Below w.heap.size w (w1.drewN nq) := below_drewN hB nq
              generalize World.drewN w1 nq = w2 at *
              clear a0 a1 a2 b0 b1 b2 z0 c0 c1 c2 d0 d1 d2 z1 hB
              obtain ⟨a0, a1, a2, b0, b1, b2, z0⟩ := A2
              obtain ⟨c0, c1, c2, d0, d1, d2, z1⟩ := C2
              go_wp2_with (first | (go_at_call 19; refine (fit_any v p f a b _).mono ?_; rintro e w1 ⟨rfl, hb⟩; rw [hf]; obtain ⟨a0, a1, a2, b0, b1, b2, z0⟩ := ((Tri.new w (.int .i64 v) (.int .i64 p) (.int .i64 f) 23).alloc (.cells #[.int .i64 0, .int .i64 0, .int .i64 0] 23)).below hb; obtain ⟨c0, c1, c2, d0, d1, d2, z1⟩ := ((Tri.new (w.alloc (.cells #[.int .i64 v, .int .i64 p, .int .i64 f] 23)) (.int .i64 0) (.int .i64 0) (.int .i64 0) 23).below hb).at (k' := w.heap.size + 1) (by simp); have hB : Below w.heap.size w w1 := Below.trans (by go_grown) (hb.mono (by simp; omega)); clear hb) | (go_at_call 34; refine (end_any q a b _).mono ?_; rintro e wx ⟨rfl, hw⟩; rw [hw, hd]; clear hw wx) | (go_at_call_of 35 x; refine (rng_any x _).mono ?_; rintro e wx ⟨rfl, hw⟩; rw [hw, hx]; clear hw wx) | (go_at_call_of 35 y; refine (rng_any y _).mono ?_; rintro e wx ⟨rfl, hw⟩; rw [hw, hy]; clear hw wx))
              exact bodyPost_ret (v := mvV (MV.mk (v + 1) (q) (y) (0))) (by simp [results, Try.results30, go_sem, c0, c1, c2, d0, d1, d2, z1]) rfl ⟨by rw [show mv v p f a b x q = (MV.mk (v + 1) (q) (y) (0)) from by simp [mv, hf, hd, hx, hx0, HY.out, hy, hm]], by go_grown⟩
end Go.Proofs.Ytcjdfnfaiocdjaa
