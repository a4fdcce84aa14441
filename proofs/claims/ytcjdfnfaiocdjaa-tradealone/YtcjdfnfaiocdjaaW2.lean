/-
  Package trade: the walk of TradeAlone.
-/
import Derived.Test.YtcjdfnfaiocdjaaW1
namespace Go.Proofs.Ytcjdfnfaiocdjaa
open Go.ChangeShapes Go.WideShapes Go.ChangeAt Go.RowKit
set_option linter.unusedVariables false
set_option linter.unusedSimpArgs false

theorem sq_gap (a b n : Int) : a * a + b * b - ((a + n) * (a + n) + (b - n) * (b - n)) = 2 * (n * (b - a - n)) := by grind
theorem gap_pos {a b n : Int} (hn : n = (b - a).tdiv 2) (h0 : n ≠ 0) : 1 ≤ n * (b - a - n) := by
  have hd := tdiv2 (b - a)
  rcases Int.lt_or_gt_of_ne h0 with h | h
  · have h1 : 1 ≤ -n := by omega
    have h2 : 1 ≤ -(b - a - n) := by omega
    have := Int.mul_le_mul h1 h2 (by omega) (by omega)
    have e : -n * -(b - a - n) = n * (b - a - n) := by grind
    omega
  · have h1 : 1 ≤ n := by omega
    have h2 : 1 ≤ b - a - n := by omega
    have := Int.mul_le_mul h1 h2 (by omega) (by omega)
    omega
theorem gain_e {v p f me pe rest told : Int} (h : (bal v p f me pe rest told).e = 0) : (gain v p f me pe rest told).e = 0 := by
  unfold gain
  rw [if_neg (by simp [h])]
theorem gain_none {v p f me pe rest told : Int} (h : (bal v p f me pe rest told).e = 0) (hn : (bal v p f me pe rest told).n = 0) : gain v p f me pe rest told = ⟨0, 0, 0⟩ := by
  obtain ⟨h1, h2, h3, h4, h5⟩ := bal_ok h
  rcases h5 with ⟨_, e1, e2, e3⟩ | ⟨h5, _⟩
  · unfold gain
    rw [if_neg (by simp [h]), e1, e2, e3]
    unfold drH drL lessB
    simp [hiW, lo64, hi64]
  · exact absurd hn h5
theorem gain_two {v p f me pe rest told : Int} (h : (bal v p f me pe rest told).e = 0) (hn : (bal v p f me pe rest told).n ≠ 0) :
    lessB (val (gain v p f me pe rest told).h (gain v p f me pe rest told).l) (val 0 2) = false ∧ (0 ≤ (gain v p f me pe rest told).h ∧ (gain v p f me pe rest told).h ≤ 18446744073709551615) ∧ (0 ≤ (gain v p f me pe rest told).l ∧ (gain v p f me pe rest told).l ≤ 18446744073709551615) := by
  obtain ⟨h1, h2, h3, h4, h5⟩ := bal_ok h
  have s0 := sq2_eq v p f me pe rest told
  have s1 := sq2_eq (bal v p f me pe rest told).v (bal v p f me pe rest told).p (bal v p f me pe rest told).f me pe rest told
  rw [h4] at s1
  dsimp only at s1
  have d0 := sq2_bd v p f me pe rest told
  have d1 := sq2_bd (bal v p f me pe rest told).v (bal v p f me pe rest told).p (bal v p f me pe rest told).f me pe rest told
  have g1 := gap_pos h2 hn
  have g2 := sq_gap (ends v p f me pe rest told).a (ends v p f me pe rest told).b (bal v p f me pe rest told).n
  rw [← s0, ← s1] at g2
  have hg : gain v p f me pe rest told = ⟨drH (sq2 v p f me pe rest told) (sq2 (bal v p f me pe rest told).v (bal v p f me pe rest told).p (bal v p f me pe rest told).f me pe rest told), drL (sq2 v p f me pe rest told) (sq2 (bal v p f me pe rest told).v (bal v p f me pe rest told).p (bal v p f me pe rest told).f me pe rest told), 0⟩ := by
    unfold gain
    rw [if_neg (by simp [h])]
  rw [hg]
  dsimp only
  clear hg s0 s1 h1 h2 h3 h4 h5 hn h
  generalize sq2 v p f me pe rest told = S0 at *
  generalize sq2 (bal v p f me pe rest told).v (bal v p f me pe rest told).p (bal v p f me pe rest told).f me pe rest told = S1 at *
  have hl : lessB S0 S1 = false := by unfold lessB; simp; omega
  obtain ⟨v1, v2, v3⟩ := val_of (S := S0 - S1) (by omega) (by omega)
  unfold drH drL
  rw [hl]
  simp only [Bool.false_eq_true, if_false]
  refine ⟨?_, by rw [v1]; omega, by rw [v2]; omega⟩
  rw [v3]
  unfold lessB val
  simp
  omega
theorem new_up (v me p : Int) : newB (v + 1) me v p = true := by
  unfold newB aboveB
  rw [if_neg (by omega)]
  simp
  omega
set_option maxRecDepth 100000 in
set_option maxHeartbeats 2000000 in
theorem alone_walk (me pe v p f rest told : Int) (w : World) : Calls Try.prog 6 #[.int .i64 me, .int .i64 pe, rg v p f, .int .i64 rest, .int .i64 told] w fun e w' => e = .returned (.bool true) ∧ Below w.heap.size w w' := by
  have K1 := fun w => bal_any v p f me pe rest told w
  have KA := awake_any
  by_cases hbe : (bal v p f me pe rest told).e = 0
  · obtain ⟨h1, h2, h3, h4, h5⟩ := bal_ok hbe
    obtain ⟨r1, r2⟩ := ends_rng v p f me pe rest told
    have K2 := fun w => ends_any v p f me pe rest told w
    have K3 := fun w => ends_any (bal v p f me pe rest told).v (bal v p f me pe rest told).p (bal v p f me pe rest told).f me pe rest told w
    have K4 := fun w => gain_any v p f me pe rest told w
    have hge := gain_e hbe
    have hgn := fun hn => gain_none hbe hn
    have hgt := fun hn => gain_two hbe hn
    rw [h4] at K3
    generalize gain v p f me pe rest told = G at *
    generalize ends v p f me pe rest told = E at *
    generalize bal v p f me pe rest told = B at *
    obtain ⟨u, q, g, n, e⟩ := B
    obtain ⟨x1, x2, x3⟩ := E
    obtain ⟨y1, y2, y3⟩ := G
    dsimp only at hbe h1 h2 h3 h5 r1 r2 hge hgn hgt K3
    subst hbe h1 hge
    have hd := tdiv2 (x2 - x1)
    rw [← h2] at hd
    have w1_ : IntKind.i64.wrap (x1 + x2) = x1 + x2 := by rw [IntKind.wrap_i64]; omega
    obtain ⟨c, hc⟩ : ∃ c, x1 + n = c := ⟨_, rfl⟩
    obtain ⟨d, hd'⟩ : ∃ d, x2 - n = d := ⟨_, rfl⟩
    rw [hc, hd'] at K3
    have w2_ : IntKind.i64.wrap (c + d) = x1 + x2 := by rw [IntKind.wrap_i64]; omega
    obtain ⟨t1, ht1⟩ : ∃ t, c - d = t := ⟨_, rfl⟩
    obtain ⟨t2, ht2⟩ : ∃ t, d - c = t := ⟨_, rfl⟩
    have w3_ : IntKind.i64.wrap (c - d) = t1 := by rw [ht1, IntKind.wrap_i64]; omega
    have w4_ : IntKind.i64.wrap (d - c) = t2 := by rw [ht2, IntKind.wrap_i64]; omega
    have l1 : ¬ 1 < t1 := by omega
    have l2 : ¬ 1 < t2 := by omega
    have w5_ : IntKind.i64.wrap (c - x1) = n := by rw [IntKind.wrap_i64]; omega
    obtain ⟨m1, hm1⟩ : ∃ m, (if d < c then d else c) = m := ⟨_, rfl⟩
    obtain ⟨m2, hm2⟩ : ∃ m, (if x2 < x1 then x2 else x1) = m := ⟨_, rfl⟩
    obtain ⟨m3, hm3⟩ : ∃ m, (if c < d then d else c) = m := ⟨_, rfl⟩
    obtain ⟨m4, hm4⟩ : ∃ m, (if x1 < x2 then x2 else x1) = m := ⟨_, rfl⟩
    have l3 : ¬ m1 < m2 := by rw [← hm1, ← hm2]; split <;> split <;> omega
    have l4 : ¬ m4 < m3 := by rw [← hm3, ← hm4]; split <;> split <;> omega
    clear h2 h3 hd hc hd' r1 r2 ht1 ht2
    rcases h5 with ⟨n0, e1, e2, e3⟩ | ⟨n0, e1, e2⟩
    · subst n0
      subst u q g
      obtain ⟨g1, g2⟩ : y1 = 0 ∧ y2 = 0 := by
        have := hgn rfl
        injection this with h1 h2 h3
        exact ⟨h1, h2⟩
      subst g1 g2
      clear hgn hgt
      go_enter Try.func6, Try.ntmps6
      go_wp2_with (first | (go_at_call 13; refine (K1 _).mono ?_; clear K1; rintro e w1 ⟨rfl, b1⟩; have T1 := (Tri.new w (.int .i64 v) (.int .i64 p) (.int .i64 f) 23).below b1; have B1 : Below w.heap.size w w1 := Below.trans (by go_grown) (b1.mono (by simp)); clear b1; obtain ⟨a0, a1, a2, a3, a4, a5, a6⟩ := _root_.id T1) | (go_at_call 8; refine (K2 _).mono ?_; clear K2; rintro e w2 ⟨rfl, b2⟩; have T2 := (T1.alloc (.cells #[.int .i64 v, .int .i64 p, .int .i64 f] 23)).below b2; have M2 := (Tri.new w1 (.int .i64 v) (.int .i64 p) (.int .i64 f) 23).below b2; have B2 : Below w.heap.size w w2 := (B1.alloc B1.size _).trans (b2.mono (by have := B1.size; simp; omega)); clear b2 a0 a1 a2 a3 a4 a5 a6 T1; obtain ⟨a0, a1, a2, a3, a4, a5, a6⟩ := _root_.id T2; obtain ⟨i0, i1, i2, i3, i4, i5, i6⟩ := _root_.id M2) | (go_at_call 8; refine (K3 _).mono ?_; clear K3; rintro e w3 ⟨rfl, b3⟩; have T3 := T2.below b3; have M3 := M2.below b3; have B3 : Below w.heap.size w w3 := B2.trans (b3.mono B2.size); clear b3 a0 a1 a2 a3 a4 a5 a6 i0 i1 i2 i3 i4 i5 i6 T2 M2; obtain ⟨a0, a1, a2, a3, a4, a5, a6⟩ := _root_.id T3; obtain ⟨i0, i1, i2, i3, i4, i5, i6⟩ := _root_.id M3) | (go_at_call 10; refine (K4 _).mono ?_; clear K4; rintro e w4 ⟨rfl, b4⟩; have T4 := T3.below b4; have M4 := M3.below b4; have B4 : Below w.heap.size w w4 := B3.trans (b4.mono B3.size); clear b4 a0 a1 a2 a3 a4 a5 a6 i0 i1 i2 i3 i4 i5 i6 T3 M3; obtain ⟨a0, a1, a2, a3, a4, a5, a6⟩ := _root_.id T4; obtain ⟨i0, i1, i2, i3, i4, i5, i6⟩ := _root_.id M4) | (go_at_call 12; refine (KA _).mono ?_; clear KA; rintro e w5 ⟨rfl, b5⟩; have B5 : Below w.heap.size w w5 := (B4.alloc B4.size (.cells #[.int .u64 0, .int .u64 0] 31)).trans (b5.mono (by have := (B4.alloc B4.size (.cells #[.int .u64 0, .int .u64 0] 31)).size; first | exact this | (simp; omega) | (simp at *; omega))); clear b5))
      go_ret
      exact ⟨rfl, B5⟩
    · subst u q
      obtain ⟨g1, ⟨g2, g3⟩, g4, g5⟩ := hgt n0
      have nz : (n == 0) = false := by simpa using n0
      have K5 := fun w => rnewer_any (v + 1) me g v p f w
      rw [new_up] at K5
      have K6 := fun w => rless_any y1 y2 0 2 w g2 g3 g4 g5 (by omega) (by omega) (by omega) (by omega)
      rw [g1] at K6
      clear hgn hgt g1 g2 g3 g4 g5 n0
      go_enter Try.func6, Try.ntmps6
      go_wp2_with (first | (go_at_call 13; refine (K1 _).mono ?_; clear K1; rintro e w1 ⟨rfl, b1⟩; have T1 := (Tri.new w (.int .i64 v) (.int .i64 p) (.int .i64 f) 23).below b1; have B1 : Below w.heap.size w w1 := Below.trans (by go_grown) (b1.mono (by simp)); clear b1; obtain ⟨a0, a1, a2, a3, a4, a5, a6⟩ := _root_.id T1) | (go_at_call 8; refine (K2 _).mono ?_; clear K2; rintro e w2 ⟨rfl, b2⟩; have T2 := (T1.alloc (.cells #[.int .i64 (v + 1), .int .i64 me, .int .i64 g] 23)).below b2; have M2 := (Tri.new w1 (.int .i64 (v + 1)) (.int .i64 me) (.int .i64 g) 23).below b2; have B2 : Below w.heap.size w w2 := (B1.alloc B1.size _).trans (b2.mono (by have := B1.size; simp; omega)); clear b2 a0 a1 a2 a3 a4 a5 a6 T1; obtain ⟨a0, a1, a2, a3, a4, a5, a6⟩ := _root_.id T2; obtain ⟨i0, i1, i2, i3, i4, i5, i6⟩ := _root_.id M2) | (go_at_call 8; refine (K3 _).mono ?_; clear K3; rintro e w3 ⟨rfl, b3⟩; have T3 := T2.below b3; have M3 := M2.below b3; have B3 : Below w.heap.size w w3 := B2.trans (b3.mono B2.size); clear b3 a0 a1 a2 a3 a4 a5 a6 i0 i1 i2 i3 i4 i5 i6 T2 M2; obtain ⟨a0, a1, a2, a3, a4, a5, a6⟩ := _root_.id T3; obtain ⟨i0, i1, i2, i3, i4, i5, i6⟩ := _root_.id M3) | (go_at_call 10; refine (K4 _).mono ?_; clear K4; rintro e w4 ⟨rfl, b4⟩; have T4 := T3.below b4; have M4 := M3.below b4; have B4 : Below w.heap.size w w4 := B3.trans (b4.mono B3.size); clear b4 a0 a1 a2 a3 a4 a5 a6 i0 i1 i2 i3 i4 i5 i6 T3 M3; obtain ⟨a0, a1, a2, a3, a4, a5, a6⟩ := _root_.id T4; obtain ⟨i0, i1, i2, i3, i4, i5, i6⟩ := _root_.id M4) | (go_at_call 17; refine (K5 _).mono ?_; clear K5; rintro e w6 ⟨rfl, b6⟩; have M6 := (M4.alloc (.cells #[.int .u64 y1, .int .u64 y2] 31)).below b6; have G6 := (Two.new w4 (.int .u64 y1) (.int .u64 y2) 31).below b6; have B6 : Below w.heap.size w w6 := (B4.alloc B4.size _).trans (b6.mono (by have := B4.size; simp; omega)); clear b6 a0 a1 a2 a3 a4 a5 a6 i0 i1 i2 i3 i4 i5 i6 T4 M4; obtain ⟨i0, i1, i2, i3, i4, i5, i6⟩ := _root_.id M6; obtain ⟨j0, j1, j2, j3, j4⟩ := _root_.id G6) | (go_at_call 18; refine (K6 _).mono ?_; clear K6; rintro e w7 ⟨rfl, b7⟩; have B7 : Below w.heap.size w w7 := B6.trans (b7.mono B6.size); clear b7) | (go_at_call 12; refine (KA _).mono ?_; clear KA; rintro e w5 ⟨rfl, b5⟩; have B5 : Below w.heap.size w w5 := B7.trans (b5.mono (by have := B7.size; first | exact this | (simp; omega) | (simp at *; omega))); clear b5))
      go_ret
      exact ⟨rfl, B5⟩
  · obtain ⟨c, hcc, hc0⟩ : ∃ c, bal v p f me pe rest told = ⟨0, 0, 0, 0, c⟩ ∧ (c != 0) = true := by
      rcases bal_cases v p f me pe rest told with h | h | h
      · exact ⟨31, h, by decide⟩
      · exact ⟨10, h, by decide⟩
      · exact absurd h hbe
    rw [hcc] at K1
    clear hcc hbe
    go_enter Try.func6, Try.ntmps6
    go_wp2_with (first | (go_at_call 13; refine (K1 _).mono ?_; clear K1; rintro e w1 ⟨rfl, b1⟩; have T1 := (Tri.new w (.int .i64 v) (.int .i64 p) (.int .i64 f) 23).below b1; have B1 : Below w.heap.size w w1 := Below.trans (by go_grown) (b1.mono (by simp)); clear b1; obtain ⟨a0, a1, a2, a3, a4, a5, a6⟩ := _root_.id T1) | (go_at_call 12; refine (KA _).mono ?_; clear KA; rintro e w5 ⟨rfl, b5⟩; have B5 : Below w.heap.size w w5 := (B1.alloc B1.size (.cells #[.int .i64 0, .int .i64 0, .int .i64 0] 23)).trans (b5.mono (by have := (B1.alloc B1.size (.cells #[.int .i64 0, .int .i64 0, .int .i64 0] 23)).size; first | exact this | (simp; omega) | (simp at *; omega))); clear b5))
    go_ret
    exact ⟨rfl, B5⟩
end Go.Proofs.Ytcjdfnfaiocdjaa
