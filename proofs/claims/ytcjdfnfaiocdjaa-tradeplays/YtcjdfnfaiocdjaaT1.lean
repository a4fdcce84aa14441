/-
  Package trade: what Balance returns, and the document's own answer for it.
-/
import Derived.Test.YtcjdfnfaiocdjaaT0
namespace Go.Proofs.Ytcjdfnfaiocdjaa
open Go.ChangeShapes Go.WideShapes Go.ChangeAt Go.RowKit
set_option linter.unusedVariables false
set_option linter.unusedSimpArgs false

/-- Ver, Writer, Flow, the amount and the error. -/
structure BV where
  v : Int
  p : Int
  f : Int
  n : Int
  e : Int
def amt (v p f me pe rest told : Int) : Int := ((ends v p f me pe rest told).b - (ends v p f me pe rest told).a).tdiv 2
def bal (v p f me pe rest told : Int) : BV :=
  if (ends v p f me pe rest told).e ≠ 0 then ⟨0, 0, 0, 0, (ends v p f me pe rest told).e⟩
  else if (mv v p f pe me (amt v p f me pe rest told) me).e ≠ 0 then ⟨0, 0, 0, 0, (mv v p f pe me (amt v p f me pe rest told) me).e⟩
  else ⟨(mv v p f pe me (amt v p f me pe rest told) me).v, (mv v p f pe me (amt v p f me pe rest told) me).p, (mv v p f pe me (amt v p f me pe rest told) me).f, amt v p f me pe rest told, 0⟩
abbrev bvV (m : BV) : Value := .tuple #[rg m.v m.p m.f, .int .i64 m.n, .int .i64 m.e]
theorem ends_cases (v p f me pe rest told : Int) : ends v p f me pe rest told = ⟨0, 0, 31⟩ ∨ ends v p f me pe rest told = ⟨0, 0, 10⟩ ∨
    (fitB v p f me pe = true ∧ rngB rest = true ∧ rngB told = true ∧ rngB (rest - outZ v p f me pe) = true ∧ rngB (told - outZ v p f pe me) = true ∧ ends v p f me pe rest told = ⟨rest - outZ v p f me pe, told - outZ v p f pe me, 0⟩) := by
  unfold ends
  cases h1 : fitB v p f me pe with
  | false => left; simp
  | true =>
    right
    by_cases h2 : rngB rest = false ∨ rngB told = false
    · left; rw [if_neg (by simp), if_pos h2]
    · by_cases h3 : rngB (rest - outZ v p f me pe) = false ∨ rngB (told - outZ v p f pe me) = false
      · left; rw [if_neg (by simp), if_neg h2, if_pos h3]
      · right
        refine ⟨rfl, ?_, ?_, ?_, ?_, ?_⟩
        · cases h : rngB rest <;> simp_all
        · cases h : rngB told <;> simp_all
        · cases h : rngB (rest - outZ v p f me pe) <;> simp_all
        · cases h : rngB (told - outZ v p f pe me) <;> simp_all
        · rw [if_neg (by simp), if_neg h2, if_neg h3]
theorem mv_cases2 (v p f a b x q : Int) : mv v p f a b x q = ⟨0, 0, 0, 31⟩ ∨ mv v p f a b x q = ⟨0, 0, 0, 10⟩ ∨ (mv v p f a b x q).e = 0 := by
  unfold mv
  split
  · exact .inl rfl
  · split
    · exact .inr (.inl rfl)
    · split
      · exact .inr (.inr rfl)
      · split
        · exact .inr (.inl rfl)
        · exact .inr (.inr rfl)
theorem half_yes {a b : Int} (ha : rngB a = true) (hb : rngB b = true) : halfV a b = (a - b).tdiv 2 ∧ halfE a b = 0 := by
  unfold halfV halfE
  simp [rng_fits, ha, hb]
theorem tdiv2 (x : Int) : (0 ≤ x ∧ x.tdiv 2 = x / 2) ∨ (x < 0 ∧ x.tdiv 2 = -((-x) / 2)) := by
  by_cases h : 0 ≤ x
  · exact .inl ⟨h, Int.tdiv_eq_ediv_of_nonneg h⟩
  · refine .inr ⟨by omega, ?_⟩
    have : x = -(-x) := by omega
    rw [this, Int.neg_tdiv, Int.tdiv_eq_ediv_of_nonneg (by omega)]
    simp
theorem amt_bd {a b : Int} (ha : rngB a = true) (hb : rngB b = true) : -2147483647 ≤ (a - b).tdiv 2 ∧ (a - b).tdiv 2 ≤ 2147483647 := by
  have h1 := rng_true ha
  have h2 := rng_true hb
  have h3 := tdiv2 (a - b)
  omega
set_option maxRecDepth 100000 in
set_option maxHeartbeats 2000000 in
theorem bal_any (v p f me pe rest told : Int) (w : World) : Calls Try.prog 13 #[.int .i64 me, .int .i64 pe, rg v p f, .int .i64 rest, .int .i64 told] w fun e w' => e = .returned (bvV (bal v p f me pe rest told)) ∧ Below w.heap.size w w' := by
  have K8 := fun w => ends_any v p f me pe rest told w
  rcases ends_cases v p f me pe rest told with h | h | ⟨h1, h2, h3, h4, h5, h⟩
  · rw [h] at K8
    rw [show bal v p f me pe rest told = ⟨0, 0, 0, 0, 31⟩ from by unfold bal; rw [h]; rfl]
    clear h
    go_enter Try.func13, Try.ntmps13
    go_wp2_with (first | (go_at_call 8; refine (K8 _).mono ?_; clear K8; rintro e w1 ⟨rfl, hb⟩; obtain ⟨a0, a1, a2, b0, b1, b2, z0⟩ := ((Tri.new w (.int .i64 v) (.int .i64 p) (.int .i64 f) 23).alloc (.cells #[.int .i64 0, .int .i64 0, .int .i64 0] 23)).below hb; obtain ⟨c0, c1, c2, d0, d1, d2, z1⟩ := ((Tri.new (w.alloc (.cells #[.int .i64 v, .int .i64 p, .int .i64 f] 23)) (.int .i64 0) (.int .i64 0) (.int .i64 0) 23).below hb).at (k' := w.heap.size + 1) (by simp); have hB : Below w.heap.size w w1 := Below.trans (by go_grown) (hb.mono (by simp; omega)); clear hb))
    exact bodyPost_ret (v := bvV ⟨0, 0, 0, 0, 31⟩) (by simp [results, Try.results13, go_sem, c0, c1, c2, d0, d1, d2, z1]) rfl ⟨rfl, by go_grown⟩
  · rw [h] at K8
    rw [show bal v p f me pe rest told = ⟨0, 0, 0, 0, 10⟩ from by unfold bal; rw [h]; rfl]
    clear h
    go_enter Try.func13, Try.ntmps13
    go_wp2_with (first | (go_at_call 8; refine (K8 _).mono ?_; clear K8; rintro e w1 ⟨rfl, hb⟩; obtain ⟨a0, a1, a2, b0, b1, b2, z0⟩ := ((Tri.new w (.int .i64 v) (.int .i64 p) (.int .i64 f) 23).alloc (.cells #[.int .i64 0, .int .i64 0, .int .i64 0] 23)).below hb; obtain ⟨c0, c1, c2, d0, d1, d2, z1⟩ := ((Tri.new (w.alloc (.cells #[.int .i64 v, .int .i64 p, .int .i64 f] 23)) (.int .i64 0) (.int .i64 0) (.int .i64 0) 23).below hb).at (k' := w.heap.size + 1) (by simp); have hB : Below w.heap.size w w1 := Below.trans (by go_grown) (hb.mono (by simp; omega)); clear hb))
    exact bodyPost_ret (v := bvV ⟨0, 0, 0, 0, 10⟩) (by simp [results, Try.results13, go_sem, c0, c1, c2, d0, d1, d2, z1]) rfl ⟨rfl, by go_grown⟩
  · rw [h] at K8
    have HA : amt v p f me pe rest told = ((told - outZ v p f pe me) - (rest - outZ v p f me pe)).tdiv 2 := by unfold amt; rw [h]
    have HB : Hid (bal v p f me pe rest told = if (mv v p f pe me (amt v p f me pe rest told) me).e ≠ 0 then ⟨0, 0, 0, 0, (mv v p f pe me (amt v p f me pe rest told) me).e⟩
      else ⟨(mv v p f pe me (amt v p f me pe rest told) me).v, (mv v p f pe me (amt v p f me pe rest told) me).p, (mv v p f pe me (amt v p f me pe rest told) me).f, amt v p f me pe rest told, 0⟩) := by
      show _ = _
      unfold bal
      rw [h]
      rfl
    rw [HA] at HB
    clear HA h
    generalize rest - outZ v p f me pe = x1 at *
    generalize told - outZ v p f pe me = x2 at *
    have bd := amt_bd h5 h4
    have KH := fun w => half_any x2 x1 w
    obtain ⟨q1, q2⟩ := half_yes h5 h4
    rw [q1, q2] at KH
    clear q1 q2
    clear h1 h2 h3 h4 h5
    generalize (x2 - x1).tdiv 2 = y at *
    have KM := fun w => move_any v p f pe me y me w
    obtain ⟨M, hM⟩ : ∃ M, mv v p f pe me y me = M := ⟨_, rfl⟩
    have hc := mv_cases2 v p f pe me y me
    rw [hM] at hc HB KM
    rcases hc with hc | hc | hc
    · subst hc
      rw [show bal v p f me pe rest told = ⟨0, 0, 0, 0, 31⟩ from by rw [HB.out]; rfl]
      clear HB hM
      go_enter Try.func13, Try.ntmps13
      go_wp2_with (first | (go_at_call 8; refine (K8 _).mono ?_; clear K8; rintro e w1 ⟨rfl, hb⟩; obtain ⟨a0, a1, a2, b0, b1, b2, z0⟩ := ((Tri.new w (.int .i64 v) (.int .i64 p) (.int .i64 f) 23).alloc (.cells #[.int .i64 0, .int .i64 0, .int .i64 0] 23)).below hb; obtain ⟨c0, c1, c2, d0, d1, d2, z1⟩ := ((Tri.new (w.alloc (.cells #[.int .i64 v, .int .i64 p, .int .i64 f] 23)) (.int .i64 0) (.int .i64 0) (.int .i64 0) 23).below hb).at (k' := w.heap.size + 1) (by simp); have hB : Below w.heap.size w w1 := Below.trans (by go_grown) (hb.mono (by simp; omega)); clear hb) | (go_at_call 29; refine (KH _).mono ?_; clear KH; rintro e wx ⟨rfl, hw⟩; rw [hw]; clear hw wx) | (go_at_call 30; refine (KM _).mono ?_; clear KM; rintro e w2 ⟨rfl, hb2⟩; obtain ⟨e0, e1, e2, f0, f1, f2, z2⟩ := (Tri.mk a0 a1 a2 b0 b1 b2 z0).below hb2; obtain ⟨g0, g1, g2, h0, h1, h2, z3⟩ := (Tri.mk c0 c1 c2 d0 d1 d2 z1).below hb2; have hB2 : Below w.heap.size w w2 := hB.trans (hb2.mono hB.size); clear hb2 a0 a1 a2 b0 b1 b2 c0 c1 c2 d0 d1 d2))
      exact bodyPost_ret (v := bvV ⟨0, 0, 0, 0, 31⟩) (by simp [results, Try.results13, go_sem, g0, g1, g2, h0, h1, h2, z3]) rfl ⟨rfl, by go_grown⟩
    · subst hc
      rw [show bal v p f me pe rest told = ⟨0, 0, 0, 0, 10⟩ from by rw [HB.out]; rfl]
      clear HB hM
      go_enter Try.func13, Try.ntmps13
      go_wp2_with (first | (go_at_call 8; refine (K8 _).mono ?_; clear K8; rintro e w1 ⟨rfl, hb⟩; obtain ⟨a0, a1, a2, b0, b1, b2, z0⟩ := ((Tri.new w (.int .i64 v) (.int .i64 p) (.int .i64 f) 23).alloc (.cells #[.int .i64 0, .int .i64 0, .int .i64 0] 23)).below hb; obtain ⟨c0, c1, c2, d0, d1, d2, z1⟩ := ((Tri.new (w.alloc (.cells #[.int .i64 v, .int .i64 p, .int .i64 f] 23)) (.int .i64 0) (.int .i64 0) (.int .i64 0) 23).below hb).at (k' := w.heap.size + 1) (by simp); have hB : Below w.heap.size w w1 := Below.trans (by go_grown) (hb.mono (by simp; omega)); clear hb) | (go_at_call 29; refine (KH _).mono ?_; clear KH; rintro e wx ⟨rfl, hw⟩; rw [hw]; clear hw wx) | (go_at_call 30; refine (KM _).mono ?_; clear KM; rintro e w2 ⟨rfl, hb2⟩; obtain ⟨e0, e1, e2, f0, f1, f2, z2⟩ := (Tri.mk a0 a1 a2 b0 b1 b2 z0).below hb2; obtain ⟨g0, g1, g2, h0, h1, h2, z3⟩ := (Tri.mk c0 c1 c2 d0 d1 d2 z1).below hb2; have hB2 : Below w.heap.size w w2 := hB.trans (hb2.mono hB.size); clear hb2 a0 a1 a2 b0 b1 b2 c0 c1 c2 d0 d1 d2))
      exact bodyPost_ret (v := bvV ⟨0, 0, 0, 0, 10⟩) (by simp [results, Try.results13, go_sem, g0, g1, g2, h0, h1, h2, z3]) rfl ⟨rfl, by go_grown⟩
    · obtain ⟨mv0, mp0, mf0, me0⟩ := M
      dsimp only at hc
      subst hc
      rw [show bal v p f me pe rest told = ⟨mv0, mp0, mf0, y, 0⟩ from by rw [HB.out]; rfl]
      clear HB hM
      go_enter Try.func13, Try.ntmps13
      go_wp2_with (first | (go_at_call 8; refine (K8 _).mono ?_; clear K8; rintro e w1 ⟨rfl, hb⟩; obtain ⟨a0, a1, a2, b0, b1, b2, z0⟩ := ((Tri.new w (.int .i64 v) (.int .i64 p) (.int .i64 f) 23).alloc (.cells #[.int .i64 0, .int .i64 0, .int .i64 0] 23)).below hb; obtain ⟨c0, c1, c2, d0, d1, d2, z1⟩ := ((Tri.new (w.alloc (.cells #[.int .i64 v, .int .i64 p, .int .i64 f] 23)) (.int .i64 0) (.int .i64 0) (.int .i64 0) 23).below hb).at (k' := w.heap.size + 1) (by simp); have hB : Below w.heap.size w w1 := Below.trans (by go_grown) (hb.mono (by simp; omega)); clear hb) | (go_at_call 29; refine (KH _).mono ?_; clear KH; rintro e wx ⟨rfl, hw⟩; rw [hw]; clear hw wx) | (go_at_call 30; refine (KM _).mono ?_; clear KM; rintro e w2 ⟨rfl, hb2⟩; obtain ⟨e0, e1, e2, f0, f1, f2, z2⟩ := (Tri.mk a0 a1 a2 b0 b1 b2 z0).below hb2; obtain ⟨g0, g1, g2, h0, h1, h2, z3⟩ := (Tri.mk c0 c1 c2 d0 d1 d2 z1).below hb2; have hB2 : Below w.heap.size w w2 := hB.trans (hb2.mono hB.size); clear hb2 a0 a1 a2 b0 b1 b2 c0 c1 c2 d0 d1 d2))
      exact bodyPost_ret (v := bvV ⟨mv0, mp0, mf0, y, 0⟩) (by simp [results, Try.results13, go_sem, g0, g1, g2, h0, h1, h2, z3]) rfl ⟨rfl, by go_grown⟩
set_option maxRecDepth 100000 in
set_option maxHeartbeats 2000000 in
theorem rbal_any (v p f me pe rest told : Int) (w : World) : Calls Try.prog 14 #[.int .i64 me, .int .i64 pe, rg v p f, .int .i64 rest, .int .i64 told] w fun e w' => e = .returned (bvV (bal v p f me pe rest told)) ∧ Below w.heap.size w w' := by
  have K8 := fun w => rends_any v p f me pe rest told w
  rcases ends_cases v p f me pe rest told with h | h | ⟨h1, h2, h3, h4, h5, h⟩
  · rw [h] at K8
    rw [show bal v p f me pe rest told = ⟨0, 0, 0, 0, 31⟩ from by unfold bal; rw [h]; rfl]
    clear h
    go_enter Try.func14, Try.ntmps14
    go_wp2_with (first | (go_at_call 9; refine (K8 _).mono ?_; clear K8; rintro e w1 ⟨rfl, hb⟩; obtain ⟨a0, a1, a2, b0, b1, b2, z0⟩ := ((Tri.new w (.int .i64 v) (.int .i64 p) (.int .i64 f) 23).alloc (.cells #[.int .i64 0, .int .i64 0, .int .i64 0] 23)).below hb; obtain ⟨c0, c1, c2, d0, d1, d2, z1⟩ := ((Tri.new (w.alloc (.cells #[.int .i64 v, .int .i64 p, .int .i64 f] 23)) (.int .i64 0) (.int .i64 0) (.int .i64 0) 23).below hb).at (k' := w.heap.size + 1) (by simp); have hB : Below w.heap.size w w1 := Below.trans (by go_grown) (hb.mono (by simp; omega)); clear hb))
    exact bodyPost_ret (v := bvV ⟨0, 0, 0, 0, 31⟩) (by simp [results, Try.results14, go_sem, c0, c1, c2, d0, d1, d2, z1]) rfl ⟨rfl, by go_grown⟩
  · rw [h] at K8
    rw [show bal v p f me pe rest told = ⟨0, 0, 0, 0, 10⟩ from by unfold bal; rw [h]; rfl]
    clear h
    go_enter Try.func14, Try.ntmps14
    go_wp2_with (first | (go_at_call 9; refine (K8 _).mono ?_; clear K8; rintro e w1 ⟨rfl, hb⟩; obtain ⟨a0, a1, a2, b0, b1, b2, z0⟩ := ((Tri.new w (.int .i64 v) (.int .i64 p) (.int .i64 f) 23).alloc (.cells #[.int .i64 0, .int .i64 0, .int .i64 0] 23)).below hb; obtain ⟨c0, c1, c2, d0, d1, d2, z1⟩ := ((Tri.new (w.alloc (.cells #[.int .i64 v, .int .i64 p, .int .i64 f] 23)) (.int .i64 0) (.int .i64 0) (.int .i64 0) 23).below hb).at (k' := w.heap.size + 1) (by simp); have hB : Below w.heap.size w w1 := Below.trans (by go_grown) (hb.mono (by simp; omega)); clear hb))
    exact bodyPost_ret (v := bvV ⟨0, 0, 0, 0, 10⟩) (by simp [results, Try.results14, go_sem, c0, c1, c2, d0, d1, d2, z1]) rfl ⟨rfl, by go_grown⟩
  · rw [h] at K8
    have HA : amt v p f me pe rest told = ((told - outZ v p f pe me) - (rest - outZ v p f me pe)).tdiv 2 := by unfold amt; rw [h]
    have HB : Hid (bal v p f me pe rest told = if (mv v p f pe me (amt v p f me pe rest told) me).e ≠ 0 then ⟨0, 0, 0, 0, (mv v p f pe me (amt v p f me pe rest told) me).e⟩
      else ⟨(mv v p f pe me (amt v p f me pe rest told) me).v, (mv v p f pe me (amt v p f me pe rest told) me).p, (mv v p f pe me (amt v p f me pe rest told) me).f, amt v p f me pe rest told, 0⟩) := by
      show _ = _
      unfold bal
      rw [h]
      rfl
    rw [HA] at HB
    clear HA h
    generalize rest - outZ v p f me pe = x1 at *
    generalize told - outZ v p f pe me = x2 at *
    have bd := amt_bd h5 h4
    have b1 := rng_true h4
    have b2 := rng_true h5
    have W1 : IntKind.i64.wrap (x2 - x1) = x2 - x1 := by rw [IntKind.wrap_i64]; omega
    have W2 : IntKind.i64.wrap ((x2 - x1).tdiv 2) = (x2 - x1).tdiv 2 := by rw [IntKind.wrap_i64]; have h3 := tdiv2 (x2 - x1); omega
    clear h1 h2 h3 h4 h5
    obtain ⟨y, hy⟩ : ∃ y, (x2 - x1).tdiv 2 = y := ⟨_, rfl⟩
    rw [hy] at HB W2 bd
    have KM := fun w => rmove_any v p f pe me y me w
    obtain ⟨M, hM⟩ : ∃ M, mv v p f pe me y me = M := ⟨_, rfl⟩
    have hc := mv_cases2 v p f pe me y me
    rw [hM] at hc HB KM
    rcases hc with hc | hc | hc
    · subst hc
      rw [show bal v p f me pe rest told = ⟨0, 0, 0, 0, 31⟩ from by rw [HB.out]; rfl]
      clear HB hM
      go_enter Try.func14, Try.ntmps14
      go_wp2_with (first | (go_at_call 9; refine (K8 _).mono ?_; clear K8; rintro e w1 ⟨rfl, hb⟩; obtain ⟨a0, a1, a2, b0, b1, b2, z0⟩ := ((Tri.new w (.int .i64 v) (.int .i64 p) (.int .i64 f) 23).alloc (.cells #[.int .i64 0, .int .i64 0, .int .i64 0] 23)).below hb; obtain ⟨c0, c1, c2, d0, d1, d2, z1⟩ := ((Tri.new (w.alloc (.cells #[.int .i64 v, .int .i64 p, .int .i64 f] 23)) (.int .i64 0) (.int .i64 0) (.int .i64 0) 23).below hb).at (k' := w.heap.size + 1) (by simp); have hB : Below w.heap.size w w1 := Below.trans (by go_grown) (hb.mono (by simp; omega)); clear hb) | (go_at_call 31; refine (KM _).mono ?_; clear KM; rintro e w2 ⟨rfl, hb2⟩; obtain ⟨e0, e1, e2, f0, f1, f2, z2⟩ := (Tri.mk a0 a1 a2 b0 b1 b2 z0).below hb2; obtain ⟨g0, g1, g2, h0, h1, h2, z3⟩ := (Tri.mk c0 c1 c2 d0 d1 d2 z1).below hb2; have hB2 : Below w.heap.size w w2 := hB.trans (hb2.mono hB.size); clear hb2 a0 a1 a2 b0 b1 b2 c0 c1 c2 d0 d1 d2))
      exact bodyPost_ret (v := bvV ⟨0, 0, 0, 0, 31⟩) (by simp [results, Try.results14, go_sem, g0, g1, g2, h0, h1, h2, z3]) rfl ⟨rfl, by go_grown⟩
    · subst hc
      rw [show bal v p f me pe rest told = ⟨0, 0, 0, 0, 10⟩ from by rw [HB.out]; rfl]
      clear HB hM
      go_enter Try.func14, Try.ntmps14
      go_wp2_with (first | (go_at_call 9; refine (K8 _).mono ?_; clear K8; rintro e w1 ⟨rfl, hb⟩; obtain ⟨a0, a1, a2, b0, b1, b2, z0⟩ := ((Tri.new w (.int .i64 v) (.int .i64 p) (.int .i64 f) 23).alloc (.cells #[.int .i64 0, .int .i64 0, .int .i64 0] 23)).below hb; obtain ⟨c0, c1, c2, d0, d1, d2, z1⟩ := ((Tri.new (w.alloc (.cells #[.int .i64 v, .int .i64 p, .int .i64 f] 23)) (.int .i64 0) (.int .i64 0) (.int .i64 0) 23).below hb).at (k' := w.heap.size + 1) (by simp); have hB : Below w.heap.size w w1 := Below.trans (by go_grown) (hb.mono (by simp; omega)); clear hb) | (go_at_call 31; refine (KM _).mono ?_; clear KM; rintro e w2 ⟨rfl, hb2⟩; obtain ⟨e0, e1, e2, f0, f1, f2, z2⟩ := (Tri.mk a0 a1 a2 b0 b1 b2 z0).below hb2; obtain ⟨g0, g1, g2, h0, h1, h2, z3⟩ := (Tri.mk c0 c1 c2 d0 d1 d2 z1).below hb2; have hB2 : Below w.heap.size w w2 := hB.trans (hb2.mono hB.size); clear hb2 a0 a1 a2 b0 b1 b2 c0 c1 c2 d0 d1 d2))
      exact bodyPost_ret (v := bvV ⟨0, 0, 0, 0, 10⟩) (by simp [results, Try.results14, go_sem, g0, g1, g2, h0, h1, h2, z3]) rfl ⟨rfl, by go_grown⟩
    · obtain ⟨mv0, mp0, mf0, me0⟩ := M
      dsimp only at hc
      subst hc
      rw [show bal v p f me pe rest told = ⟨mv0, mp0, mf0, y, 0⟩ from by rw [HB.out]; rfl]
      clear HB hM
      go_enter Try.func14, Try.ntmps14
      go_wp2_with (first | (go_at_call 9; refine (K8 _).mono ?_; clear K8; rintro e w1 ⟨rfl, hb⟩; obtain ⟨a0, a1, a2, b0, b1, b2, z0⟩ := ((Tri.new w (.int .i64 v) (.int .i64 p) (.int .i64 f) 23).alloc (.cells #[.int .i64 0, .int .i64 0, .int .i64 0] 23)).below hb; obtain ⟨c0, c1, c2, d0, d1, d2, z1⟩ := ((Tri.new (w.alloc (.cells #[.int .i64 v, .int .i64 p, .int .i64 f] 23)) (.int .i64 0) (.int .i64 0) (.int .i64 0) 23).below hb).at (k' := w.heap.size + 1) (by simp); have hB : Below w.heap.size w w1 := Below.trans (by go_grown) (hb.mono (by simp; omega)); clear hb) | (go_at_call 31; refine (KM _).mono ?_; clear KM; rintro e w2 ⟨rfl, hb2⟩; obtain ⟨e0, e1, e2, f0, f1, f2, z2⟩ := (Tri.mk a0 a1 a2 b0 b1 b2 z0).below hb2; obtain ⟨g0, g1, g2, h0, h1, h2, z3⟩ := (Tri.mk c0 c1 c2 d0 d1 d2 z1).below hb2; have hB2 : Below w.heap.size w w2 := hB.trans (hb2.mono hB.size); clear hb2 a0 a1 a2 b0 b1 b2 c0 c1 c2 d0 d1 d2))
      exact bodyPost_ret (v := bvV ⟨mv0, mp0, mf0, y, 0⟩) (by simp [results, Try.results14, go_sem, g0, g1, g2, h0, h1, h2, z3]) rfl ⟨rfl, by go_grown⟩
end Go.Proofs.Ytcjdfnfaiocdjaa
