/-
  Package trade: the estimates at the two ends of an edge (Ends), and the document's own answer for them.
-/
import Derived.Test.YtcjdfnfaiocdjaaR4
import Derived.Test.YtcjdfnfaiocdjaaR6
import Derived.Test.YtcjdfnfaiocdjaaRow2
import Derived.Below
namespace Go.Proofs.Ytcjdfnfaiocdjaa
open Go.ChangeShapes Go.WideShapes Go.ChangeAt Go.RowKit
set_option linter.unusedVariables false
set_option linter.unusedSimpArgs false

/-- The two estimates and the error. -/
structure EV where
  a : Int
  b : Int
  e : Int
def ends (v p f me pe rest told : Int) : EV :=
  if fitB v p f me pe = false then ⟨0, 0, 31⟩ else if rngB rest = false ∨ rngB told = false then ⟨0, 0, 10⟩
  else if rngB (rest - outZ v p f me pe) = false ∨ rngB (told - outZ v p f pe me) = false then ⟨0, 0, 10⟩
  else ⟨rest - outZ v p f me pe, told - outZ v p f pe me, 0⟩
abbrev evV (m : EV) : Value := .tuple #[.int .i64 m.a, .int .i64 m.b, .int .i64 m.e]
theorem rng_fits (x : Int) : fitsB x = rngB x := rfl
theorem fit_turn (v p f a b : Int) : fitB v p f b a = fitB v p f a b := by
  have e1 : edgeB b a = edgeB a b := by
    unfold edgeB
    by_cases h : a = b
    · subst h; rfl
    · have h' : ¬ b = a := fun e => h e.symm
      simp [h, h']
      exact Bool.and_comm _ _
  have e2 : endB p b a = endB p a b := by unfold endB; exact Bool.or_comm _ _
  unfold fitB lineB
  rw [e1, e2]
theorem out_bd (v p f a b : Int) : -2147483647 ≤ outZ v p f a b ∧ outZ v p f a b ≤ 2147483647 := by
  unfold outZ
  by_cases h : fitB v p f a b = true
  · rw [if_pos h]
    have := fit_rng h
    unfold alongZ
    split <;> omega
  · rw [if_neg h]; omega
theorem out_turn {v p f a b : Int} (h : fitB v p f a b = true) : outZ v p f b a = - outZ v p f a b := by
  unfold outZ
  rw [fit_turn, if_pos h, if_pos h]
  have := (fit_ver h).2.2
  unfold alongZ
  by_cases c : a < b
  · rw [if_pos c, if_neg (by omega)]
  · rw [if_neg c, if_pos (by omega)]; omega
theorem sub_no {a b : Int} (hb : rngB b = true) (h : rngB a = false ∨ rngB (a - b) = false) : opV a b (a - b) = 0 ∧ opE a b (a - b) = 10 := by
  unfold opV opE chkV chkE
  simp only [rng_fits, hb]
  cases ha : rngB a with
  | false => simp
  | true =>
    have h2 : rngB (a - b) = false := by rcases h with h | h <;> simp_all
    simp [h2]
theorem sub_yes {a b : Int} (hb : rngB b = true) (ha : rngB a = true) (h : rngB (a - b) = true) : opV a b (a - b) = a - b ∧ opE a b (a - b) = 0 := by
  unfold opV opE chkV chkE
  simp only [rng_fits, hb, ha, h]
  simp
theorem out_rngB (v p f a b : Int) : rngB (outZ v p f a b) = true := by
  have := out_bd v p f a b
  unfold rngB
  simpa using this
set_option maxRecDepth 100000 in
set_option maxHeartbeats 2000000 in
theorem ends_any (v p f me pe rest told : Int) (w : World) : Calls Try.prog 8 #[.int .i64 me, .int .i64 pe, rg v p f, .int .i64 rest, .int .i64 told] w fun e w' => e = .returned (evV (ends v p f me pe rest told)) ∧ Below w.heap.size w w' := by
  cases hf : fitB v p f me pe with
  | false =>
    rw [show ends v p f me pe rest told = ⟨0, 0, 31⟩ from by simp [ends, hf]]
    go_enter Try.func8, Try.ntmps8
    go_wp2_with (first | (go_at_call 19; refine (fit_any v p f me pe _).mono ?_; rintro e w1 ⟨rfl, hb⟩; rw [hf]; obtain ⟨a0, a1, a2, b0, b1, b2, z0⟩ := (Tri.new w (.int .i64 v) (.int .i64 p) (.int .i64 f) 23).below hb; have hB : Below w.heap.size w w1 := Below.trans (by go_grown) (hb.mono (by simp)); clear hb))
    exact bodyPost_ret (v := evV ⟨0, 0, 31⟩) (by simp [results, Try.results8, go_sem]) rfl ⟨rfl, by go_grown⟩
  | true =>
    have r1 := out_rngB v p f me pe
    have r2 := out_rngB v p f pe me
    have K1 : ∀ w, Calls Try.prog 21 #[rg v p f, .int .i64 me, .int .i64 pe] w fun e w' => e = .returned (.int .i64 (outZ v p f me pe)) ∧ Below w.heap.size w w' := fun w => out_any v p f me pe w
    have K3 : ∀ w, Calls Try.prog 21 #[rg v p f, .int .i64 pe, .int .i64 me] w fun e w' => e = .returned (.int .i64 (outZ v p f pe me)) ∧ Below w.heap.size w w' := fun w => out_any v p f pe me w
    have K2 := fun w => sub_any rest (outZ v p f me pe) w
    have K4 := fun w => sub_any told (outZ v p f pe me) w
    have HE : Hid (ends v p f me pe rest told = if rngB rest = false ∨ rngB told = false then ⟨0, 0, 10⟩
      else if rngB (rest - outZ v p f me pe) = false ∨ rngB (told - outZ v p f pe me) = false then ⟨0, 0, 10⟩
      else ⟨rest - outZ v p f me pe, told - outZ v p f pe me, 0⟩) := by
      show _ = _
      unfold ends
      rw [if_neg (by simp [hf])]
    generalize outZ v p f me pe = o1 at *
    generalize outZ v p f pe me = o2 at *
    by_cases h1 : rngB rest = false ∨ rngB (rest - o1) = false
    · obtain ⟨q1, q2⟩ := sub_no r1 h1
      rw [q1, q2] at K2
      rw [show ends v p f me pe rest told = ⟨0, 0, 10⟩ from by
        rw [HE.out]; rcases h1 with h | h
        · rw [if_pos (Or.inl h)]
        · split
          · rfl
          · rw [if_pos (Or.inl h)]]
      clear HE h1 q1 q2 r1 r2
      go_enter Try.func8, Try.ntmps8
      go_wp2_with (first | (go_at_call 19; refine (fit_any v p f me pe _).mono ?_; rintro e w1 ⟨rfl, hb⟩; rw [hf]; obtain ⟨a0, a1, a2, b0, b1, b2, z0⟩ := (Tri.new w (.int .i64 v) (.int .i64 p) (.int .i64 f) 23).below hb; have hB : Below w.heap.size w w1 := Below.trans (by go_grown) (hb.mono (by simp)); clear hb) | (go_at_call 21; refine (K1 _).mono ?_; clear K1; rintro e w2 ⟨rfl, hb2⟩; obtain ⟨c0, c1, c2, d0, d1, d2, z1⟩ := (Tri.mk a0 a1 a2 b0 b1 b2 z0).below hb2; have hB2 : Below w.heap.size w w2 := hB.trans (hb2.mono hB.size); clear hb2) | (go_at_call 20; refine (K2 _).mono ?_; clear K2; rintro e wx ⟨rfl, hw⟩; rw [hw]; clear hw wx))
      exact bodyPost_ret (v := evV ⟨0, 0, 10⟩) (by simp [results, Try.results8, go_sem]) rfl ⟨rfl, by go_grown⟩
    · have h1a : rngB rest = true := by cases h : rngB rest <;> simp_all
      have h1b : rngB (rest - o1) = true := by cases h : rngB (rest - o1) <;> simp_all
      obtain ⟨q1, q2⟩ := sub_yes r1 h1a h1b
      rw [q1, q2] at K2
      by_cases h2 : rngB told = false ∨ rngB (told - o2) = false
      · obtain ⟨q3, q4⟩ := sub_no r2 h2
        rw [q3, q4] at K4
        rw [show ends v p f me pe rest told = ⟨0, 0, 10⟩ from by
          rw [HE.out]; rcases h2 with h | h
          · rw [if_pos (Or.inr h)]
          · split
            · rfl
            · rw [if_pos (Or.inr h)]]
        clear HE h1 q1 q2 r1 r2 h1a h1b h2 q3 q4
        go_enter Try.func8, Try.ntmps8
        go_wp2_with (first | (go_at_call 19; refine (fit_any v p f me pe _).mono ?_; rintro e w1 ⟨rfl, hb⟩; rw [hf]; obtain ⟨a0, a1, a2, b0, b1, b2, z0⟩ := (Tri.new w (.int .i64 v) (.int .i64 p) (.int .i64 f) 23).below hb; have hB : Below w.heap.size w w1 := Below.trans (by go_grown) (hb.mono (by simp)); clear hb) | (go_at_call 21; refine (K1 _).mono ?_; clear K1; rintro e w2 ⟨rfl, hb2⟩; obtain ⟨c0, c1, c2, d0, d1, d2, z1⟩ := (Tri.mk a0 a1 a2 b0 b1 b2 z0).below hb2; have hB2 : Below w.heap.size w w2 := hB.trans (hb2.mono hB.size); clear hb2) | (go_at_call 20; refine (K2 _).mono ?_; clear K2; rintro e wx ⟨rfl, hw⟩; rw [hw]; clear hw wx) | (go_at_call 21; refine (K3 _).mono ?_; clear K3; rintro e w3 ⟨rfl, hb3⟩; have hB3 : Below w.heap.size w w3 := hB2.trans (hb3.mono hB2.size); clear hb3) | (go_at_call 20; refine (K4 _).mono ?_; clear K4; rintro e wx ⟨rfl, hw⟩; rw [hw]; clear hw wx))
        exact bodyPost_ret (v := evV ⟨0, 0, 10⟩) (by simp [results, Try.results8, go_sem]) rfl ⟨rfl, by go_grown⟩
      · have h2a : rngB told = true := by cases h : rngB told <;> simp_all
        have h2b : rngB (told - o2) = true := by cases h : rngB (told - o2) <;> simp_all
        obtain ⟨q3, q4⟩ := sub_yes r2 h2a h2b
        rw [q3, q4] at K4
        rw [show ends v p f me pe rest told = ⟨rest - o1, told - o2, 0⟩ from by
          rw [HE.out, if_neg (by simp [h1a, h2a]), if_neg (by simp [h1b, h2b])]]
        clear HE h1 q1 q2 r1 r2 h1a h1b h2 q3 q4 h2a h2b
        go_enter Try.func8, Try.ntmps8
        go_wp2_with (first | (go_at_call 19; refine (fit_any v p f me pe _).mono ?_; rintro e w1 ⟨rfl, hb⟩; rw [hf]; obtain ⟨a0, a1, a2, b0, b1, b2, z0⟩ := (Tri.new w (.int .i64 v) (.int .i64 p) (.int .i64 f) 23).below hb; have hB : Below w.heap.size w w1 := Below.trans (by go_grown) (hb.mono (by simp)); clear hb) | (go_at_call 21; refine (K1 _).mono ?_; clear K1; rintro e w2 ⟨rfl, hb2⟩; obtain ⟨c0, c1, c2, d0, d1, d2, z1⟩ := (Tri.mk a0 a1 a2 b0 b1 b2 z0).below hb2; have hB2 : Below w.heap.size w w2 := hB.trans (hb2.mono hB.size); clear hb2) | (go_at_call 20; refine (K2 _).mono ?_; clear K2; rintro e wx ⟨rfl, hw⟩; rw [hw]; clear hw wx) | (go_at_call 21; refine (K3 _).mono ?_; clear K3; rintro e w3 ⟨rfl, hb3⟩; have hB3 : Below w.heap.size w w3 := hB2.trans (hb3.mono hB2.size); clear hb3) | (go_at_call 20; refine (K4 _).mono ?_; clear K4; rintro e wx ⟨rfl, hw⟩; rw [hw]; clear hw wx))
        exact bodyPost_ret (v := evV ⟨rest - o1, told - o2, 0⟩) (by simp [results, Try.results8, go_sem]) rfl ⟨rfl, by go_grown⟩
set_option maxRecDepth 100000 in
set_option maxHeartbeats 2000000 in
theorem rends_any (v p f me pe rest told : Int) (w : World) : Calls Try.prog 9 #[.int .i64 me, .int .i64 pe, rg v p f, .int .i64 rest, .int .i64 told] w fun e w' => e = .returned (evV (ends v p f me pe rest told)) ∧ Below w.heap.size w w' := by
  cases hf : fitB v p f me pe with
  | false =>
    rw [show ends v p f me pe rest told = ⟨0, 0, 31⟩ from by simp [ends, hf]]
    go_enter Try.func9, Try.ntmps9
    go_wp2_with (first | (go_at_call 22; refine (rfit_any v p f me pe _).mono ?_; rintro e w1 ⟨rfl, hb⟩; rw [hf]; obtain ⟨a0, a1, a2, b0, b1, b2, z0⟩ := (Tri.new w (.int .i64 v) (.int .i64 p) (.int .i64 f) 23).below hb; have hB : Below w.heap.size w w1 := Below.trans (by go_grown) (hb.mono (by simp)); clear hb))
    exact bodyPost_ret (v := evV ⟨0, 0, 31⟩) (by simp [results, Try.results9, go_sem]) rfl ⟨rfl, by go_grown⟩
  | true =>
    have F : ∀ (x : Int) (b : Bool), rngB x = b → ∀ w, Calls Try.prog 23 #[.int .i64 x] w fun e w' => e = .returned (.bool b) ∧ w' = w := fun x b h w => by
      have k := rfits_any x w
      rw [rng_fits, h] at k
      exact k
    have HE : Hid (ends v p f me pe rest told = if rngB rest = false ∨ rngB told = false then ⟨0, 0, 10⟩
      else if rngB (rest - outZ v p f me pe) = false ∨ rngB (told - outZ v p f pe me) = false then ⟨0, 0, 10⟩
      else ⟨rest - outZ v p f me pe, told - outZ v p f pe me, 0⟩) := by
      show _ = _
      unfold ends
      rw [if_neg (by simp [hf])]
    cases h1 : rngB rest with
    | false =>
      have E1 := F _ _ h1
      rw [show ends v p f me pe rest told = ⟨0, 0, 10⟩ from by rw [HE.out, if_pos (Or.inl h1)]]
      clear HE F
      go_enter Try.func9, Try.ntmps9
      go_wp2_with (first | (go_at_call 22; refine (rfit_any v p f me pe _).mono ?_; rintro e w1 ⟨rfl, hb⟩; rw [hf]; obtain ⟨a0, a1, a2, b0, b1, b2, z0⟩ := (Tri.new w (.int .i64 v) (.int .i64 p) (.int .i64 f) 23).below hb; have hB : Below w.heap.size w w1 := Below.trans (by go_grown) (hb.mono (by simp)); clear hb) | (go_at_call 23; refine (E1 _).mono ?_; clear E1; rintro e wx ⟨rfl, hw⟩; rw [hw]; clear hw wx))
      exact bodyPost_ret (v := evV ⟨0, 0, 10⟩) (by simp [results, Try.results9, go_sem]) rfl ⟨rfl, by go_grown⟩
    | true =>
      have E1 := F _ _ h1
      cases h2 : rngB told with
      | false =>
        have E2 := F _ _ h2
        rw [show ends v p f me pe rest told = ⟨0, 0, 10⟩ from by rw [HE.out, if_pos (Or.inr h2)]]
        clear HE F
        go_enter Try.func9, Try.ntmps9
        go_wp2_with (first | (go_at_call 22; refine (rfit_any v p f me pe _).mono ?_; rintro e w1 ⟨rfl, hb⟩; rw [hf]; obtain ⟨a0, a1, a2, b0, b1, b2, z0⟩ := (Tri.new w (.int .i64 v) (.int .i64 p) (.int .i64 f) 23).below hb; have hB : Below w.heap.size w w1 := Below.trans (by go_grown) (hb.mono (by simp)); clear hb) | (go_at_call 23; refine (E1 _).mono ?_; clear E1; rintro e wx ⟨rfl, hw⟩; rw [hw]; clear hw wx) | (go_at_call 23; refine (E2 _).mono ?_; clear E2; rintro e wx ⟨rfl, hw⟩; rw [hw]; clear hw wx))
        exact bodyPost_ret (v := evV ⟨0, 0, 10⟩) (by simp [results, Try.results9, go_sem]) rfl ⟨rfl, by go_grown⟩
      | true =>
        have E2 := F _ _ h2
        have b1 := out_bd v p f me pe
        have b2 := out_bd v p f pe me
        have K1 : ∀ w, Calls Try.prog 24 #[rg v p f, .int .i64 me, .int .i64 pe] w fun e w' => e = .returned (.int .i64 (outZ v p f me pe)) ∧ Below w.heap.size w w' := fun w => rout_any v p f me pe w
        have K3 : ∀ w, Calls Try.prog 24 #[rg v p f, .int .i64 pe, .int .i64 me] w fun e w' => e = .returned (.int .i64 (outZ v p f pe me)) ∧ Below w.heap.size w w' := fun w => rout_any v p f pe me w
        generalize outZ v p f me pe = o1 at *
        generalize outZ v p f pe me = o2 at *
        have c1 := rng_true h1
        have c2 := rng_true h2
        obtain ⟨x1, hx1⟩ : ∃ x, rest - o1 = x := ⟨_, rfl⟩
        obtain ⟨x2, hx2⟩ : ∃ x, told - o2 = x := ⟨_, rfl⟩
        have W1 : IntKind.i64.wrap (rest - o1) = x1 := by rw [hx1, IntKind.wrap_i64]; omega
        have W2 : IntKind.i64.wrap (told - o2) = x2 := by rw [hx2, IntKind.wrap_i64]; omega
        rw [hx1, hx2] at HE
        have HX : Hid (rest - o1 = x1 ∧ told - o2 = x2) := ⟨hx1, hx2⟩
        clear hx1 hx2 b1 b2 c1 c2
        cases h3 : rngB x1 with
        | false =>
          have E3 := F _ _ h3
          rw [show ends v p f me pe rest told = ⟨0, 0, 10⟩ from by rw [HE.out, if_neg (by simp [h1, h2]), if_pos (Or.inl h3)]]
          clear HE F HX
          go_enter Try.func9, Try.ntmps9
          go_wp2_with (first | (go_at_call 22; refine (rfit_any v p f me pe _).mono ?_; rintro e w1 ⟨rfl, hb⟩; rw [hf]; obtain ⟨a0, a1, a2, b0, b1, b2, z0⟩ := (Tri.new w (.int .i64 v) (.int .i64 p) (.int .i64 f) 23).below hb; have hB : Below w.heap.size w w1 := Below.trans (by go_grown) (hb.mono (by simp)); clear hb) | (go_at_call 23; refine (E1 _).mono ?_; clear E1; rintro e wx ⟨rfl, hw⟩; rw [hw]; clear hw wx) | (go_at_call 23; refine (E2 _).mono ?_; clear E2; rintro e wx ⟨rfl, hw⟩; rw [hw]; clear hw wx) | (go_at_call 24; refine (K1 _).mono ?_; clear K1; rintro e w2 ⟨rfl, hb2⟩; obtain ⟨c0, c1, c2, d0, d1, d2, z1⟩ := (Tri.mk a0 a1 a2 b0 b1 b2 z0).below hb2; have hB2 : Below w.heap.size w w2 := hB.trans (hb2.mono hB.size); clear hb2) | (go_at_call 24; refine (K3 _).mono ?_; clear K3; rintro e w3 ⟨rfl, hb3⟩; have hB3 : Below w.heap.size w w3 := hB2.trans (hb3.mono hB2.size); clear hb3) | (go_at_call 23; refine (E3 _).mono ?_; clear E3; rintro e wx ⟨rfl, hw⟩; rw [hw]; clear hw wx))
          exact bodyPost_ret (v := evV ⟨0, 0, 10⟩) (by simp [results, Try.results9, go_sem]) rfl ⟨rfl, by go_grown⟩
        | true =>
          have E3 := F _ _ h3
          cases h4 : rngB x2 with
          | false =>
            have E4 := F _ _ h4
            rw [show ends v p f me pe rest told = ⟨0, 0, 10⟩ from by rw [HE.out, if_neg (by simp [h1, h2]), if_pos (Or.inr h4)]]
            clear HE F HX
            go_enter Try.func9, Try.ntmps9
            go_wp2_with (first | (go_at_call 22; refine (rfit_any v p f me pe _).mono ?_; rintro e w1 ⟨rfl, hb⟩; rw [hf]; obtain ⟨a0, a1, a2, b0, b1, b2, z0⟩ := (Tri.new w (.int .i64 v) (.int .i64 p) (.int .i64 f) 23).below hb; have hB : Below w.heap.size w w1 := Below.trans (by go_grown) (hb.mono (by simp)); clear hb) | (go_at_call 23; refine (E1 _).mono ?_; clear E1; rintro e wx ⟨rfl, hw⟩; rw [hw]; clear hw wx) | (go_at_call 23; refine (E2 _).mono ?_; clear E2; rintro e wx ⟨rfl, hw⟩; rw [hw]; clear hw wx) | (go_at_call 24; refine (K1 _).mono ?_; clear K1; rintro e w2 ⟨rfl, hb2⟩; obtain ⟨c0, c1, c2, d0, d1, d2, z1⟩ := (Tri.mk a0 a1 a2 b0 b1 b2 z0).below hb2; have hB2 : Below w.heap.size w w2 := hB.trans (hb2.mono hB.size); clear hb2) | (go_at_call 24; refine (K3 _).mono ?_; clear K3; rintro e w3 ⟨rfl, hb3⟩; have hB3 : Below w.heap.size w w3 := hB2.trans (hb3.mono hB2.size); clear hb3) | (go_at_call 23; refine (E3 _).mono ?_; clear E3; rintro e wx ⟨rfl, hw⟩; rw [hw]; clear hw wx) | (go_at_call 23; refine (E4 _).mono ?_; clear E4; rintro e wx ⟨rfl, hw⟩; rw [hw]; clear hw wx))
            exact bodyPost_ret (v := evV ⟨0, 0, 10⟩) (by simp [results, Try.results9, go_sem]) rfl ⟨rfl, by go_grown⟩
          | true =>
            have E4 := F _ _ h4
            rw [show ends v p f me pe rest told = ⟨x1, x2, 0⟩ from by rw [HE.out, if_neg (by simp [h1, h2]), if_neg (by simp [h3, h4])]]
            clear HE F HX
            go_enter Try.func9, Try.ntmps9
            go_wp2_with (first | (go_at_call 22; refine (rfit_any v p f me pe _).mono ?_; rintro e w1 ⟨rfl, hb⟩; rw [hf]; obtain ⟨a0, a1, a2, b0, b1, b2, z0⟩ := (Tri.new w (.int .i64 v) (.int .i64 p) (.int .i64 f) 23).below hb; have hB : Below w.heap.size w w1 := Below.trans (by go_grown) (hb.mono (by simp)); clear hb) | (go_at_call 23; refine (E1 _).mono ?_; clear E1; rintro e wx ⟨rfl, hw⟩; rw [hw]; clear hw wx) | (go_at_call 23; refine (E2 _).mono ?_; clear E2; rintro e wx ⟨rfl, hw⟩; rw [hw]; clear hw wx) | (go_at_call 24; refine (K1 _).mono ?_; clear K1; rintro e w2 ⟨rfl, hb2⟩; obtain ⟨c0, c1, c2, d0, d1, d2, z1⟩ := (Tri.mk a0 a1 a2 b0 b1 b2 z0).below hb2; have hB2 : Below w.heap.size w w2 := hB.trans (hb2.mono hB.size); clear hb2) | (go_at_call 24; refine (K3 _).mono ?_; clear K3; rintro e w3 ⟨rfl, hb3⟩; have hB3 : Below w.heap.size w w3 := hB2.trans (hb3.mono hB2.size); clear hb3) | (go_at_call 23; refine (E3 _).mono ?_; clear E3; rintro e wx ⟨rfl, hw⟩; rw [hw]; clear hw wx) | (go_at_call 23; refine (E4 _).mono ?_; clear E4; rintro e wx ⟨rfl, hw⟩; rw [hw]; clear hw wx))
            exact bodyPost_ret (v := evV ⟨x1, x2, 0⟩) (by simp [results, Try.results9, go_sem]) rfl ⟨rfl, by go_grown⟩
end Go.Proofs.Ytcjdfnfaiocdjaa
