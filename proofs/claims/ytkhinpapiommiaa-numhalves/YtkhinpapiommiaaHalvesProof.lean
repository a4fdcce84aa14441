/-
  For any two numbers half the difference goes over: what is left differs by 1 at most, has the same sum, and fewer squares (P1.8 to P1.10): the law NumHalves returns true for every input.
-/
import Derived.Test.YtkhinpapiommiaaRows
import Derived.Test.YtkhinpapiommiaaAwake
import Derived.WalkKit
import Derived.ProofKit
import Derived.OpenShut
import Derived.ShutString
import Derived.ChangeOld
import Derived.Below
namespace Go.Proofs.Ytkhinpapiommiaa.numHalves
open Go.ChangeShapes Go.WideShapes Go.ChangeAt Go.RowKit
open Go.ChangeMaps (open_string shut_string)
set_option linter.unusedVariables false

theorem own : ownKnob Try.prog.godebug = none := by kernel_rfl
theorem laidOut : laidOutB Try.prog = true := by kernel_rfl


/-! ### Plain: half the difference -/
theorem half_bd {a b h : Int} (ha : -2147483647 ≤ a ∧ a ≤ 2147483647) (hb : -2147483647 ≤ b ∧ b ≤ 2147483647) (e : (a - b).tdiv 2 = h) :
    -2147483647 ≤ h ∧ h ≤ 2147483647 ∧ -2147483647 ≤ a - h ∧ a - h ≤ 2147483647 ∧ -2147483647 ≤ b + h ∧ b + h ≤ 2147483647 ∧ a - h - (b + h) ≤ 1 ∧ b + h - (a - h) ≤ 1 ∧ (b - a).tdiv 2 = -h := by
  subst e
  rcases Int.le_total 0 (a - b) with k | k
  · have e1 : (a - b).tdiv 2 = (a - b) / 2 := Int.tdiv_eq_ediv_of_nonneg k
    have e2 : (b - a).tdiv 2 = -((a - b) / 2) := by rw [show b - a = -(a - b) by omega, Int.neg_tdiv, e1]
    rw [e2, e1]; omega
  · have e1 : (b - a).tdiv 2 = (b - a) / 2 := Int.tdiv_eq_ediv_of_nonneg (by omega)
    have e2 : (a - b).tdiv 2 = -((b - a) / 2) := by rw [show a - b = -(b - a) by omega, Int.neg_tdiv, e1]
    rw [e2, e1]; omega
theorem sq_diff (a b h : Int) : sqs [a, b] - sqs [a - h, b + h] = 2 * (h * (a - b - h)) := by
  simp only [sqs]
  have e1 : (a - h) * (a - h) = a * a - 2 * (h * a) + h * h := by rw [Int.sub_mul, Int.mul_sub, Int.mul_sub, Int.mul_comm a h]; omega
  have e2 : (b + h) * (b + h) = b * b + 2 * (h * b) + h * h := by rw [Int.add_mul, Int.mul_add, Int.mul_add, Int.mul_comm b h]; omega
  rw [e1, e2, Int.mul_sub h (a - b) h, Int.mul_sub h a b]
  omega
theorem half_drop {a b h : Int} (ha : -2147483647 ≤ a ∧ a ≤ 2147483647) (hb : -2147483647 ≤ b ∧ b ≤ 2147483647) (e : (a - b).tdiv 2 = h) :
    ∃ D, sqs [a, b] - sqs [a - h, b + h] = D ∧ 0 ≤ D ∧ D ≤ 18446744073709551615 ∧ (h = 0 ↔ D = 0) ∧ (h ≠ 0 → 2 ≤ D) := by
  refine ⟨2 * (h * (a - b - h)), sq_diff a b h, ?_⟩
  subst e
  have key : ∀ g r : Int, (g = 0 ∨ (1 ≤ g ∧ 1 ≤ r)) → g ≤ 4294967294 → r ≤ 2147483648 → 0 ≤ g * r ∧ g * r ≤ 9223372032559808512 ∧ (g = 0 ↔ g * r = 0) ∧ (g ≠ 0 → 1 ≤ g * r) := by
    intro g r h1 h2 h3
    rcases h1 with rfl | ⟨h1, h4⟩
    · simp
    · have p1 : 1 * 1 ≤ g * r := Int.mul_le_mul h1 h4 (by omega) (by omega)
      have p2 : g * r ≤ 4294967294 * 2147483648 := Int.mul_le_mul h2 h3 (by omega) (by omega)
      refine ⟨by omega, by omega, by omega, by omega⟩
  rcases Int.le_total 0 (a - b) with k | k
  · have e1 : (a - b).tdiv 2 = (a - b) / 2 := Int.tdiv_eq_ediv_of_nonneg k
    rw [e1]
    have := key ((a - b) / 2) (a - b - (a - b) / 2) (by omega) (by omega) (by omega)
    omega
  · have e1 : (b - a).tdiv 2 = (b - a) / 2 := Int.tdiv_eq_ediv_of_nonneg (by omega)
    have e2 : (a - b).tdiv 2 = -((b - a) / 2) := by rw [show a - b = -(b - a) by omega, Int.neg_tdiv, e1]
    rw [e2]
    have := key ((b - a) / 2) (b - a - (b - a) / 2) (by omega) (by omega) (by omega)
    have e3 : -((b - a) / 2) * (a - b - -((b - a) / 2)) = (b - a) / 2 * (b - a - (b - a) / 2) := by
      rw [show a - b - -((b - a) / 2) = -(b - a - (b - a) / 2) by omega, Int.neg_mul_neg]
    rw [e3]
    omega
theorem mul_self (a : Int) : 0 ≤ a * a := by
  rcases Int.le_total 0 a with h | h
  · exact Int.mul_nonneg h h
  · have := Int.mul_nonneg (a := -a) (b := -a) (by omega) (by omega)
    rwa [Int.neg_mul_neg] at this
theorem sqs2_bd {a b : Int} (ha : -2147483647 ≤ a ∧ a ≤ 2147483647) (hb : -2147483647 ≤ b ∧ b ≤ 2147483647) : 0 ≤ sqs [a, b] ∧ sqs [a, b] < 340282366920938463463374607431768211456 := by
  have h1 := mul_bd ha ha
  have h2 := mul_bd hb hb
  have h3 : 0 ≤ a * a := mul_self a
  have h4 : 0 ≤ b * b := mul_self b
  simp only [sqs]
  omega

theorem fitsB_mk {x : Int} (h : -2147483647 ≤ x ∧ x ≤ 2147483647) : fitsB x = true := by simp [fitsB, h]

/-! ### The calls, where all fits -/
theorem half_in (a b h : Int) (w : World) (ha : -2147483647 ≤ a ∧ a ≤ 2147483647) (hb : -2147483647 ≤ b ∧ b ≤ 2147483647) (e : (a - b).tdiv 2 = h) :
    Calls Try.prog 17 #[.int .i64 a, .int .i64 b] w fun e w' => e = .returned (.tuple #[.int .i64 h, .int .i64 0]) ∧ w' = w := by
  have c := half_any a b w
  rw [show halfV a b = h by simp [halfV, fitsB_mk ha, fitsB_mk hb, e], show halfE a b = 0 by simp [halfE, fitsB_mk ha, fitsB_mk hb]] at c
  exact c
theorem half_out (a b : Int) (w : World) (hn : ¬ ((-2147483647 ≤ a ∧ a ≤ 2147483647) ∧ (-2147483647 ≤ b ∧ b ≤ 2147483647))) :
    Calls Try.prog 17 #[.int .i64 a, .int .i64 b] w fun e w' => e = .returned (.tuple #[.int .i64 0, .int .i64 10]) ∧ w' = w := by
  have c := half_any a b w
  have f : (fitsB a && fitsB b) = false := by unfold fitsB; rw [← Bool.decide_and]; exact decide_eq_false hn
  rw [show halfV a b = 0 by simp [halfV, f], show halfE a b = 10 by simp [halfE, f]] at c
  exact c
theorem sub_in (a b x : Int) (w : World) (ha : -2147483647 ≤ a ∧ a ≤ 2147483647) (hb : -2147483647 ≤ b ∧ b ≤ 2147483647) (hx : -2147483647 ≤ x ∧ x ≤ 2147483647) (e : a - b = x) :
    Calls Try.prog 13 #[.int .i64 a, .int .i64 b] w fun e w' => e = .returned (.tuple #[.int .i64 x, .int .i64 0]) ∧ w' = w := by
  have c := sub_any a b w
  rw [e, show opV a b x = x by simp [opV, chkV, fitsB_mk ha, fitsB_mk hb, fitsB_mk hx], show opE a b x = 0 by simp [opE, chkE, fitsB_mk ha, fitsB_mk hb, fitsB_mk hx]] at c
  exact c
theorem add_in (a b x : Int) (w : World) (ha : -2147483647 ≤ a ∧ a ≤ 2147483647) (hb : -2147483647 ≤ b ∧ b ≤ 2147483647) (hx : -2147483647 ≤ x ∧ x ≤ 2147483647) (e : a + b = x) :
    Calls Try.prog 9 #[.int .i64 a, .int .i64 b] w fun e w' => e = .returned (.tuple #[.int .i64 x, .int .i64 0]) ∧ w' = w := by
  have c := add_any a b w
  rw [e, show opV a b x = x by simp [opV, chkV, fitsB_mk ha, fitsB_mk hb, fitsB_mk hx], show opE a b x = 0 by simp [opE, chkE, fitsB_mk ha, fitsB_mk hb, fitsB_mk hx]] at c
  exact c
theorem drop_in (s t D : Int) (w : World) (hs : 0 ≤ s ∧ s < 340282366920938463463374607431768211456) (ht : 0 ≤ t ∧ t < 340282366920938463463374607431768211456) (e : s - t = D) (h0 : 0 ≤ D) (h1 : D ≤ 18446744073709551615) :
    Calls Try.prog 26 #[wide (hiW s) (lo64 s), wide (hiW t) (lo64 t)] w fun e w' => e = .returned (.tuple #[wide 0 D, .bool true]) ∧ Below w.heap.size w w' := by
  have c := drop_any (hiW s) (lo64 s) (hiW t) (lo64 t) w (hiW_bd s).1 (hiW_bd s).2 (lo64_bd s).1 (lo64_bd s).2 (hiW_bd t).1 (hiW_bd t).2 (lo64_bd t).1 (lo64_bd t).2
  rw [val_self hs.1 hs.2, val_self ht.1 ht.2] at c
  have l : lessB s t = false := by simp [lessB]; omega
  rw [show drH s t = 0 by rw [drH, l, e]; simp; unfold hiW hi64 lo64; omega, show drL s t = D by rw [drL, l, e]; simp; unfold lo64; omega, l] at c
  exact c
theorem less_in (D : Int) (w : World) (h0 : 2 ≤ D) (h1 : D ≤ 18446744073709551615) :
    Calls Try.prog 28 #[wide 0 D, wide 0 2] w fun e w' => e = .returned (.bool false) ∧ Below w.heap.size w w' := by
  have c := less_any 0 D 0 2 w (by omega) (by omega) (by omega) (by omega) (by omega) (by omega) (by omega) (by omega)
  rw [show lessB (val 0 D) (val 0 2) = false by unfold lessB val; simp; omega] at c
  exact c

set_option maxHeartbeats 1000000 in
theorem walk_out (a b : Int) (w : World) (hn : ¬ ((-2147483647 ≤ a ∧ a ≤ 2147483647) ∧ (-2147483647 ≤ b ∧ b ≤ 2147483647))) :
    Calls Try.prog 7 #[.int .i64 a, .int .i64 b] w fun e w' => e = .returned (.bool true) ∧ Below w.heap.size w w' := by
  have H : Hid _ := hn
  by_cases c1 : a < -2147483647
  · clear hn
    go_enter Try.func7, Try.ntmps7
    go_wp2_with (first | (go_at_call 17; refine (half_out _ _ _ H.out).mono ?_; rintro e w' ⟨rfl, rfl⟩) | (go_at_call 19; refine (awake_any _).mono ?_; rintro e w1 ⟨rfl, hb⟩))
    go_ret
    exact ⟨rfl, by assumption⟩
  by_cases c2 : 2147483647 < a
  · clear hn
    go_enter Try.func7, Try.ntmps7
    go_wp2_with (first | (go_at_call 17; refine (half_out _ _ _ H.out).mono ?_; rintro e w' ⟨rfl, rfl⟩) | (go_at_call 19; refine (awake_any _).mono ?_; rintro e w1 ⟨rfl, hb⟩))
    go_ret
    exact ⟨rfl, by assumption⟩
  by_cases c3 : b < -2147483647
  · clear hn
    go_enter Try.func7, Try.ntmps7
    go_wp2_with (first | (go_at_call 17; refine (half_out _ _ _ H.out).mono ?_; rintro e w' ⟨rfl, rfl⟩) | (go_at_call 19; refine (awake_any _).mono ?_; rintro e w1 ⟨rfl, hb⟩))
    go_ret
    exact ⟨rfl, by assumption⟩
  have c4 : 2147483647 < b := by omega
  clear hn
  go_enter Try.func7, Try.ntmps7
  go_wp2_with (first | (go_at_call 17; refine (half_out _ _ _ H.out).mono ?_; rintro e w' ⟨rfl, rfl⟩) | (go_at_call 19; refine (awake_any _).mono ?_; rintro e w1 ⟨rfl, hb⟩))
  go_ret
  exact ⟨rfl, by assumption⟩

set_option maxHeartbeats 1000000 in
theorem walk_in (a b : Int) (w : World) (ha : -2147483647 ≤ a ∧ a ≤ 2147483647) (hb : -2147483647 ≤ b ∧ b ≤ 2147483647) :
    Calls Try.prog 7 #[.int .i64 a, .int .i64 b] w fun e w' => e = .returned (.bool true) ∧ Below w.heap.size w w' := by
  obtain ⟨h, eh⟩ : ∃ h, (a - b).tdiv 2 = h := ⟨_, rfl⟩
  obtain ⟨g1, g2, x1, x2, y1, y2, d1, d2, ek⟩ := half_bd ha hb eh
  obtain ⟨D, eD, hD0, hD1, hDz, hD2⟩ := half_drop ha hb eh
  obtain ⟨x, ex⟩ : ∃ x, a - h = x := ⟨_, rfl⟩
  obtain ⟨y, ey⟩ : ∃ y, b + h = y := ⟨_, rfl⟩
  rw [ex] at x1 x2 d1 d2
  rw [ey] at y1 y2 d1 d2
  rw [ex, ey] at eD
  have es : (x + y != a + b) = false := by simp; omega
  have S1 : Hid _ := sqs2_bd ha hb
  have S2 : Hid _ := sqs2_bd (a := x) (b := y) ⟨x1, x2⟩ ⟨y1, y2⟩
  have EH : Hid _ := eh
  have EK : Hid _ := ek
  have EX : Hid _ := ex
  have EY : Hid _ := ey
  have ED : Hid _ := eD
  have HA : Hid _ := ha
  have HB : Hid _ := hb
  have DZ : Hid _ := hDz
  have D2 : Hid _ := hD2
  obtain ⟨a1, a2⟩ := ha
  obtain ⟨b1, b2⟩ := hb
  clear eh ek ex ey eD hDz hD2
  go_enter Try.func7, Try.ntmps7
  go_wp2_with fail
  refine (half_in a b h _ HA.out HB.out EH.out).mono ?_
  rintro e w' ⟨rfl, rfl⟩
  go_wp2_with fail
  refine (half_in b a (-h) _ HB.out HA.out EK.out).mono ?_
  rintro e w' ⟨rfl, rfl⟩
  go_wp2_with fail
  refine (sub_in a h x _ HA.out ⟨g1, g2⟩ ⟨x1, x2⟩ EX.out).mono ?_
  rintro e w' ⟨rfl, rfl⟩
  go_wp2_with fail
  refine (add_in b h y _ HB.out ⟨g1, g2⟩ ⟨y1, y2⟩ EY.out).mono ?_
  rintro e w' ⟨rfl, rfl⟩
  go_wp2_with fail
  refine (squares_any _ _ _ [a, b] _ (row_two _ a b (by omega) (by omega) _ (by simp))).mono ?_
  rintro e w1 ⟨rfl, hb1⟩
  go_wp2_with fail
  refine (squares_any _ _ _ [x, y] _ (row_two _ x y (by omega) (by omega) _ (by simp))).mono ?_
  rintro e w2 ⟨rfl, hb2⟩
  go_wp2_with fail
  refine (drop_in _ _ D _ S1.out S2.out ED.out hD0 hD1).mono ?_
  rintro e w3 ⟨rfl, hb3⟩
  have z1 := hb1.size
  have z2 := hb2.size
  have z3 := hb3.size
  simp at z1 z2
  have hB : Below w'.heap.size w' w3 := Below.trans (by go_grown) (Below.trans (Below.mono hb1 (by simp)) (Below.trans (by go_grown) (Below.trans (Below.mono hb2 (by simp; omega)) (Below.mono hb3 (by omega)))))
  clear hb1 hb2 hb3
  by_cases hz : h = 0
  · have z := DZ.out.1 hz
    subst z
    subst hz
    go_wp2_with (first | (go_at_call 19; refine (awake_any _).mono ?_; rintro e w4 ⟨rfl, hb4⟩))
    go_ret
    exact ⟨rfl, Below.trans (hB.alloc (by omega) _) (Below.mono hb4 (by simp; omega))⟩
  · have k1 : (h == 0) = false := by simp [hz]
    have k2 : (D == 0) = false := by have := D2.out hz; simp; omega
    have k3 := D2.out hz
    go_wp2_with (first | (go_at_call 28; refine (less_in D _ k3 hD1).mono ?_; rintro e w4 ⟨rfl, hb4⟩) | (go_at_call 19; refine (awake_any _).mono ?_; rintro e w5 ⟨rfl, hb5⟩))
    go_ret
    have z4 := hb4.size
    simp at z4
    exact ⟨rfl, Below.trans (hB.alloc (by omega) _) (Below.trans (Below.mono hb4 (by simp; omega)) (Below.mono hb5 (by omega)))⟩

theorem walk (a b : Int) (w : World) (w0 : (Lit.int .i64 a).wf = true) (w1 : (Lit.int .i64 b).wf = true) :
    Calls Try.prog 7 #[.int .i64 a, .int .i64 b] w fun e w' => e = .returned (.bool true) ∧ Below w.heap.size w w' := by
  by_cases h : (-2147483647 ≤ a ∧ a ≤ 2147483647) ∧ (-2147483647 ≤ b ∧ b ≤ 2147483647)
  · exact walk_in a b w h.1 h.2
  · exact walk_out a b w h

set_option maxRecDepth 100000 in
theorem lifted (os : Os) (started : os.Started) (H : Type) (enc : TypeId × Value → H) :
    ReturnsInHanded {} Try.checked os 7 .any (Rows.numHalvesSpec.pre6 enc Try.prog Try.f7 Rows.numHalvesRow.domain false) (Rows.numHalvesSpec.post enc Try.prog Try.f7 false true false false) := by
  refine returnsInHanded_of_change (C := Try.checked) own started (by kernel_rfl) Try.func7
    (ChangeSpec.witness6 (enc := enc) (C := Try.checked) false ⟨#[], #[.int .i64 0, .int .i64 0], []⟩ 8 (by kernel_rfl) (by kernel_rfl) (by kernel_rfl) (by kernel_rfl)) ?_
  intro W base args ds gs before hval0 hW hcnd _
  have hval : ∀ (j : Nat) t v, Try.f7.params[j]? = some t → args[j]? = some v → Value.okWide Try.prog W .any base t v := hval0
  have hW' := hW
  obtain ⟨p, q, hA0, hV, rfl, hfz, hnd⟩ := hW
  have hA : DataW.TrodAll enc Try.prog W 0 (fun _ => true) true Try.f7.params.toList args.toList ds p := hA0
  rw [Try.params7] at hA hval
  obtain ⟨v0, vs0, d0, ds0, p0, q0, hargs, rfl, rfl, h0, r0⟩ := trodAll_cons hA
  obtain ⟨v1, vs1, d1, ds1, p1, q1, rfl, rfl, rfl, h1, r1⟩ := trodAll_cons r0
  obtain ⟨rfl, rfl, rfl⟩ := trodAll_nil r1
  obtain rfl : args = #[v0, v1] := by cases args; simp_all
  obtain ⟨rfl, rfl⟩ := trodVars_none hV
  obtain ⟨a0, rfl, rfl, rfl, w0⟩ := open_int Try.underlying2 (hval 0 2 v0 rfl rfl) h0
  obtain ⟨a1, rfl, rfl, rfl, w1⟩ := open_int Try.underlying2 (hval 1 2 v1 rfl rfl) h1
  clear hA0 hval0
  refine (walk a0 a1 W w0 w1).mono fun e W' ⟨he, bel⟩ => ?_
  subst he
  exact ⟨_, rfl, _, _, _, [], _, [], hW', trodAll_mk1 (shut_bool Try.underlying4 _), (trodAll_cons_mk (shut_int Try.underlying2 w0) (trodAll_cons_mk (shut_int Try.underlying2 w1) trodAll_mk0)), rfl, bel.frame _, fun h => by cases h⟩

theorem over : Rows.numHalvesRow.holds Try.pinned (OpenSpec.ofChange Rows.numHalvesSpec) :=
  OpenClaim.holds_of_wide 7 Try.f7 rfl rfl rfl rfl rfl rfl rfl ⟨rfl, rfl, rfl, rfl, rfl⟩ rfl rfl rfl rfl rfl (by kernel_rfl) Try.func7 (by kernel_rfl)
    (of_decide_eq_true (by kernel_rfl)) (by unfold Func.isWrapper; first | (rw [if_pos (by decide +kernel)]; kernel_rfl) | (rw [if_neg (by decide +kernel)]; exact ⟨rfl, rfl⟩))
    (fun os started H enc _ => lifted os started H enc)

/-- The statement. -/
theorem proved : Rows.NumHalvesSaid := over
#print axioms proved
end Go.Proofs.Ytkhinpapiommiaa.numHalves
