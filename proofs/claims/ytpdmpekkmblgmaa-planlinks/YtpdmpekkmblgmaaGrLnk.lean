/-
  PlanLinks.
-/
import Derived.Test.YtpdmpekkmblgmaaGrLb
import Derived.Test.YtpdmpekkmblgmaaPB3
import Derived.Test.YtpdmpekkmblgmaaGrLg
import Derived.Test.YtpdmpekkmblgmaaPD
import Derived.Test.YtpdmpekkmblgmaaPC
import Derived.Test.YtpdmpekkmblgmaaRows
import Derived.WalkKit
import Derived.ProofKit
import Derived.OpenShut
import Derived.ShutString
import Derived.ChangeOld
import Derived.Below
import Derived.SizedLaws
namespace Go.Proofs.Ytpdmpekkmblgmaa
open Go.ChangeShapes Go.WideShapes Go.ChangeAt Go.RowKit Go.Maps Go.Shelf
set_option linter.unusedVariables false
set_option linter.unusedSimpArgs false
attribute [local go_sem] Oper.semAt_some

/-- What Links answers: an error and pairs. -/
def LnkE (w : World) (err : Int) (xs : List LK) (e : Ending) (w' : World) : Prop := ∃ a m c, e = .returned (.tuple #[.slice a m c, .int .i64 err]) ∧ RdL w' a m c xs ∧ Below w.heap.size w w'
theorem LnkE.of {w : World} {n : Int} {bad : Bool} {xs : List LK} {e : Ending} {w' : World} (h : LnkP w n bad xs e w') : LnkE w (errL n bad xs) (resL n bad xs) e w' := h
theorem errL_srt {n : Int} {bad : Bool} {xs ys : List LK} (h : srt xs = srt ys) : errL n bad xs = errL n bad ys ∧ resL n bad xs = resL n bad ys := by
  unfold errL resL
  rw [h]
  exact ⟨rfl, rfl⟩
/-- Both sides give one error and one list. -/
theorem links_both (s n k : Int) (hk : k ≤ 9223372036854775807) : ∃ err xs, (∀ w, Calls Try.prog 8 #[.int .i64 s, .int .i64 n, .int .i64 k] w (LnkE w err xs)) ∧ ∀ w, Calls Try.prog 9 #[.int .i64 s, .int .i64 n, .int .i64 k] w (LnkE w err xs) := by
  by_cases h1 : s = 1
  · subst h1; exact ⟨_, _, fun w => links_1 n k w, fun w => rlinks_1 n k w⟩
  by_cases h2 : s = 2
  · subst h2; exact ⟨_, _, fun w => links_2 n k w, fun w => rlinks_2 n k w⟩
  by_cases h3 : s = 3
  · subst h3; exact ⟨_, _, fun w => links_3 n k w, fun w => rlinks_3 n k w⟩
  by_cases h4 : s = 4
  · subst h4
    refine ⟨_, _, fun w => links_4 n k w, fun w => (rlinks_4 n k w).mono fun e w' h => ?_⟩
    have := LnkE.of h
    rw [(errL_srt (fullD_srt n.toNat)).1, (errL_srt (fullD_srt n.toNat)).2] at this
    exact this
  by_cases h5 : s = 5
  · subst h5; exact ⟨_, _, fun w => links_5 n k w hk, fun w => rlinks_5 n k w hk⟩
  by_cases h6 : s = 6
  · subst h6; exact ⟨_, _, fun w => links_6 n k w hk, fun w => rlinks_6 n k w hk⟩
  by_cases h7 : s = 7
  · subst h7; exact ⟨_, _, fun w => links_7 n k w, fun w => rlinks_7 n k w⟩
  have h : s < 1 ∨ 7 < s := by omega
  exact ⟨46, [], fun w => (links_no s n k w h).mono fun e w' ⟨h1, h2⟩ => ⟨none, 0, 0, h1, rdL_nil _, by rw [h2]; exact Below.refl _ _⟩, fun w => (rlinks_no s n k w h).mono fun e w' ⟨h1, h2⟩ => ⟨none, 0, 0, h1, rdL_nil _, by rw [h2]; exact Below.refl _ _⟩⟩
set_option maxRecDepth 100000 in
set_option maxHeartbeats 4000000 in
theorem links_walk (s n k x q : Int) (w : World) (hk : k ≤ 9223372036854775807) :
    Calls Try.prog 3 #[.int .i64 s, .int .i64 n, .int .i64 k, .int .u64 x, .int .i64 q] w fun e w' => e = .returned (.bool true) ∧ Below w.heap.size w w' := by
  obtain ⟨err, xs, K8, K9⟩ := links_both s n k hk
  have KA := fun W => awake_any W
  obtain ⟨m, hm⟩ : ∃ m, Int.tmod q 3000 = m := ⟨_, rfl⟩
  have hwm : IntKind.i64.wrap m = m := by
    rw [IntKind.wrap_i64]
    have h1 := Int.tmod_lt_of_pos q (show (0 : Int) < 3000 by decide)
    have h2 : -3000 < Int.tmod q 3000 := by
      have := Int.lt_tmod_of_pos q (show (0 : Int) < 3000 by decide)
      omega
    omega
  have KR := fun W => random_any x m W
  have KS := fun W => rrandom_any x m W
  obtain ⟨z, hz⟩ : ∃ z, rnd x m = z := ⟨_, rfl⟩
  rw [hz] at KR KS
  clear hz hk
  go_enter Try.func3, Try.ntmps3
  go_wp2_with (first
    | (go_at_call 8; refine (K8 _).mono ?_; clear K8; rintro e w1 ⟨a1, m1, c1, rfl, R1, b1⟩)
    | (go_at_call 9; refine (K9 _).mono ?_; clear K9; rintro e w2 ⟨a2, m2, c2, rfl, R2, b2⟩; have KQ := same_any a1 m1 c1 xs a2 m2 c2 xs w2 (R1.below b2) R2; have B2 := b1.trans (b2.mono b1.size))
    | (go_at_call 10; refine KQ.mono ?_; clear KQ; rintro e w3 ⟨⟨r, rfl, hr3, b3⟩⟩; have e3 : r = true := hr3.2 rfl; subst e3; have B3 := B2.trans (b3.mono B2.size))
    | (go_at_call 11; refine (KR _).mono ?_; clear KR; rintro e w4 ⟨rfl, b4⟩; have B4 := B3.trans (b4.mono B3.size))
    | (go_at_call 12; refine (KS _).mono ?_; clear KS; rintro e w5 ⟨rfl, hw5⟩; rw [hw5]; clear hw5 w5)
    | (go_at_call 13; refine (KA _).mono ?_; clear KA; rintro e w6 ⟨rfl, b6⟩))
  go_ret
  exact ⟨rfl, B4.trans (b6.mono B4.size)⟩
theorem wf_le {a : Int} (h : (Lit.int .i64 a).wf = true) : a ≤ 9223372036854775807 := by
  simp only [Lit.wf, Bool.and_eq_true, decide_eq_true_eq] at h
  have h2 := h.2
  have e : IntKind.max .i64 = 9223372036854775807 := by decide
  omega
end Go.Proofs.Ytpdmpekkmblgmaa

namespace Go.Proofs.Ytpdmpekkmblgmaa.planLinks
open Go.ChangeShapes Go.WideShapes Go.ChangeAt Go.RowKit Go.Deep
open Go.ChangeMaps (open_string shut_string)
set_option linter.unusedVariables false
set_option linter.unusedSimpArgs false

theorem own : ownKnob Try.prog.godebug = none := by kernel_rfl
theorem laidOut : laidOutB Try.prog = true := by kernel_rfl

set_option maxRecDepth 100000 in
theorem lifted (os : Os) (started : os.Started) (H : Type) (enc : TypeId × Value → H) :
    ReturnsInHanded {} Try.checked os 3 .any (Rows.planLinksSpec.pre6 enc Try.prog Try.f3 Rows.planLinksRow.domain false) (Rows.planLinksSpec.post enc Try.prog Try.f3 false true false false) := by
  refine returnsInHanded_of_change_sized (C := Try.checked) own started (by kernel_rfl) Try.func3
    (ChangeSpec.witness6 (enc := enc) (C := Try.checked) false ⟨#[], #[.int .i64 0, .int .i64 0, .int .i64 0, .int .u64 0, .int .i64 0], []⟩ 8 (by kernel_rfl) (by kernel_rfl) (by kernel_rfl) (by kernel_rfl)) ?_
  intro W base args ds gs before hval0 hW hcnd hsz0 _
  have hsz : (DataW.weightsEach Try.prog (Try.f3.params.toList ++ Rows.planLinksSpec.plain.varTypes Try.prog) (ds ++ gs)).all (· ≤ reachBytes) = true := hsz0
  clear hsz0
  have hval : ∀ (j : Nat) t v, Try.f3.params[j]? = some t → args[j]? = some v → Value.okWide Try.prog W .any base t v := hval0
  have hW' := hW
  obtain ⟨p, q, hA0, hV, rfl, hfz, hnd⟩ := hW
  have hA : DataW.TrodAll enc Try.prog W 0 (fun _ => true) true Try.f3.params.toList args.toList ds p := hA0
  rw [Try.params3] at hA hval hsz
  obtain ⟨v0, vs0, d0, ds0, p0, q0, hargs, rfl, rfl, h0, r0⟩ := trodAll_cons hA
  obtain ⟨v1, vs1, d1, ds1, p1, q1, rfl, rfl, rfl, h1, r1⟩ := trodAll_cons r0
  obtain ⟨v2, vs2, d2, ds2, p2, q2, rfl, rfl, rfl, h2, r2⟩ := trodAll_cons r1
  obtain ⟨v3, vs3, d3, ds3, p3, q3, rfl, rfl, rfl, h3, r3⟩ := trodAll_cons r2
  obtain ⟨v4, vs4, d4, ds4, p4, q4, rfl, rfl, rfl, h4, r4⟩ := trodAll_cons r3
  obtain ⟨rfl, rfl, rfl⟩ := trodAll_nil r4
  obtain rfl : args = #[v0, v1, v2, v3, v4] := by cases args; simp_all
  obtain ⟨rfl, rfl⟩ := trodVars_none hV
  obtain ⟨a0, rfl, rfl, rfl, w0⟩ := open_int Try.underlying3 (hval 0 3 v0 rfl rfl) h0
  obtain ⟨a1, rfl, rfl, rfl, w1⟩ := open_int Try.underlying3 (hval 1 3 v1 rfl rfl) h1
  obtain ⟨a2, rfl, rfl, rfl, w2⟩ := open_int Try.underlying3 (hval 2 3 v2 rfl rfl) h2
  obtain ⟨a3, rfl, rfl, rfl, w3⟩ := open_int Try.underlying22 (hval 3 22 v3 rfl rfl) h3
  obtain ⟨a4, rfl, rfl, rfl, w4⟩ := open_int Try.underlying3 (hval 4 3 v4 rfl rfl) h4
  clear hA0 hval0
  refine (links_walk a0 a1 a2 a3 a4 W (wf_le w2)).mono fun e W' ⟨he, bel⟩ => ?_
  subst he
  exact ⟨_, rfl, _, _, _, [], _, [], hW', trodAll_mk1 (shut_bool Try.underlying4 _), (trodAll_cons_mk (shut_int Try.underlying3 w0) (trodAll_cons_mk (shut_int Try.underlying3 w1) (trodAll_cons_mk (shut_int Try.underlying3 w2) (trodAll_cons_mk (shut_int Try.underlying22 w3) (trodAll_cons_mk (shut_int Try.underlying3 w4) trodAll_mk0))))), rfl, bel.frame _, fun h => by cases h⟩

theorem over : Rows.planLinksRow.holds Try.pinned (OpenSpec.ofChange Rows.planLinksSpec) :=
  OpenClaim.holds_of_wide 3 Try.f3 rfl rfl rfl rfl rfl rfl rfl ⟨rfl, rfl, rfl, rfl, rfl⟩ rfl rfl rfl rfl rfl (by kernel_rfl) Try.func3 (by kernel_rfl)
    (of_decide_eq_true (by kernel_rfl)) (by unfold Func.isWrapper; first | (rw [if_pos (by decide +kernel)]; kernel_rfl) | (rw [if_neg (by decide +kernel)]; exact ⟨rfl, rfl⟩))
    (fun os started H enc _ => lifted os started H enc)

/-- The statement. -/
theorem proved : Rows.PlanLinksSaid := over
#print axioms proved
end Go.Proofs.Ytpdmpekkmblgmaa.planLinks
