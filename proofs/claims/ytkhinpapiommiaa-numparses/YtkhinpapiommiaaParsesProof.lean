/-
  For any text num.Parse answers as the document says (P1.7): the law NumParses returns true for every input.
-/
import Derived.Test.YtkhinpapiommiaaRows
import Derived.Test.YtkhinpapiommiaaAwake
import Derived.Test.YtkhinpapiommiaaRefParse
import Derived.WalkKit
import Derived.ProofKit
import Derived.OpenShut
import Derived.ShutString
import Derived.ChangeOld
import Derived.Below
namespace Go.Proofs.Ytkhinpapiommiaa.numParses
open Go.ChangeShapes Go.WideShapes Go.ChangeAt Go.RowKit
open Go.ChangeMaps (open_string shut_string)
set_option linter.unusedVariables false

theorem own : ownKnob Try.prog.godebug = none := by kernel_rfl
theorem laidOut : laidOutB Try.prog = true := by kernel_rfl


set_option maxHeartbeats 1000000 in
theorem rparse_any (s : ByteArray) (w : World) (hs : s.size ≤ maxLen) :
    Calls Try.prog 33 #[.string s] w fun e w' => e = .returned (.tuple #[wide (pH s.data.toList) (pL s.data.toList), .int .i64 (pE s.data.toList)]) ∧ Below w.heap.size w w' := by
  unfold maxLen at hs
  by_cases c1 : s.size = 0
  · have em : s.toList.isEmpty = true := by rw [emp_list, isEmpty_list]; simp [c1]
    obtain ⟨e1, e2, e3⟩ := p_none (bad0 s c1)
    rw [e1, e2, e3]
    clear e1 e2 e3
    go_enter Try.func33, Try.ntmps33
    go_wp2
    go_returns
    exact ⟨rfl, by go_grown⟩
  have em : s.toList.isEmpty = false := by rw [emp_list, isEmpty_list]; simp [c1]
  by_cases c2 : 39 < s.size
  · have C1 : Hid _ := c1
    clear c1
    obtain ⟨e1, e2, e3⟩ := p_none (bad39 s c2)
    rw [e1, e2, e3]
    clear e1 e2 e3
    go_enter Try.func33, Try.ntmps33
    go_wp2
    go_returns
    exact ⟨rfl, by go_grown⟩
  by_cases c4 : 1 < s.size
  · by_cases c5 : s[0] = 48
    · have hz : ((s[0].toNat : Int) == 48) = true := by rw [c5]; rfl
      have h48 : (s.toList == [48]) = false := by rw [one48 s (by omega) c5]; simp; omega
      have C5 : Hid _ := c5
      have C1 : Hid _ := c1
      clear c1
      obtain ⟨e1, e2, e3⟩ := p_none (badz s c4 c5)
      rw [e1, e2, e3]
      clear e1 e2 e3
      go_enter Try.func33, Try.ntmps33
      go_wp2
      go_returns
      exact ⟨rfl, by go_grown⟩
    exact rparse_good s w (by omega) em (by omega) (by omega) (fun _ => c5) (good s c1 c2 (fun _ => c5))
  · exact rparse_good s w (by omega) em (by omega) (by omega) (fun h => absurd h c4) (good s c1 c2 (fun h => absurd h c4))

set_option maxHeartbeats 1000000 in
theorem walk (s : ByteArray) (w : World) (hs : s.size ≤ maxLen) :
    Calls Try.prog 6 #[.string s] w fun e w' => e = .returned (.bool true) ∧ Below w.heap.size w w' := by
  go_enter Try.func6, Try.ntmps6
  go_wp2_with fail
  refine (parse_any s _ hs).mono ?_
  rintro e w1 ⟨rfl, hb1⟩
  go_wp2_with fail
  refine (rparse_any s _ hs).mono ?_
  rintro e w2 ⟨rfl, hb2⟩
  obtain ⟨q0, q1, g0, g1, z⟩ := (Two.new _ _ _ _).below hb2
  have z1 := hb1.size
  have hB2 : Below w.heap.size w w2 := hb1.trans (Below.trans (by go_grown) (hb2.mono (by simp; omega)))
  clear hb1 hb2
  go_wp2_with (go_at_call 19; refine (awake_any _).mono ?_; rintro e w3 ⟨rfl, hb3⟩)
  go_ret
  exact ⟨rfl, (hB2.alloc hB2.size _).trans (hb3.mono (by have := hB2.size; simp; omega))⟩

set_option maxRecDepth 100000 in
theorem lifted (os : Os) (started : os.Started) (H : Type) (enc : TypeId × Value → H) :
    ReturnsInHanded {} Try.checked os 6 .any (Rows.numParsesSpec.pre6 enc Try.prog Try.f6 Rows.numParsesRow.domain false) (Rows.numParsesSpec.post enc Try.prog Try.f6 false true false false) := by
  refine returnsInHanded_of_change (C := Try.checked) own started (by kernel_rfl) Try.func6
    (ChangeSpec.witness6 (enc := enc) (C := Try.checked) false ⟨#[], #[.string ByteArray.empty], []⟩ 8 (by kernel_rfl) (by kernel_rfl) (by kernel_rfl) (by kernel_rfl)) ?_
  intro W base args ds gs before hval0 hW hcnd _
  have hval : ∀ (j : Nat) t v, Try.f6.params[j]? = some t → args[j]? = some v → Value.okWide Try.prog W .any base t v := hval0
  have hW' := hW
  obtain ⟨p, q, hA0, hV, rfl, hfz, hnd⟩ := hW
  have hA : DataW.TrodAll enc Try.prog W 0 (fun _ => true) true Try.f6.params.toList args.toList ds p := hA0
  rw [Try.params6] at hA hval
  obtain ⟨v0, vs0, d0, ds0, p0, q0, hargs, rfl, rfl, h0, r0⟩ := trodAll_cons hA
  obtain ⟨rfl, rfl, rfl⟩ := trodAll_nil r0
  obtain rfl : args = #[v0] := by cases args; simp_all
  obtain ⟨rfl, rfl⟩ := trodVars_none hV
  obtain ⟨a0, rfl, rfl, rfl, w0⟩ := open_string Try.underlying9 (hval 0 9 v0 rfl rfl) h0
  clear hA0 hval0
  refine (walk a0 W w0).mono fun e W' ⟨he, bel⟩ => ?_
  subst he
  exact ⟨_, rfl, _, _, _, [], _, [], hW', trodAll_mk1 (shut_bool Try.underlying4 _), (trodAll_cons_mk (shut_string Try.underlying9 w0) trodAll_mk0), rfl, bel.frame _, fun h => by cases h⟩

theorem over : Rows.numParsesRow.holds Try.pinned (OpenSpec.ofChange Rows.numParsesSpec) :=
  OpenClaim.holds_of_wide 6 Try.f6 rfl rfl rfl rfl rfl rfl rfl ⟨rfl, rfl, rfl, rfl, rfl⟩ rfl rfl rfl rfl rfl (by kernel_rfl) Try.func6 (by kernel_rfl)
    (of_decide_eq_true (by kernel_rfl)) (by unfold Func.isWrapper; first | (rw [if_pos (by decide +kernel)]; kernel_rfl) | (rw [if_neg (by decide +kernel)]; exact ⟨rfl, rfl⟩))
    (fun os started H enc _ => lifted os started H enc)

/-- The statement. -/
theorem proved : Rows.NumParsesSaid := over
#print axioms proved
end Go.Proofs.Ytkhinpapiommiaa.numParses
