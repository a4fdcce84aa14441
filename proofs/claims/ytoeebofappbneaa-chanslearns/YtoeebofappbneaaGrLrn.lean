/-
  Learn answers as the document does, for any fit states and record; done once more nothing changes (P18.4, P18.11): the law ChansLearns returns true for every input.
-/
import Derived.Test.YtoeebofappbneaaGrTc
import Derived.Test.YtoeebofappbneaaGrTa
import Derived.Test.YtoeebofappbneaaY1
import Derived.Test.YtoeebofappbneaaGrTd
import Derived.Test.YtoeebofappbneaaRows
import Derived.Test.YtoeebofappbneaaInT
import Derived.WalkKit
import Derived.ProofKit
import Derived.OpenShut
import Derived.ShutString
import Derived.ChangeOld
import Derived.Below
import Derived.SizedLaws
namespace Go.Proofs.Ytoeebofappbneaa
open Go.ChangeShapes Go.WideShapes Go.ChangeAt Go.RowKit Go.Maps Go.Shelf
set_option linter.unusedVariables false
set_option linter.unusedSimpArgs false

abbrev cN1 : CH := ⟨nM, 1, 3, true, 1, 4⟩
abbrev cN2 : CH := ⟨nM, 2, 3, false, 1, 4⟩
abbrev sN1 : ST := ⟨cN1, true, 20, E.EX.z, E.EX.z⟩
theorem fit_nil : fitL [] = true := by decide
theorem xa1 : crE (recs []) nM 1 4 = 0 := by decide
theorem xa2 : crS [] 3 nM 1 4 = [begs cN1] := by unfold crS; rw [if_pos xa1]; rfl
theorem is_m {s : ST} (h1 : s.c.nm = nM) (h2 : s.c.al = true) : isP nM s = true := by unfold isP; rw [eqN_iff.2 h1, h2]; rfl
theorem plc_m {s : ST} (h1 : s.c.nm = nM) (h2 : s.c.al = true) : plc nM [s] = some 0 := plc_some (by simp) (fun j h => by omega) (is_m h1 h2)
theorem xf1 : fitL [begs cN1] = true := by rw [← xa2]; exact crS_fit fit_nil (by decide) nM 1 4
theorem xb1 : stE [begs cN1] nM 5 = 0 := by unfold stE; rw [plc_m rfl rfl]; decide
theorem xb2 : stS [begs cN1] 3 nM 5 = [sN1] := by unfold stS; rw [plc_m rfl rfl]; rfl
theorem xb3 : stE [begs cN1] nM 600000000 = 10 := by unfold stE; rw [plc_m rfl rfl]; decide
theorem xf2 : fitL [sN1] = true := by rw [← xb2]; exact stS_fit xf1 (by decide) nM 5
theorem xc1 : fdV nM [sN1] = .tuple #[sN1.val, .bool true] := by unfold fdV fdT; rw [plc_m rfl rfl]; rfl
theorem lkN : lk nM (recs [sN1]) = some cN1 := if_pos rfl
theorem xd1 : dlE (recs [sN1]) nM = 0 := by unfold dlE; rw [lkN]; rfl
theorem xd2 : dlS [sN1] 3 nM = [begs cN2] := by
  have e : dlM (recs [sN1]) 3 nM = cN2 := by unfold dlM; rw [lkN]; rfl
  have h : ltN nM nM = false := lt_irr _
  unfold dlS
  rw [if_pos xd1, e, anw, if_neg (by rw [h]; decide), if_neg (by rw [h]; decide)]
theorem xf3 : fitL [begs cN2] = true := by rw [← xd2]; exact dlS_fit xf2 (by decide) nM
theorem xe1 : stE [begs cN2] nM 1 = 44 := by
  unfold stE
  rw [plc_none (fun j hj => ?_)]
  have : j = 0 := by simpa using hj
  subst this
  unfold isP
  rw [show ([begs cN2].getD 0 ST.z).c.al = false from rfl, Bool.and_false]
theorem xg1 : fitS 3 [sN1] = true := by rw [fitS_iff]; exact ⟨by decide, xf2⟩
set_option maxRecDepth 100000 in
set_option maxHeartbeats 8000000 in
theorem awake_anyS (w : World) : Calls Try.prog 14 #[] w fun e w' => e = .returned (.bool true) ∧ Below w.heap.size w w' := by
  have K1 := create_anyS none 0 [] 3 nM 1 4 w (rdT_nil w) fit_nil
  rw [xa1, xa2] at K1
  have K2 : ∀ W a c, LstT W a 1 c [begs cN1] → Calls Try.prog 27 #[.slice a 1 c, .int .i64 3, .string nM, .int .i64 5] W (AnsV W [sN1] (.int .i64 0)) := fun W a c h => by
    have h9 := set_anyS a c [begs cN1] 3 nM 5 W (h.rd (by decide)) xf1
    rw [xb1, xb2] at h9
    exact h9
  have K3 : ∀ W a c, LstT W a 1 c [begs cN1] → Calls Try.prog 27 #[.slice a 1 c, .int .i64 3, .string nM, .int .i64 600000000] W fun e w' => ∃ v, e = .returned (.tuple #[v, .int .i64 10]) ∧ Below W.heap.size W w' := fun W a c h => by
    have h9 := set_anyS a c [begs cN1] 3 nM 600000000 W (h.rd (by decide)) xf1
    rw [xb3] at h9
    refine h9.mono ?_
    rintro e w' ⟨a', c', rfl, _, _, b⟩
    exact ⟨_, rfl, b⟩
  have K4 : ∀ W a c, LstT W a 1 c [sN1] → Calls Try.prog 16 #[.slice a 1 c, .string nM] W fun e w' => e = .returned (.tuple #[ste nM 1 3 true 1 4 true 20 false 0 0 0 false 0 0 0, .bool true]) ∧ Below W.heap.size W w' := fun W a c h => by
    have h9 := find_anyT a 1 c [sN1] nM W (h.rd (by decide))
    rw [xc1] at h9
    exact h9
  have K5 : ∀ W a c, LstT W a 1 c [sN1] → Calls Try.prog 26 #[.slice a 1 c, .int .i64 3, .string nM] W (AnsV W [begs cN2] (.int .i64 0)) := fun W a c h => by
    have h9 := delete_anyS a c [sN1] 3 nM W (h.rd (by decide)) xf2
    rw [xd1, xd2] at h9
    exact h9
  have K6 : ∀ W a c, LstT W a 1 c [begs cN2] → Calls Try.prog 27 #[.slice a 1 c, .int .i64 3, .string nM, .int .i64 1] W fun e w' => ∃ v, e = .returned (.tuple #[v, .int .i64 44]) ∧ Below W.heap.size W w' := fun W a c h => by
    have h9 := set_anyS a c [begs cN2] 3 nM 1 W (h.rd (by decide)) xf3
    rw [xe1] at h9
    refine h9.mono ?_
    rintro e w' ⟨a', c', rfl, _, _, b⟩
    exact ⟨_, rfl, b⟩
  have K7 : ∀ W a c, LstT W a 1 c [sN1] → Calls Try.prog 7 #[.int .i64 3, .slice a 1 c] W fun e w' => e = .returned (.bool true) ∧ Below W.heap.size W w' := fun W a c h => by
    have h9 := fit_any7 3 a 1 c [sN1] W (h.rd (by decide))
    rw [xg1] at h9
    exact h9
  have K8 := fun W => flows_any 1 W
  rw [show flowsB 1 = true from rfl] at K8
  go_enter Try.func14, Try.ntmps14
  go_wp2_with (first
      | (go_at_call 25; refine K1.mono ?_; clear K1; rintro e W1 ⟨a1, c1, rfl, L1, f1, b1⟩; have M := (Mem.nil w).later b1)
      | (go_at_call 27; refine (K2 _ _ _ L1).mono ?_; clear K2; rintro e W2 ⟨a2, c2, rfl, L2, f2, b2⟩; replace L1 := L1.below b2; replace M := M.later b2; clear b2)
      | (go_at_call 27; refine (K3 _ _ _ L1).mono ?_; clear K3 L1; rintro e W3 ⟨v3, rfl, b3⟩; replace L2 := L2.below b3; replace M := M.later b3; clear b3)
      | (go_at_call 16; refine (K4 _ _ _ L2).mono ?_; clear K4; rintro e W4 ⟨rfl, b4⟩; replace L2 := L2.below b4; replace M := M.later b4; clear b4; have B := M.below; clear M; have M := Mem.nil W4)
      | ((with_reducible show wpList _ _ _ (Oper.mk (some 7) (Op.alloc 35) _ _ _ _ :: _) _ _); refine wpList_alloc M rfl rfl rtT ?_; clear M; intro k7 W M)
      | ((with_reducible show wpList _ _ _ (Oper.mk _ (Op.store 35 _ _) _ _ _ _ :: _) _ _); (first | (refine wpList_put M rfl _ _ rfl rtT 0 _ rfl rfl rfl rfl rfl (by simp [Value.oneCell']) ?_)); clear M; intro W M; simp only [List.set_cons_zero, List.set_cons_succ] at M)
      | (go_at_call 26; refine (K5 _ _ _ (L2.below M.below)).mono ?_; clear K5; rintro e W5 ⟨a3, c3, rfl, L3, f3, b3⟩; replace M := M.later b3; clear b3)
      | (go_at_call 27; refine (K6 _ _ _ L3).mono ?_; clear K6 L3; rintro e W6 ⟨v6, rfl, b6⟩; replace M := M.later b6; clear b6)
      | ((with_reducible show wpList _ _ _ (Oper.mk _ (Op.load 2 _) _ _ _ _ :: _) _ _); refine wpList_cell2 M (by rfl) _ rfl _ rfl (by first | exact .head _) rfl ?_)
      | ((with_reducible show wpList _ _ _ (Oper.mk _ (Op.load 4 _) _ _ _ _ :: _) _ _); refine wpList_cell4 M (by rfl) _ rfl _ rfl (by first | exact .head _) rfl ?_)
      | (go_at_call 7; refine (K7 _ _ _ (L2.below M.below)).mono ?_; clear K7; rintro e W7 ⟨rfl, b7⟩; replace M := M.later b7; clear b7)
      | (go_at_call 9; refine (K8 _).mono ?_; clear K8; rintro e W8 ⟨rfl, rfl⟩))
  go_ret
  exact ⟨rfl, B.trans (M.below.mono B.size)⟩
end Go.Proofs.Ytoeebofappbneaa

namespace Go.Proofs.Ytoeebofappbneaa
open Go.ChangeShapes Go.WideShapes Go.ChangeAt Go.RowKit Go.Maps Go.Shelf
set_option linter.unusedVariables false
set_option linter.unusedSimpArgs false

theorem names_small {l : List ST} (hf : fitL l = true) : ∀ x, x ∈ recs l → (x.nm.size : Int) ≤ 9223372036854775807 := fun x hx => by
  have h := (fit_parts (fitsB_fit (fitL_iff.1 hf).1 x hx)).1
  unfold nameB at h
  rw [Bool.and_eq_true] at h
  have := of_decide_eq_true h.1
  omega
theorem fitS_of {id : Int} {l : List ST} (h1 : nodeB id = true) (h2 : fitL l = true) : fitS id l = true := fitS_iff.2 ⟨h1, h2⟩
theorem rd8 {W : World} {a : Option Addr} {cap : Nat} {l : List ST} (hf : fitL l = true) (L : LstT W a l.length cap l) : RdT W a l.length cap l := L.rd (by have := fitL_len hf; omega)
set_option maxRecDepth 100000 in
set_option maxHeartbeats 8000000 in
theorem learns_walk (id : Int) (a : Option Addr) (n cap : Nat) (l : List ST) (cn : ByteArray) (ce cm : Int) (ca : Bool) (ck cs : Int) (w : World) (hr : RdT w a n cap l) (hs : Hid (∀ x, x ∈ recs l → (x.nm.size : Int) ≤ 9223372036854775807)) (hc : Hid ((cn.size : Int) ≤ 9223372036854775807)) :
    Calls Try.prog 5 #[.int .i64 id, .slice a n cap, chv cn ce cm ca ck cs] w fun e w' => e = .returned (.bool true) ∧ Below w.heap.size w w' := by
  have M := Mem.nil w
  have hn := hr.size
  subst hn
  have K1 := fun W (b : Below w.heap.size w W) => rfit_any8 id a _ cap l W (hr.below b) hs.out
  have K2 := fun W => rfit_any cn ce cm ca ck cs W hc
  cases hf : fitS id l with
  | false =>
    rw [hf] at K1
    clear hf hr hs hc
    go_enter Try.func5, Try.ntmps5
    go_wp2_with (first
      | ((with_reducible show wpList _ _ _ (Oper.mk (some 5) (Op.box 30 _) _ _ _ _ :: _) _ _); refine wpList_box M rfl _ rfl _ rfl ?_; clear M; intro k5 W M)
      | (go_at_call 8; refine (K1 _ M.below).mono ?_; rintro e W1 ⟨rfl, b1⟩; replace M := M.later b1; clear b1)
      | (go_at_call 14; refine (awake_anyS _).mono ?_; rintro e W9 ⟨rfl, b9⟩; replace M := M.later b9; clear b9))
    go_ret
    exact ⟨rfl, M.below⟩
  | true =>
  rw [hf] at K1
  cases hcf : CH.fit ⟨cn, ce, cm, ca, ck, cs⟩ with
  | false =>
    rw [hcf] at K2
    clear hf hr hs hc hcf
    go_enter Try.func5, Try.ntmps5
    go_wp2_with (first
      | ((with_reducible show wpList _ _ _ (Oper.mk (some 5) (Op.box 30 _) _ _ _ _ :: _) _ _); refine wpList_box M rfl _ rfl _ rfl ?_; clear M; intro k5 W M)
      | ((with_reducible show wpList _ _ _ (Oper.mk _ (Op.load 30 _) _ _ _ _ :: _) _ _); refine wpList_load M (by rfl) _ rfl rt23 rfl (by first | exact .head _) (by rfl) ?_)
      | (go_at_call 8; refine (K1 _ M.below).mono ?_; rintro e W1 ⟨rfl, b1⟩; replace M := M.later b1; clear b1)
      | (go_at_call 15; refine (K2 _).mono ?_; rintro e W1 ⟨rfl, b1⟩; replace M := M.later b1; clear b1)
      | (go_at_call 14; refine (awake_anyS _).mono ?_; rintro e W9 ⟨rfl, b9⟩; replace M := M.later b9; clear b9))
    go_ret
    exact ⟨rfl, M.below⟩
  | true =>
    rw [hcf] at K2
    obtain ⟨hid, hfl⟩ := fitS_iff.1 hf
    have HFL : Hid (fitL l = true) := hfl
    have K3 := fun W (b : Below w.heap.size w W) => rcopy_any a cap l W (hr.below b)
    have K4 := fun (a1 : Option Addr) (c1 : Nat) W (L : LstT W a1 l.length c1 l) => learn_anyS a1 c1 l cn ce cm ca ck cs W (rd8 HFL.out L) HFL.out
    have K5 := fun W (b : Below w.heap.size w W) => rlearn_anyS a cap l cn ce cm ca ck cs W (hr.below b) HFL.out
    have hfl2 := lrnS_fit (c := ⟨cn, ce, cm, ca, ck, cs⟩) hfl hcf
    have hag := lrnS_again (c := ⟨cn, ce, cm, ca, ck, cs⟩) hfl
    have hbg := lrnB_again (c := ⟨cn, ce, cm, ca, ck, cs⟩) hfl
    obtain ⟨LL, hLL⟩ : ∃ LL, lrnS l ⟨cn, ce, cm, ca, ck, cs⟩ = LL := ⟨_, rfl⟩
    obtain ⟨B, hB⟩ : ∃ B, lrnB l ⟨cn, ce, cm, ca, ck, cs⟩ = B := ⟨_, rfl⟩
    rw [hLL] at hfl2 hag hbg
    rw [hLL, hB] at K4 K5
    have HF2 : Hid (fitL LL = true) := hfl2
    have K6 := fun (a1 a2 : Option Addr) (c1 c2 : Nat) W (L1 : LstT W a1 LL.length c1 LL) (L2 : LstT W a2 LL.length c2 LL) => rsame_any a1 a2 _ _ c1 c2 LL LL W (rd8 HF2.out L1) (rd8 HF2.out L2)
    have K7 := fun (a1 : Option Addr) (c1 : Nat) W (L1 : LstT W a1 LL.length c1 LL) => rfit_any8 id a1 _ c1 LL W (rd8 HF2.out L1) (names_small HF2.out)
    have K8 := fun (a1 : Option Addr) (c1 : Nat) W (b : Below w.heap.size w W) (L1 : LstT W a1 l.length c1 l) => rsame_any a1 a _ _ c1 cap l l W (rd8 HFL.out L1) (hr.below b)
    have K9 := fun (a1 : Option Addr) (c1 : Nat) W (L : LstT W a1 LL.length c1 LL) => learn_anyS a1 c1 LL cn ce cm ca ck cs W (rd8 HF2.out L) HF2.out
    rw [hag, hbg] at K9
    rw [sameT_self] at K6 K8
    rw [fitS_of hid hfl2] at K7
    have eB : (B != B) = false := by simp
    clear hf hr hs hc hcf hid hfl hfl2 hag hbg hLL hB
    go_enter Try.func5, Try.ntmps5
    go_wp2_with (first
      | ((with_reducible show wpList _ _ _ (Oper.mk (some 5) (Op.box 30 _) _ _ _ _ :: _) _ _); refine wpList_box M rfl _ rfl _ rfl ?_; clear M; intro k5 W M)
      | ((with_reducible show wpList _ _ _ (Oper.mk _ (Op.load 30 _) _ _ _ _ :: _) _ _); refine wpList_load M (by rfl) _ rfl rt23 rfl (by first | exact .head _) (by rfl) ?_)
      | (go_at_call 8; refine (K1 _ M.below).mono ?_; clear K1; rintro e W1 ⟨rfl, b1⟩; replace M := M.later b1; clear b1)
      | (go_at_call 15; refine (K2 _).mono ?_; clear K2; rintro e W1 ⟨rfl, b1⟩; replace M := M.later b1; clear b1)
      | (go_at_call 13; refine (K3 _ M.below).mono ?_; clear K3; rintro e W1 ⟨a1, c1, rfl, L1, fo1, b1⟩; replace M := M.later b1; clear b1 fo1)
      | (go_at_call 23; refine (K4 _ _ _ L1).mono ?_; clear K4; rintro e W1 ⟨a2, c2, rfl, L2, fo2, b1⟩; replace M := M.later b1; replace L1 := L1.below b1; clear b1 fo2)
      | (go_at_call 24; refine (K5 _ M.below).mono ?_; clear K5; rintro e W1 ⟨a3, c3, rfl, L3, fo3, b1⟩; replace M := M.later b1; replace L1 := L1.below b1; replace L2 := L2.below b1; clear b1 fo3)
      | (go_at_call 12; refine (K6 a2 a3 _ _ _ L2 L3).mono ?_; clear L3; rintro e W1 ⟨rfl, b1⟩; replace M := M.later b1; replace L1 := L1.below b1; replace L2 := L2.below b1; clear b1)
      | (go_at_call 8; refine (K7 _ _ _ L2).mono ?_; clear K7; rintro e W1 ⟨rfl, b1⟩; replace M := M.later b1; replace L1 := L1.below b1; replace L2 := L2.below b1; clear b1)
      | (go_at_call 12; refine (K8 _ _ _ M.below L1).mono ?_; clear K8 L1; rintro e W1 ⟨rfl, b1⟩; replace M := M.later b1; replace L2 := L2.below b1; clear b1)
      | (go_at_call 23; refine (K9 _ _ _ L2).mono ?_; clear K9; rintro e W1 ⟨a4, c4, rfl, L4, fo4, b1⟩; replace M := M.later b1; replace L2 := L2.below b1; clear b1 fo4)
      | (go_at_call 12; refine (K6 a4 a2 _ _ _ L4 L2).mono ?_; clear K6 L4; rintro e W1 ⟨rfl, b1⟩; replace M := M.later b1; clear b1)
      | (go_at_call 14; refine (awake_anyS _).mono ?_; rintro e W9 ⟨rfl, b9⟩; replace M := M.later b9; clear b9))
    go_ret
    exact ⟨rfl, M.below⟩
end Go.Proofs.Ytoeebofappbneaa

namespace Go.Proofs.Ytoeebofappbneaa.chansLearns
open Go.ChangeShapes Go.WideShapes Go.ChangeAt Go.RowKit Go.Deep
open Go.ChangeMaps (open_string shut_string)
set_option linter.unusedVariables false
set_option linter.unusedSimpArgs false

theorem own : ownKnob Try.prog.godebug = none := by kernel_rfl
theorem laidOut : laidOutB Try.prog = true := by kernel_rfl

set_option maxRecDepth 100000 in
theorem lifted (os : Os) (started : os.Started) (H : Type) (enc : TypeId × Value → H) :
    ReturnsInHanded {} Try.checked os 5 .any (Rows.chansLearnsSpec.pre6 enc Try.prog Try.f5 Rows.chansLearnsRow.domain false) (Rows.chansLearnsSpec.post enc Try.prog Try.f5 false true false false) := by
  refine returnsInHanded_of_change_sized (C := Try.checked) own started (by kernel_rfl) Try.func5
    (ChangeSpec.witness6 (enc := enc) (C := Try.checked) false ⟨#[], #[.int .i64 0, .slice none 0 0, .agg #[.string ⟨#[]⟩, .int .i64 0, .int .i64 0, .bool false, .int .i64 0, .int .i64 0]], []⟩ 8 (by kernel_rfl) (by kernel_rfl) (by kernel_rfl) (by kernel_rfl)) ?_
  intro W base args ds gs before hval0 hW hcnd hsz0 _
  have hsz : (DataW.weightsEach Try.prog (Try.f5.params.toList ++ Rows.chansLearnsSpec.plain.varTypes Try.prog) (ds ++ gs)).all (· ≤ reachBytes) = true := hsz0
  clear hsz0
  have hval : ∀ (j : Nat) t v, Try.f5.params[j]? = some t → args[j]? = some v → Value.okWide Try.prog W .any base t v := hval0
  have hW' := hW
  obtain ⟨p, q, hA0, hV, rfl, hfz, hnd⟩ := hW
  have hA : DataW.TrodAll enc Try.prog W 0 (fun _ => true) true Try.f5.params.toList args.toList ds p := hA0
  rw [Try.params5] at hA hval hsz
  obtain ⟨v0, vs0, d0, ds0, p0, q0, hargs, rfl, rfl, h0, r0⟩ := trodAll_cons hA
  obtain ⟨v1, vs1, d1, ds1, p1, q1, rfl, rfl, rfl, h1, r1⟩ := trodAll_cons r0
  obtain ⟨v2, vs2, d2, ds2, p2, q2, rfl, rfl, rfl, h2, r2⟩ := trodAll_cons r1
  obtain ⟨rfl, rfl, rfl⟩ := trodAll_nil r2
  obtain rfl : args = #[v0, v1, v2] := by cases args; simp_all
  obtain ⟨rfl, rfl⟩ := trodVars_none hV
  obtain ⟨a0, rfl, rfl, rfl, w0⟩ := open_int Try.underlying3 (hval 0 3 v0 rfl rfl) h0
  have k1 := h1
  have lt1 : ∀ x ∈ p1, x.block < W.heap.size := by obtain ⟨m, hm⟩ := k1; exact DataW.trod_lt m _ _ _ hm
  obtain ⟨a1, len1, cap1, rfl⟩ := okWide_slice Try.underlying22 (hval 1 22 v1 rfl rfl)
  obtain ⟨l1, O1, S1⟩ := open_states k1 (sized_arg hsz (j := 1) (t := 22) rfl rfl)
  have k2 := h2
  have lt2 : ∀ x ∈ p2, x.block < W.heap.size := by obtain ⟨m, hm⟩ := k2; exact DataW.trod_lt m _ _ _ hm
  obtain ⟨n2, e2, m2, b2, y2, z2, rfl, s2⟩ := open_chan (hval 2 30 v2 rfl rfl) k2
  clear hA0 hval0
  refine (learns_walk a0 a1 len1 cap1 l1 n2 e2 m2 b2 y2 z2 W O1 S1 s2).mono fun e W' ⟨he, bel⟩ => ?_
  subst he
  exact ⟨_, rfl, _, _, _, [], _, [], hW', trodAll_mk1 (shut_bool Try.underlying4 _), (trodAll_cons_mk (shut_int Try.underlying3 w0) (trodAll_cons_mk (Below.trod laidOut (by kernel_rfl) (of_decide_eq_true (by kernel_rfl)) k1 bel lt1) (trodAll_cons_mk (Below.trod laidOut (by kernel_rfl) (of_decide_eq_true (by kernel_rfl)) k2 bel lt2) trodAll_mk0))), rfl, bel.frame _, fun h => by cases h⟩

theorem over : Rows.chansLearnsRow.holds Try.pinned (OpenSpec.ofChange Rows.chansLearnsSpec) :=
  OpenClaim.holds_of_wide 5 Try.f5 rfl rfl rfl rfl rfl rfl rfl ⟨rfl, rfl, rfl, rfl, rfl⟩ rfl rfl rfl rfl rfl (by kernel_rfl) Try.func5 (by kernel_rfl)
    (of_decide_eq_true (by kernel_rfl)) (by unfold Func.isWrapper; first | (rw [if_pos (by decide +kernel)]; kernel_rfl) | (rw [if_neg (by decide +kernel)]; exact ⟨rfl, rfl⟩))
    (fun os started H enc _ => lifted os started H enc)

/-- The statement. -/
theorem proved : Rows.ChansLearnsSaid := over
#print axioms proved
end Go.Proofs.Ytoeebofappbneaa.chansLearns
