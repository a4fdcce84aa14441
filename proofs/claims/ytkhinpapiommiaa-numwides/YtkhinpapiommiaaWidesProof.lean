/-
  For any two wide numbers num.Plus, Drop, Less and Text answer as the document says (P1.6, P1.7): the law NumWides returns true for every input.
-/
import Derived.Test.YtkhinpapiommiaaRows
import Derived.Test.YtkhinpapiommiaaAwake
import Derived.Test.YtkhinpapiommiaaRefs
import Derived.Test.YtkhinpapiommiaaRefText
import Derived.Deep.RegionHeld3
import Derived.WalkKit
import Derived.ProofKit
import Derived.OpenShut
import Derived.ShutString
import Derived.ChangeOld
import Derived.Below
import Derived.Lib.SmallJoins
namespace Go.Proofs.Ytkhinpapiommiaa.numWides
open Go.ChangeShapes Go.WideShapes Go.ChangeAt Go.RowKit Go.Joins
open Go.ChangeMaps (open_string shut_string)
set_option linter.unusedVariables false

theorem own : ownKnob Try.prog.godebug = none := by kernel_rfl
theorem laidOut : laidOutB Try.prog = true := by kernel_rfl

theorem cells35 : Try.prog.cellsOf 35 = 2 := by kernel_rfl

theorem shut_wide {H : Type} {enc : TypeId × Value → H} {W : World} {base : Nat} {spare : Nat → Bool} {held : Bool} {a b : Int} (wa : (Lit.int .u64 a).wf = true) (wb : (Lit.int .u64 b).wf = true) :
    DataW.Trod enc Try.prog W base spare held 35 (.agg #[.int .u64 a, .int .u64 b]) (.agg [.lit (.int .u64 a), .lit (.int .u64 b)]) [] :=
  shut_agg2 (y0 := (.lit (.int .u64 a), [])) (y1 := (.lit (.int .u64 b), [])) Try.underlying35 (by kernel_rfl) cells35 ⟨1, by simp [DataW.trod, Try.underlying33, wa]⟩ ⟨1, by simp [DataW.trod, Try.underlying33, wb]⟩


theorem u64_bd {n : Int} (h : (Lit.int .u64 n).wf = true) : 0 ≤ n ∧ n ≤ 18446744073709551615 := by
  have h1 : IntKind.u64.min = 0 := rfl
  have h2 : IntKind.u64.max = 18446744073709551615 := rfl
  simp only [Lit.wf, Bool.and_eq_true, decide_eq_true_eq] at h
  omega
theorem words_val {h l : Int} (h1 : 0 ≤ h) (h2 : h ≤ 18446744073709551615) (l1 : 0 ≤ l) (l2 : l ≤ 18446744073709551615) : hiW (val h l) = h ∧ lo64 (val h l) = l ∧ 0 ≤ val h l ∧ val h l < 340282366920938463463374607431768211456 := by
  unfold hiW hi64 lo64 val; omega
theorem text_val (h l : Int) (w : World) (h1 : 0 ≤ h) (h2 : h ≤ 18446744073709551615) (l1 : 0 ≤ l) (l2 : l ≤ 18446744073709551615) :
    Calls Try.prog 30 #[wide h l] w fun e w' => e = .returned (.string ⟨(dgs (val h l).toNat).toArray⟩) ∧ Below w.heap.size w w' := by
  obtain ⟨e1, e2, e3, e4⟩ := words_val h1 h2 l1 l2
  have c := text_any (val h l) w e3 e4
  rw [e1, e2] at c
  exact c
theorem rtext_val (h l : Int) (w : World) (h1 : 0 ≤ h) (h2 : h ≤ 18446744073709551615) (l1 : 0 ≤ l) (l2 : l ≤ 18446744073709551615) :
    Calls Try.prog 31 #[wide h l] w fun e w' => e = .returned (.string ⟨(dgs (val h l).toNat).toArray⟩) ∧ Below w.heap.size w w' := by
  obtain ⟨e1, e2, e3, e4⟩ := words_val h1 h2 l1 l2
  have c := rtext_any (val h l) w e3 e4
  rw [e1, e2] at c
  exact c

/-- A fact kept from the walk. -/
theorem hide {p : Prop} (h : p) : Hid p := h

/-- The two arguments, boxed, and old memory. -/
structure Boxes (w0 : World) (ah al bh bl : Int) (W : World) : Prop where
  A : Two W w0.heap.size (.int .u64 ah) (.int .u64 al)
  B : Two W (w0.heap.size + 1) (.int .u64 bh) (.int .u64 bl)
  old : Below w0.heap.size w0 W
theorem Boxes.below {w0 : World} {ah al bh bl : Int} {W w' : World} (h : Boxes w0 ah al bh bl W) (hb : Below W.heap.size W w') : Boxes w0 ah al bh bl w' := ⟨h.A.below hb, h.B.below hb, h.old.trans (hb.mono h.old.size)⟩
theorem Boxes.alloc {w0 : World} {ah al bh bl : Int} {W : World} (h : Boxes w0 ah al bh bl W) (o : Obj) : Boxes w0 ah al bh bl (W.alloc o) := ⟨h.A.alloc o, h.B.alloc o, h.old.alloc h.old.size o⟩
theorem Boxes.drew {w0 : World} {ah al bh bl : Int} {W : World} (h : Boxes w0 ah al bh bl W) : Boxes w0 ah al bh bl W.drew := ⟨h.A.drew, h.B.drew, h.old.drew⟩
theorem Boxes.start (w : World) (ah al bh bl : Int) (t : TypeId) : Boxes w ah al bh bl ((w.alloc (.cells #[.int .u64 ah, .int .u64 al] t)).alloc (.cells #[.int .u64 bh, .int .u64 bl] t)) :=
  ⟨(Two.new _ _ _ _).alloc _, (Two.new _ _ _ _).at (by simp), by go_grown⟩

/-- All that the last statement reads. -/
structure All (w0 : World) (ah al bh bl sh sl dh dl : Int) (k5 k7 k9 k11 : Nat) (W : World) : Prop where
  box : Boxes w0 ah al bh bl W
  t5 : Two W k5 (.int .u64 sh) (.int .u64 sl)
  t7 : Two W k7 (.int .u64 sh) (.int .u64 sl)
  t9 : Two W k9 (.int .u64 dh) (.int .u64 dl)
  t11 : Two W k11 (.int .u64 dh) (.int .u64 dl)
theorem All.below {w0 : World} {ah al bh bl sh sl dh dl : Int} {k5 k7 k9 k11 : Nat} {W w' : World} (h : All w0 ah al bh bl sh sl dh dl k5 k7 k9 k11 W) (hb : Below W.heap.size W w') : All w0 ah al bh bl sh sl dh dl k5 k7 k9 k11 w' :=
  ⟨h.box.below hb, h.t5.below hb, h.t7.below hb, h.t9.below hb, h.t11.below hb⟩
theorem All.drew {w0 : World} {ah al bh bl sh sl dh dl : Int} {k5 k7 k9 k11 : Nat} {W : World} (h : All w0 ah al bh bl sh sl dh dl k5 k7 k9 k11 W) : All w0 ah al bh bl sh sl dh dl k5 k7 k9 k11 W.drew :=
  ⟨h.box.drew, h.t5.drew, h.t7.drew, h.t9.drew, h.t11.drew⟩
/-- The cells, and all of it. -/
theorem All.cells {w0 : World} {ah al bh bl sh sl dh dl : Int} {k5 k7 k9 k11 : Nat} {W : World} (h : All w0 ah al bh bl sh sl dh dl k5 k7 k9 k11 W) :
    W.cell? ⟨w0.heap.size, 0, none⟩ = some (.int .u64 ah) ∧ W.cell? ⟨w0.heap.size, 1, none⟩ = some (.int .u64 al) ∧ W.cell? ⟨w0.heap.size + 1, 0, none⟩ = some (.int .u64 bh) ∧ W.cell? ⟨w0.heap.size + 1, 1, none⟩ = some (.int .u64 bl) ∧
    W.cell? ⟨k5, 0, none⟩ = some (.int .u64 sh) ∧ W.cell? ⟨k5, 1, none⟩ = some (.int .u64 sl) ∧ W.cell? ⟨k7, 0, none⟩ = some (.int .u64 sh) ∧ W.cell? ⟨k7, 1, none⟩ = some (.int .u64 sl) ∧
    W.cell? ⟨k9, 0, none⟩ = some (.int .u64 dh) ∧ W.cell? ⟨k9, 1, none⟩ = some (.int .u64 dl) ∧ W.cell? ⟨k11, 0, none⟩ = some (.int .u64 dh) ∧ W.cell? ⟨k11, 1, none⟩ = some (.int .u64 dl) ∧ All w0 ah al bh bl sh sl dh dl k5 k7 k9 k11 W :=
  ⟨h.box.A.1, h.box.A.2.1, h.box.B.1, h.box.B.2.1, h.t5.1, h.t5.2.1, h.t7.1, h.t7.2.1, h.t9.1, h.t9.2.1, h.t11.1, h.t11.2.1, h⟩

set_option maxRecDepth 100000 in
set_option maxHeartbeats 4000000 in
theorem walk_in (ah al bh bl : Int) (w : World) (ah1 : 0 ≤ ah) (ah2 : ah ≤ 18446744073709551615) (al1 : 0 ≤ al) (al2 : al ≤ 18446744073709551615) (bh1 : 0 ≤ bh) (bh2 : bh ≤ 18446744073709551615) (bl1 : 0 ≤ bl) (bl2 : bl ≤ 18446744073709551615) :
    Calls Try.prog 5 #[wide ah al, wide bh bl] w fun e w' => e = .returned (.bool true) ∧ Below w.heap.size w w' := by
  obtain ⟨sh, hsh⟩ : ∃ x, plH (val ah al + val bh bl) = x := ⟨_, rfl⟩
  obtain ⟨sl, hsl⟩ : ∃ x, plL (val ah al + val bh bl) = x := ⟨_, rfl⟩
  obtain ⟨dh, hdh⟩ : ∃ x, drH (val ah al) (val bh bl) = x := ⟨_, rfl⟩
  obtain ⟨dl, hdl⟩ : ∃ x, drL (val ah al) (val bh bl) = x := ⟨_, rfl⟩
  obtain ⟨ov, hov⟩ : ∃ x, (!ovW (val ah al + val bh bl)) = x := ⟨_, rfl⟩
  obtain ⟨le, hle⟩ : ∃ x, lessB (val ah al) (val bh bl) = x := ⟨_, rfl⟩
  have P := fun W => plus_any ah al bh bl W ah1 ah2 al1 al2 bh1 bh2 bl1 bl2
  have Q := fun W => rplus_any ah al bh bl W ah1 ah2 al1 al2 bh1 bh2 bl1 bl2
  have D := fun W => drop_any ah al bh bl W ah1 ah2 al1 al2 bh1 bh2 bl1 bl2
  have E := fun W => rdrop_any ah al bh bl W ah1 ah2 al1 al2 bh1 bh2 bl1 bl2
  have L := fun W => less_any ah al bh bl W ah1 ah2 al1 al2 bh1 bh2 bl1 bl2
  have M := fun W => rless_any ah al bh bl W ah1 ah2 al1 al2 bh1 bh2 bl1 bl2
  rw [hsh, hsl, hov] at P Q
  rw [hdh, hdl, hle] at D E
  rw [hle] at L M
  have T := fun W => text_val ah al W ah1 ah2 al1 al2
  have U := fun W => rtext_val ah al W ah1 ah2 al1 al2
  obtain ⟨S, hS⟩ : ∃ S : ByteArray, (⟨(dgs (val ah al).toNat).toArray⟩ : ByteArray) = S := ⟨_, rfl⟩
  rw [hS] at T U
  replace P := hide P
  replace Q := hide Q
  replace D := hide D
  replace E := hide E
  replace L := hide L
  replace M := hide M
  replace T := hide T
  replace U := hide U
  clear hsh hsl hdh hdl hov hle hS
  go_enter Try.func5, Try.ntmps5
  go_wp2_with fail
  have I := Boxes.start w ah al bh bl 35
  refine (P.out _).mono ?_
  rintro e w1 ⟨rfl, hb⟩
  replace I := Boxes.below I hb
  clear hb
  obtain ⟨p0, p1, _, _, z1⟩ := id I.A
  obtain ⟨p2, p3, _, _, z2⟩ := id I.B
  go_wp2_with fail
  replace I := Boxes.alloc I (.cells #[.int .u64 sh, .int .u64 sl] 35)
  have T5 := Two.new w1 (.int .u64 sh) (.int .u64 sl) 35
  refine (Q.out _).mono ?_
  rintro e w2 ⟨rfl, hb⟩
  replace I := Boxes.below I hb
  replace T5 := T5.below hb
  clear hb p0 p1 p2 p3 z1 z2
  obtain ⟨p0, p1, _, _, z1⟩ := id I.A
  obtain ⟨p2, p3, _, _, z2⟩ := id I.B
  go_wp2_with fail
  replace I := Boxes.alloc I (.cells #[.int .u64 sh, .int .u64 sl] 35)
  replace T5 := T5.alloc (.cells #[.int .u64 sh, .int .u64 sl] 35)
  have T7 := Two.new w2 (.int .u64 sh) (.int .u64 sl) 35
  refine (D.out _).mono ?_
  rintro e w3 ⟨rfl, hb⟩
  replace I := Boxes.below I hb
  replace T5 := T5.below hb
  replace T7 := T7.below hb
  clear hb p0 p1 p2 p3 z1 z2
  obtain ⟨p0, p1, _, _, z1⟩ := id I.A
  obtain ⟨p2, p3, _, _, z2⟩ := id I.B
  go_wp2_with fail
  replace I := Boxes.alloc I (.cells #[.int .u64 dh, .int .u64 dl] 35)
  replace T5 := T5.alloc (.cells #[.int .u64 dh, .int .u64 dl] 35)
  replace T7 := T7.alloc (.cells #[.int .u64 dh, .int .u64 dl] 35)
  have T9 := Two.new w3 (.int .u64 dh) (.int .u64 dl) 35
  refine (E.out _).mono ?_
  rintro e w4 ⟨rfl, hb⟩
  replace I := Boxes.alloc (Boxes.below I hb) (.cells #[.int .u64 dh, .int .u64 dl] 35)
  replace T5 := (T5.below hb).alloc (.cells #[.int .u64 dh, .int .u64 dl] 35)
  replace T7 := (T7.below hb).alloc (.cells #[.int .u64 dh, .int .u64 dl] 35)
  replace T9 := (T9.below hb).alloc (.cells #[.int .u64 dh, .int .u64 dl] 35)
  have T11 := Two.new w4 (.int .u64 dh) (.int .u64 dl) 35
  have J : All w ah al bh bl sh sl dh dl w1.heap.size w2.heap.size w3.heap.size w4.heap.size _ := ⟨I, T5, T7, T9, T11⟩
  clear hb p0 p1 p2 p3 z1 z2 I T5 T7 T9 T11
  go_wp2_with fail
  go_region_held3 (fun W => W.cell? ⟨w.heap.size, 0, none⟩ = some (.int .u64 ah) ∧ W.cell? ⟨w.heap.size, 1, none⟩ = some (.int .u64 al) ∧ W.cell? ⟨w.heap.size + 1, 0, none⟩ = some (.int .u64 bh) ∧ W.cell? ⟨w.heap.size + 1, 1, none⟩ = some (.int .u64 bl) ∧
    W.cell? ⟨w1.heap.size, 0, none⟩ = some (.int .u64 sh) ∧ W.cell? ⟨w1.heap.size, 1, none⟩ = some (.int .u64 sl) ∧ W.cell? ⟨w2.heap.size, 0, none⟩ = some (.int .u64 sh) ∧ W.cell? ⟨w2.heap.size, 1, none⟩ = some (.int .u64 sl) ∧
    W.cell? ⟨w3.heap.size, 0, none⟩ = some (.int .u64 dh) ∧ W.cell? ⟨w3.heap.size, 1, none⟩ = some (.int .u64 dl) ∧ W.cell? ⟨w4.heap.size, 0, none⟩ = some (.int .u64 dh) ∧ W.cell? ⟨w4.heap.size, 1, none⟩ = some (.int .u64 dl) ∧ All w ah al bh bl sh sl dh dl w1.heap.size w2.heap.size w3.heap.size w4.heap.size W)
    (first | exact All.cells J | exact All.cells (All.drew J))
    (first
      | (go_at_call 28; refine (L.out _).mono ?_; rintro e wx ⟨rfl, hb⟩; replace J := All.below (by first | exact J | exact All.drew J) hb)
      | (go_at_call 29; refine (M.out _).mono ?_; rintro e wx ⟨rfl, hb⟩; replace J := All.below (by first | exact J | exact All.drew J) hb)
      | (go_at_call 30; refine (T.out _).mono ?_; rintro e wx ⟨rfl, hb⟩; replace J := All.below (by first | exact J | exact All.drew J) hb)
      | (go_at_call 31; refine (U.out _).mono ?_; rintro e wx ⟨rfl, hb⟩; replace J := All.below (by first | exact J | exact All.drew J) hb)
      | (go_at_call 19; refine (awake_any _).mono ?_; rintro e wx ⟨rfl, hb⟩; replace J := All.below (by first | exact J | exact All.drew J) hb))
  all_goals go_wp2
  all_goals go_ret
  all_goals exact ⟨rfl, J.box.old⟩

theorem walk (ah al bh bl : Int) (w : World) (h1 : (Lit.int .u64 ah).wf = true) (h2 : (Lit.int .u64 al).wf = true) (h3 : (Lit.int .u64 bh).wf = true) (h4 : (Lit.int .u64 bl).wf = true) :
    Calls Try.prog 5 #[wide ah al, wide bh bl] w fun e w' => e = .returned (.bool true) ∧ Below w.heap.size w w' :=
  walk_in ah al bh bl w (u64_bd h1).1 (u64_bd h1).2 (u64_bd h2).1 (u64_bd h2).2 (u64_bd h3).1 (u64_bd h3).2 (u64_bd h4).1 (u64_bd h4).2

set_option maxRecDepth 100000 in
theorem lifted (os : Os) (started : os.Started) (H : Type) (enc : TypeId × Value → H) :
    ReturnsInHanded {} Try.checked os 5 .any (Rows.numWidesSpec.pre6 enc Try.prog Try.f5 Rows.numWidesRow.domain false) (Rows.numWidesSpec.post enc Try.prog Try.f5 false true false false) := by
  refine returnsInHanded_of_change (C := Try.checked) own started (by kernel_rfl) Try.func5
    (ChangeSpec.witness6 (enc := enc) (C := Try.checked) false ⟨#[], #[.agg #[.int .u64 0, .int .u64 0], .agg #[.int .u64 0, .int .u64 0]], []⟩ 8 (by kernel_rfl) (by kernel_rfl) (by kernel_rfl) (by kernel_rfl)) ?_
  intro W base args ds gs before hval0 hW hcnd _
  have hval : ∀ (j : Nat) t v, Try.f5.params[j]? = some t → args[j]? = some v → Value.okWide Try.prog W .any base t v := hval0
  have hW' := hW
  obtain ⟨p, q, hA0, hV, rfl, hfz, hnd⟩ := hW
  have hA : DataW.TrodAll enc Try.prog W 0 (fun _ => true) true Try.f5.params.toList args.toList ds p := hA0
  rw [Try.params5] at hA hval
  obtain ⟨v0, vs0, d0, ds0, p0, q0, hargs, rfl, rfl, h0, r0⟩ := trodAll_cons hA
  obtain ⟨v1, vs1, d1, ds1, p1, q1, rfl, rfl, rfl, h1, r1⟩ := trodAll_cons r0
  obtain ⟨rfl, rfl, rfl⟩ := trodAll_nil r1
  obtain rfl : args = #[v0, v1] := by cases args; simp_all
  obtain ⟨rfl, rfl⟩ := trodVars_none hV
  obtain ⟨c0, e0, y0, z0, m0, rfl, rfl, rfl, hy0, hz0⟩ := open_agg2 Try.underlying35 (by kernel_rfl) cells35 (hval 0 35 v0 rfl rfl) h0
  obtain ⟨a0, ea0, rfl, w0⟩ := DataW.trod_int Try.underlying33 hy0
  obtain ⟨b0, eb0, rfl, u0⟩ := DataW.trod_int Try.underlying33 hz0
  simp at ea0 eb0
  subst ea0 eb0
  obtain ⟨c1, e1, y1, z1, m1, rfl, rfl, rfl, hy1, hz1⟩ := open_agg2 Try.underlying35 (by kernel_rfl) cells35 (hval 1 35 v1 rfl rfl) h1
  obtain ⟨a1, ea1, rfl, w1⟩ := DataW.trod_int Try.underlying33 hy1
  obtain ⟨b1, eb1, rfl, u1⟩ := DataW.trod_int Try.underlying33 hz1
  simp at ea1 eb1
  subst ea1 eb1
  clear hA0 hval0
  refine (walk a0 b0 a1 b1 W w0 u0 w1 u1).mono fun e W' ⟨he, bel⟩ => ?_
  subst he
  exact ⟨_, rfl, _, _, _, [], _, [], hW', trodAll_mk1 (shut_bool Try.underlying4 _), (trodAll_cons_mk (shut_wide w0 u0) (trodAll_cons_mk (shut_wide w1 u1) trodAll_mk0)), rfl, bel.frame _, fun h => by cases h⟩

theorem over : Rows.numWidesRow.holds Try.pinned (OpenSpec.ofChange Rows.numWidesSpec) :=
  OpenClaim.holds_of_wide 5 Try.f5 rfl rfl rfl rfl rfl rfl rfl ⟨rfl, rfl, rfl, rfl, rfl⟩ rfl rfl rfl rfl rfl (by kernel_rfl) Try.func5 (by kernel_rfl)
    (of_decide_eq_true (by kernel_rfl)) (by unfold Func.isWrapper; first | (rw [if_pos (by decide +kernel)]; kernel_rfl) | (rw [if_neg (by decide +kernel)]; exact ⟨rfl, rfl⟩))
    (fun os started H enc _ => lifted os started H enc)

/-- The statement. -/
theorem proved : Rows.NumWidesSaid := over
#print axioms proved
end Go.Proofs.Ytkhinpapiommiaa.numWides
