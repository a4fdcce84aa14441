/-
  Whether an item is one, by package wire and by the document.
-/
import Derived.Test.YticmjlnpjopfbabDoorFitF
namespace Go.Proofs.YticmjlnpjopfbabDoor
open Go.ChangeShapes Go.WideShapes Go.ChangeAt Go.RowKit
open C (bytesL bytesL_length ret_bool)
set_option linter.unusedVariables false
set_option linter.unusedSimpArgs false
section
variable {ops : Array Oper} {rest : List Oper} {o : Oper} {A : Act} {W : World} {Q : Exit → Act → World → Prop}
theorem wpList_eqs {t : TypeId} {xs ys : Array Value} {r : Bool} (hm : Tryd.prog.eqGuardType Tryd.prog.depth t = false) (hw : Region.wanted o (yielded ops A.tmps) = true) {x y : Operand} (ho : o.op = .binOp .eql t x y t) (hx : A.eval x = .agg xs) (hy : A.eval y = .agg ys) (hr : ∀ X, (binOp .eql t (.agg xs) (.agg ys)).run Tryd.prog X = .ok (.bool r) X)
    (h : wpList Tryd.prog ops Q rest (A.put o.dst (.bool r)) W) : wpList Tryd.prog ops Q (o :: rest) A W := by
  refine wpList_step (fun K hK => ?_)
  rw [if_pos hw]
  unfold Oper.wp execOp
  simp only [ho, hx, hy, Sem.run_bind, run_eqGuard_agg _ _ _ _ _ _ _ hm, hr, Result.andThen_ok, Sem.run_pure]
  exact hK _ _ h
end

set_option maxRecDepth 100000 in
set_option maxHeartbeats 4000000 in
theorem item_dead (x : Itm) (w : World) (hc : chanB x = true) (ha : x.alive = false) : Calls Tryd.prog 42 #[itv x] w fun r w' => r = .returned (.bool (itemB x)) ∧ Below w.heap.size w w' := by
  have HF : Hid (itemB x = (regZB x && !x.hasRest && x.rest == 0 && (exZB x.mn && exZB x.mx))) := by show _ = _; simp [itemB, hc, partB, extsB, ha]
  obtain ⟨nm, ep, mk, al, kd, sc, vr, wr, fl, hr, rs, ⟨h1, v1, o1, a1⟩, ⟨h2, v2, o2, a2⟩⟩ := x
  obtain rfl : al = false := ha
  go_enter Tryd.func42, Tryd.ntmps42
  go_wp2_with (first
    | ((with_reducible show wpList _ _ _ (Oper.mk _ (Op.binOp .eql 38 _ _ 38) _ _ _ _ :: _) _ _); refine wpList_eqs (by kernel_rfl) (by rfl) rfl rfl rfl (fun X => eql38 X _ _ _ _ _ _ _ _ _ _ _ _ _ _ _ _ _ _ _ _ _ _ _ _ _ _ _ _ _ _ _ _ _ _ _ _ _ _) ?_)
    | (go_at_call 57; refine (record_any ⟨nm, ep, mk, false, kd, sc, vr, wr, fl, hr, rs, ⟨h1, v1, o1, a1⟩, ⟨h2, v2, o2, a2⟩⟩ _).mono ?_; rintro e w1 ⟨rfl, hw1⟩; rw [hw1, hc]; clear hw1)
    | ((with_reducible show wpList _ _ _ (Oper.mk _ (Op.load 38 _) _ _ _ _ :: _) _ _); refine wpList_load38 _ rfl ?_ w.heap.size 0 ⟨nm, ep, mk, false, kd, sc, vr, wr, fl, hr, rs, ⟨h1, v1, o1, a1⟩, ⟨h2, v2, o2, a2⟩⟩ ?_ ?_ ?_; rfl; rfl; (first | with_reducible exact itAt_new _ ⟨nm, ep, mk, false, kd, sc, vr, wr, fl, hr, rs, ⟨h1, v1, o1, a1⟩, ⟨h2, v2, o2, a2⟩⟩ | with_reducible exact (itAt_new _ ⟨nm, ep, mk, false, kd, sc, vr, wr, fl, hr, rs, ⟨h1, v1, o1, a1⟩, ⟨h2, v2, o2, a2⟩⟩).alloc _ | with_reducible exact ((itAt_new _ ⟨nm, ep, mk, false, kd, sc, vr, wr, fl, hr, rs, ⟨h1, v1, o1, a1⟩, ⟨h2, v2, o2, a2⟩⟩).alloc _).alloc _ | with_reducible exact (((itAt_new _ ⟨nm, ep, mk, false, kd, sc, vr, wr, fl, hr, rs, ⟨h1, v1, o1, a1⟩, ⟨h2, v2, o2, a2⟩⟩).alloc _).alloc _).alloc _)))
  all_goals go_ret
  all_goals refine ⟨ret_bool ?_, by repeat (first | exact Below.refl _ _ | refine Below.alloc ?_ (by simp; omega) _ | refine Below.alloc ?_ (by simp) _)⟩
  all_goals (rw [HF.out]; simp only [regZB, exZB, Bool.and_assoc])
set_option maxRecDepth 100000 in
set_option maxHeartbeats 4000000 in
theorem item_ext (x : Itm) (w : World) (hc : chanB x = true) (ha : x.alive = true) (hk : x.kind = 4) : Calls Tryd.prog 42 #[itv x] w fun r w' => r = .returned (.bool (itemB x)) ∧ Below w.heap.size w w' := by
  have HF : Hid (itemB x = (regZB x && !x.hasRest && x.rest == 0 && (exB x.mn && exB x.mx))) := by show _ = _; simp [itemB, hc, partB, extsB, ha, hk]
  obtain ⟨nm, ep, mk, al, kd, sc, vr, wr, fl, hr, rs, ⟨h1, v1, o1, a1⟩, ⟨h2, v2, o2, a2⟩⟩ := x
  obtain rfl : al = true := ha
  obtain rfl : kd = 4 := hk
  go_enter Tryd.func42, Tryd.ntmps42
  go_wp2_with (first
    | ((with_reducible show wpList _ _ _ (Oper.mk _ (Op.binOp .eql 38 _ _ 38) _ _ _ _ :: _) _ _); refine wpList_eqs (by kernel_rfl) (by rfl) rfl rfl rfl (fun X => eql38 X _ _ _ _ _ _ _ _ _ _ _ _ _ _ _ _ _ _ _ _ _ _ _ _ _ _ _ _ _ _ _ _ _ _ _ _ _ _) ?_)
    | (go_at_call 57; refine (record_any ⟨nm, ep, mk, true, 4, sc, vr, wr, fl, hr, rs, ⟨h1, v1, o1, a1⟩, ⟨h2, v2, o2, a2⟩⟩ _).mono ?_; rintro e w1 ⟨rfl, hw1⟩; rw [hw1, hc]; clear hw1)
    | (go_at_call 58; refine (extreme_any ⟨_, _, _, _⟩ _).mono ?_; rintro e w1 ⟨rfl, hw1⟩; rw [hw1]; clear hw1)
    | ((with_reducible show wpList _ _ _ (Oper.mk _ (Op.load 38 _) _ _ _ _ :: _) _ _); refine wpList_load38 _ rfl ?_ w.heap.size 0 ⟨nm, ep, mk, true, 4, sc, vr, wr, fl, hr, rs, ⟨h1, v1, o1, a1⟩, ⟨h2, v2, o2, a2⟩⟩ ?_ ?_ ?_; rfl; rfl; (first | with_reducible exact itAt_new _ ⟨nm, ep, mk, true, 4, sc, vr, wr, fl, hr, rs, ⟨h1, v1, o1, a1⟩, ⟨h2, v2, o2, a2⟩⟩ | with_reducible exact (itAt_new _ ⟨nm, ep, mk, true, 4, sc, vr, wr, fl, hr, rs, ⟨h1, v1, o1, a1⟩, ⟨h2, v2, o2, a2⟩⟩).alloc _ | with_reducible exact ((itAt_new _ ⟨nm, ep, mk, true, 4, sc, vr, wr, fl, hr, rs, ⟨h1, v1, o1, a1⟩, ⟨h2, v2, o2, a2⟩⟩).alloc _).alloc _ | with_reducible exact (((itAt_new _ ⟨nm, ep, mk, true, 4, sc, vr, wr, fl, hr, rs, ⟨h1, v1, o1, a1⟩, ⟨h2, v2, o2, a2⟩⟩).alloc _).alloc _).alloc _)))
  all_goals go_ret
  all_goals refine ⟨ret_bool ?_, by repeat (first | exact Below.refl _ _ | refine Below.alloc ?_ (by simp; omega) _ | refine Below.alloc ?_ (by simp) _)⟩
  all_goals (rw [HF.out]; simp_all [regZB])
theorem item_flow (x : Itm) (w : World) (hc : chanB x = true) (ha : x.alive = true) (hk : (x.kind == 4) = false) : Calls Tryd.prog 42 #[itv x] w fun r w' => r = .returned (.bool (itemB x)) ∧ Below w.heap.size w w' := by
  have HF : itemB x = (regB x && (flowB x.rest && (x.hasRest || x.rest == 0)) && (exZB x.mn && exZB x.mx)) := by have h4 := hk; simp at h4; simp [itemB, hc, partB, extsB, ha, h4, Bool.and_assoc]
  rw [HF]
  clear HF
  obtain ⟨nm, ep, mk, al, kd, sc, vr, wr, fl, hr, rs, ⟨h1, v1, o1, a1⟩, ⟨h2, v2, o2, a2⟩⟩ := x
  obtain rfl : al = true := ha
  cases h1 with
  | true =>
    refine (item_flow0 nm ep mk kd sc vr wr fl rs hr v1 o1 a1 h2 v2 o2 a2 w hc hk).mono ?_
    rintro e w' ⟨rfl, hb⟩
    exact ⟨by simp [exZB], hb⟩
  | false =>
  by_cases hz1 : v1 = 0
  case neg =>
    refine (item_flow1 nm ep mk kd sc vr wr fl rs hr v1 o1 a1 h2 v2 o2 a2 w hc hk (by simpa using hz1)).mono ?_
    rintro e w' ⟨rfl, hb⟩
    exact ⟨by simp [exZB, hz1], hb⟩
  subst hz1
  by_cases hz2 : o1 = 0
  case neg =>
    refine (item_flow2 nm ep mk kd sc vr wr fl rs hr o1 a1 h2 v2 o2 a2 w hc hk (by simpa using hz2)).mono ?_
    rintro e w' ⟨rfl, hb⟩
    exact ⟨by simp [exZB, hz2], hb⟩
  subst hz2
  by_cases hz3 : a1 = 0
  case neg =>
    refine (item_flow3 nm ep mk kd sc vr wr fl rs hr a1 h2 v2 o2 a2 w hc hk (by simpa using hz3)).mono ?_
    rintro e w' ⟨rfl, hb⟩
    exact ⟨by simp [exZB, hz3], hb⟩
  subst hz3
  cases h2 with
  | true =>
    refine (item_flow4 nm ep mk kd sc vr wr fl rs hr v2 o2 a2 w hc hk).mono ?_
    rintro e w' ⟨rfl, hb⟩
    exact ⟨by simp [exZB], hb⟩
  | false =>
  by_cases hz5 : v2 = 0
  case neg =>
    refine (item_flow5 nm ep mk kd sc vr wr fl rs hr v2 o2 a2 w hc hk (by simpa using hz5)).mono ?_
    rintro e w' ⟨rfl, hb⟩
    exact ⟨by simp [exZB, hz5], hb⟩
  subst hz5
  by_cases hz6 : o2 = 0
  case neg =>
    refine (item_flow6 nm ep mk kd sc vr wr fl rs hr o2 a2 w hc hk (by simpa using hz6)).mono ?_
    rintro e w' ⟨rfl, hb⟩
    exact ⟨by simp [exZB, hz6], hb⟩
  subst hz6
  by_cases hz7 : a2 = 0
  case neg =>
    refine (item_flow7 nm ep mk kd sc vr wr fl rs hr a2 w hc hk (by simpa using hz7)).mono ?_
    rintro e w' ⟨rfl, hb⟩
    exact ⟨by simp [exZB, hz7], hb⟩
  subst hz7
  cases hg : regB ⟨nm, ep, mk, true, kd, sc, vr, wr, fl, hr, rs, ⟨false, 0, 0, 0⟩, ⟨false, 0, 0, 0⟩⟩ with
  | false =>
    refine (item_flown nm ep mk kd sc vr wr fl rs hr w hc hk hg).mono ?_
    rintro e w' ⟨rfl, hb⟩
    exact ⟨by simp, hb⟩
  | true =>
    refine (item_flowy nm ep mk kd sc vr wr fl rs hr w hc hk hg).mono ?_
    rintro e w' ⟨rfl, hb⟩
    exact ⟨by simp [exZB], hb⟩
set_option maxRecDepth 100000 in
set_option maxHeartbeats 4000000 in
theorem item_any (x : Itm) (w : World) : Calls Tryd.prog 42 #[itv x] w fun r w' => r = .returned (.bool (itemB x)) ∧ Below w.heap.size w w' := by
  cases hc : chanB x with
  | false =>
    have E : itemB x = false := by simp [itemB, hc]
    rw [E]
    go_enter Tryd.func42, Tryd.ntmps42
    go_wp2_with (go_at_call 57; refine (record_any x _).mono ?_; rintro e w1 ⟨rfl, hw1⟩; rw [hw1, hc]; clear hw1)
    all_goals go_ret
    all_goals exact ⟨rfl, ((Below.refl _ _).alloc (Nat.le_refl _) _).alloc (by simp) _⟩
  | true =>
    by_cases ha : x.alive = false
    · exact item_dead x w hc ha
    · have ha : x.alive = true := by simpa using ha
      by_cases hk : x.kind = 4
      · exact item_ext x w hc ha hk
      · exact item_flow x w hc ha (by simpa using hk)

end Go.Proofs.YticmjlnpjopfbabDoor
