/-
  Whether an item is one, by the document.
-/
import Derived.Test.YticmjlnpjopfbaaDoorFitD
namespace Go.Proofs.YticmjlnpjopfbaaDoor
open Go.ChangeShapes Go.WideShapes Go.ChangeAt Go.RowKit
open C (bytesL bytesL_length ret_bool)
set_option linter.unusedVariables false
set_option linter.unusedSimpArgs false

set_option maxRecDepth 100000 in
set_option maxHeartbeats 4000000 in
theorem ritem_dead (x : Itm) (w : World) (hc : chanB x = true) (k0 : nameB x.name = true) (k1 : inB x.epoch 1 1099511627776 = true) (k2 : nodeB x.maker = true) (k3 : 1 ≤ x.kind) (k4 : x.kind ≤ 4) (k5 : inB x.scale 1 1048576 = true) (k6 : (x.kind == 4) = false) (ha : x.alive = false) : Calls Tryd.prog 17 #[itv x] w fun r w' => r = .returned (.bool (itemB x)) ∧ Below w.heap.size w w' := by
  have HF : Hid (itemB x = (regZB x && !x.hasRest && x.rest == 0 && (exZB x.mn && exZB x.mx))) := by show _ = _; simp [itemB, hc, partB, extsB, ha]
  clear hc
  obtain ⟨nm, ep, mk, al, kd, sc, vr, wr, fl, hr, rs, ⟨h1, v1, o1, a1⟩, ⟨h2, v2, o2, a2⟩⟩ := x
  obtain rfl : al = false := ha
  simp only at k0 k1 k2 k3 k4 k5 k6
  go_enter Tryd.func17, Tryd.ntmps17
  go_wp2_with (first
    | (go_at_call 19; refine (rname_any _ _).mono ?_; rintro e w1 ⟨rfl, hw⟩; rw [hw]; clear hw; try simp only [k0])
    | (go_at_call 31; refine (rnode_any _ _).mono ?_; rintro e w1 ⟨rfl, hw⟩; rw [hw]; clear hw)
    | (go_at_call 43; refine (flow_any _ _).mono ?_; rintro e w1 ⟨rfl, hw⟩; rw [hw]; clear hw)
    | (go_at_call 44; refine (rext_any ⟨_, _, _, _⟩ _).mono ?_; rintro e w1 ⟨rfl, hw⟩; rw [hw]; clear hw)
    | (go_at_call 32; refine (within_any _ _ _ _).mono ?_; rintro e w1 ⟨rfl, hw⟩; rw [hw]; clear hw))
  all_goals go_ret
  all_goals refine ⟨ret_bool ?_, by repeat (first | exact Below.refl _ _ | refine Below.alloc ?_ (by simp; omega) _ | refine Below.alloc ?_ (by simp) _)⟩
  all_goals (rw [HF.out]; simp_all [regZB, exZB])
set_option maxRecDepth 100000 in
set_option maxHeartbeats 4000000 in
theorem ritem_dead4 (x : Itm) (w : World) (hc : chanB x = true) (k0 : nameB x.name = true) (k1 : inB x.epoch 1 1099511627776 = true) (k2 : nodeB x.maker = true) (k3 : x.kind = 4) (k5 : x.scale = 1) (ha : x.alive = false) : Calls Tryd.prog 17 #[itv x] w fun r w' => r = .returned (.bool (itemB x)) ∧ Below w.heap.size w w' := by
  have HF : Hid (itemB x = (regZB x && !x.hasRest && x.rest == 0 && (exZB x.mn && exZB x.mx))) := by show _ = _; simp [itemB, hc, partB, extsB, ha]
  clear hc
  have k6 : inB 1 1 1048576 = true := by decide
  obtain ⟨nm, ep, mk, al, kd, sc, vr, wr, fl, hr, rs, ⟨h1, v1, o1, a1⟩, ⟨h2, v2, o2, a2⟩⟩ := x
  obtain rfl : al = false := ha
  obtain rfl : kd = 4 := k3
  obtain rfl : sc = 1 := k5
  simp only at k0 k1 k2
  go_enter Tryd.func17, Tryd.ntmps17
  go_wp2_with (first
    | (go_at_call 19; refine (rname_any _ _).mono ?_; rintro e w1 ⟨rfl, hw⟩; rw [hw]; clear hw; try simp only [k0])
    | (go_at_call 31; refine (rnode_any _ _).mono ?_; rintro e w1 ⟨rfl, hw⟩; rw [hw]; clear hw)
    | (go_at_call 43; refine (flow_any _ _).mono ?_; rintro e w1 ⟨rfl, hw⟩; rw [hw]; clear hw)
    | (go_at_call 44; refine (rext_any ⟨_, _, _, _⟩ _).mono ?_; rintro e w1 ⟨rfl, hw⟩; rw [hw]; clear hw)
    | (go_at_call 32; refine (within_any _ _ _ _).mono ?_; rintro e w1 ⟨rfl, hw⟩; rw [hw]; clear hw))
  all_goals go_ret
  all_goals refine ⟨ret_bool ?_, by repeat (first | exact Below.refl _ _ | refine Below.alloc ?_ (by simp; omega) _ | refine Below.alloc ?_ (by simp) _)⟩
  all_goals (rw [HF.out]; simp_all [regZB, exZB])
set_option maxRecDepth 100000 in
set_option maxHeartbeats 4000000 in
theorem ritem_ext (x : Itm) (w : World) (hc : chanB x = true) (k0 : nameB x.name = true) (k1 : inB x.epoch 1 1099511627776 = true) (k2 : nodeB x.maker = true) (k3 : x.kind = 4) (k5 : x.scale = 1) (ha : x.alive = true) : Calls Tryd.prog 17 #[itv x] w fun r w' => r = .returned (.bool (itemB x)) ∧ Below w.heap.size w w' := by
  have HF : Hid (itemB x = (regZB x && !x.hasRest && x.rest == 0 && (exB x.mn && exB x.mx))) := by show _ = _; simp [itemB, hc, partB, extsB, ha, k3]
  clear hc
  have k6 : inB 1 1 1048576 = true := by decide
  obtain ⟨nm, ep, mk, al, kd, sc, vr, wr, fl, hr, rs, ⟨h1, v1, o1, a1⟩, ⟨h2, v2, o2, a2⟩⟩ := x
  obtain rfl : al = true := ha
  obtain rfl : kd = 4 := k3
  obtain rfl : sc = 1 := k5
  simp only at k0 k1 k2
  go_enter Tryd.func17, Tryd.ntmps17
  go_wp2_with (first
    | (go_at_call 19; refine (rname_any _ _).mono ?_; rintro e w1 ⟨rfl, hw⟩; rw [hw]; clear hw; try simp only [k0])
    | (go_at_call 31; refine (rnode_any _ _).mono ?_; rintro e w1 ⟨rfl, hw⟩; rw [hw]; clear hw)
    | (go_at_call 43; refine (flow_any _ _).mono ?_; rintro e w1 ⟨rfl, hw⟩; rw [hw]; clear hw)
    | (go_at_call 44; refine (rext_any ⟨_, _, _, _⟩ _).mono ?_; rintro e w1 ⟨rfl, hw⟩; rw [hw]; clear hw)
    | (go_at_call 32; refine (within_any _ _ _ _).mono ?_; rintro e w1 ⟨rfl, hw⟩; rw [hw]; clear hw))
  all_goals go_ret
  all_goals refine ⟨ret_bool ?_, by repeat (first | exact Below.refl _ _ | refine Below.alloc ?_ (by simp; omega) _ | refine Below.alloc ?_ (by simp) _)⟩
  all_goals (rw [HF.out]; simp_all [regZB, exZB])
set_option maxRecDepth 100000 in
set_option maxHeartbeats 4000000 in
theorem ritem_flow (x : Itm) (w : World) (hc : chanB x = true) (k0 : nameB x.name = true) (k1 : inB x.epoch 1 1099511627776 = true) (k2 : nodeB x.maker = true) (k3 : 1 ≤ x.kind) (k4 : x.kind ≤ 4) (k5 : inB x.scale 1 1048576 = true) (k6 : (x.kind == 4) = false) (k7 : (x.kind != 4) = true) (ha : x.alive = true) : Calls Tryd.prog 17 #[itv x] w fun r w' => r = .returned (.bool (itemB x)) ∧ Below w.heap.size w w' := by
  have HF : Hid (itemB x = (regB x && (flowB x.rest && (x.hasRest || x.rest == 0)) && (exZB x.mn && exZB x.mx))) := by show _ = _; have h4 := k6; simp at h4; simp [itemB, hc, partB, extsB, ha, h4, Bool.and_assoc]
  clear hc
  obtain ⟨nm, ep, mk, al, kd, sc, vr, wr, fl, hr, rs, ⟨h1, v1, o1, a1⟩, ⟨h2, v2, o2, a2⟩⟩ := x
  obtain rfl : al = true := ha
  simp only at k0 k1 k2 k3 k4 k5 k6 k7
  go_enter Tryd.func17, Tryd.ntmps17
  go_wp2_with (first
    | (go_at_call 19; refine (rname_any _ _).mono ?_; rintro e w1 ⟨rfl, hw⟩; rw [hw]; clear hw; try simp only [k0])
    | (go_at_call 31; refine (rnode_any _ _).mono ?_; rintro e w1 ⟨rfl, hw⟩; rw [hw]; clear hw)
    | (go_at_call 43; refine (flow_any _ _).mono ?_; rintro e w1 ⟨rfl, hw⟩; rw [hw]; clear hw)
    | (go_at_call 44; refine (rext_any ⟨_, _, _, _⟩ _).mono ?_; rintro e w1 ⟨rfl, hw⟩; rw [hw]; clear hw)
    | (go_at_call 32; refine (within_any _ _ _ _).mono ?_; rintro e w1 ⟨rfl, hw⟩; rw [hw]; clear hw))
  all_goals go_ret
  all_goals refine ⟨ret_bool ?_, by repeat (first | exact Below.refl _ _ | refine Below.alloc ?_ (by simp; omega) _ | refine Below.alloc ?_ (by simp) _)⟩
  all_goals (rw [HF.out]; simp_all [regB, regZB, exZB])
theorem ritem_any (x : Itm) (w : World) : Calls Tryd.prog 17 #[itv x] w fun r w' => r = .returned (.bool (itemB x)) ∧ Below w.heap.size w w' := by
  cases k0 : nameB x.name with
  | false => exact ritem_no0 x w k0
  | true =>
  cases k1 : inB x.epoch 1 1099511627776 with
  | false => exact ritem_no1 x w k0 k1
  | true =>
  cases k2 : nodeB x.maker with
  | false => exact ritem_no2 x w k0 k1 k2
  | true =>
  by_cases k3 : 1 ≤ x.kind
  case neg => exact ritem_no3 x w k0 k1 k2 (by omega)
  by_cases k4 : x.kind ≤ 4
  case neg => exact ritem_no4 x w k0 k1 k2 k3 (by omega)
  cases k5 : inB x.scale 1 1048576 with
  | false => exact ritem_no5 x w k0 k1 k2 k3 k4 k5
  | true =>
  by_cases k6 : x.kind = 4
  · by_cases k7 : x.scale = 1
    · have hc : chanB x = true := by simp [chanB, k0, k1, k2, k5, k7]; simp [inB]; omega
      cases ha : x.alive with
      | false => exact ritem_dead4 x w hc k0 k1 k2 k6 k7 ha
      | true => exact ritem_ext x w hc k0 k1 k2 k6 k7 ha
    · exact ritem_no6 x w k0 k1 k2 k3 k4 k5 k6 (by simpa using k7)
  · have hc : chanB x = true := by simp [chanB, k0, k1, k2, k5, k6]; simp [inB]; omega
    cases ha : x.alive with
    | false => exact ritem_dead x w hc k0 k1 k2 k3 k4 k5 (by simpa using k6) ha
    | true => exact ritem_flow x w hc k0 k1 k2 k3 k4 k5 (by simpa using k6) (by simpa using k6) ha

end Go.Proofs.YticmjlnpjopfbaaDoor
