/-
  Whether an item is one, by the document.
-/
import Derived.Test.YticmjlnpjopfbaaDoorFitB
namespace Go.Proofs.YticmjlnpjopfbaaDoor
open Go.ChangeShapes Go.WideShapes Go.ChangeAt Go.RowKit
open C (bytesL bytesL_length ret_bool)
set_option linter.unusedVariables false
set_option linter.unusedSimpArgs false

set_option maxRecDepth 100000 in
set_option maxHeartbeats 4000000 in
theorem ritem_no0 (x : Itm) (w : World) (k0 : nameB x.name = false) : Calls Tryd.prog 17 #[itv x] w fun r w' => r = .returned (.bool (itemB x)) ∧ Below w.heap.size w w' := by
  have HE : Hid (itemB x = false) := by show _ = _; simp [itemB, chanB, k0]
  go_enter Tryd.func17, Tryd.ntmps17
  go_wp2_with (first
    | (go_at_call 19; refine (rname_any _ _).mono ?_; rintro e w1 ⟨rfl, hw⟩; rw [hw]; clear hw; try simp only [k0])
    | (go_at_call 31; refine (rnode_any _ _).mono ?_; rintro e w1 ⟨rfl, hw⟩; rw [hw]; clear hw)
    | (go_at_call 43; refine (flow_any _ _).mono ?_; rintro e w1 ⟨rfl, hw⟩; rw [hw]; clear hw)
    | (go_at_call 44; refine (rext_any ⟨_, _, _, _⟩ _).mono ?_; rintro e w1 ⟨rfl, hw⟩; rw [hw]; clear hw)
    | (go_at_call 32; refine (within_any _ _ _ _).mono ?_; rintro e w1 ⟨rfl, hw⟩; rw [hw]; clear hw))
  all_goals go_ret
  all_goals exact ⟨by rw [HE.out]; rfl, by repeat (first | exact Below.refl _ _ | refine Below.alloc ?_ (by simp; omega) _ | refine Below.alloc ?_ (by simp) _)⟩
set_option maxRecDepth 100000 in
set_option maxHeartbeats 4000000 in
theorem ritem_no1 (x : Itm) (w : World) (k0 : nameB x.name = true) (k1 : inB x.epoch 1 1099511627776 = false) : Calls Tryd.prog 17 #[itv x] w fun r w' => r = .returned (.bool (itemB x)) ∧ Below w.heap.size w w' := by
  have HE : Hid (itemB x = false) := by show _ = _; simp [itemB, chanB, k1]
  go_enter Tryd.func17, Tryd.ntmps17
  go_wp2_with (first
    | (go_at_call 19; refine (rname_any _ _).mono ?_; rintro e w1 ⟨rfl, hw⟩; rw [hw]; clear hw; try simp only [k0])
    | (go_at_call 31; refine (rnode_any _ _).mono ?_; rintro e w1 ⟨rfl, hw⟩; rw [hw]; clear hw)
    | (go_at_call 43; refine (flow_any _ _).mono ?_; rintro e w1 ⟨rfl, hw⟩; rw [hw]; clear hw)
    | (go_at_call 44; refine (rext_any ⟨_, _, _, _⟩ _).mono ?_; rintro e w1 ⟨rfl, hw⟩; rw [hw]; clear hw)
    | (go_at_call 32; refine (within_any _ _ _ _).mono ?_; rintro e w1 ⟨rfl, hw⟩; rw [hw]; clear hw))
  all_goals go_ret
  all_goals exact ⟨by rw [HE.out]; rfl, by repeat (first | exact Below.refl _ _ | refine Below.alloc ?_ (by simp; omega) _ | refine Below.alloc ?_ (by simp) _)⟩
set_option maxRecDepth 100000 in
set_option maxHeartbeats 4000000 in
theorem ritem_no2 (x : Itm) (w : World) (k0 : nameB x.name = true) (k1 : inB x.epoch 1 1099511627776 = true) (k2 : nodeB x.maker = false) : Calls Tryd.prog 17 #[itv x] w fun r w' => r = .returned (.bool (itemB x)) ∧ Below w.heap.size w w' := by
  have HE : Hid (itemB x = false) := by show _ = _; simp [itemB, chanB, k2]
  go_enter Tryd.func17, Tryd.ntmps17
  go_wp2_with (first
    | (go_at_call 19; refine (rname_any _ _).mono ?_; rintro e w1 ⟨rfl, hw⟩; rw [hw]; clear hw; try simp only [k0])
    | (go_at_call 31; refine (rnode_any _ _).mono ?_; rintro e w1 ⟨rfl, hw⟩; rw [hw]; clear hw)
    | (go_at_call 43; refine (flow_any _ _).mono ?_; rintro e w1 ⟨rfl, hw⟩; rw [hw]; clear hw)
    | (go_at_call 44; refine (rext_any ⟨_, _, _, _⟩ _).mono ?_; rintro e w1 ⟨rfl, hw⟩; rw [hw]; clear hw)
    | (go_at_call 32; refine (within_any _ _ _ _).mono ?_; rintro e w1 ⟨rfl, hw⟩; rw [hw]; clear hw))
  all_goals go_ret
  all_goals exact ⟨by rw [HE.out]; rfl, by repeat (first | exact Below.refl _ _ | refine Below.alloc ?_ (by simp; omega) _ | refine Below.alloc ?_ (by simp) _)⟩
set_option maxRecDepth 100000 in
set_option maxHeartbeats 4000000 in
theorem ritem_no3 (x : Itm) (w : World) (k0 : nameB x.name = true) (k1 : inB x.epoch 1 1099511627776 = true) (k2 : nodeB x.maker = true) (k3 : x.kind < 1) : Calls Tryd.prog 17 #[itv x] w fun r w' => r = .returned (.bool (itemB x)) ∧ Below w.heap.size w w' := by
  have HE : Hid (itemB x = false) := by show _ = _; simp [itemB, chanB, inB]; omega
  go_enter Tryd.func17, Tryd.ntmps17
  go_wp2_with (first
    | (go_at_call 19; refine (rname_any _ _).mono ?_; rintro e w1 ⟨rfl, hw⟩; rw [hw]; clear hw; try simp only [k0])
    | (go_at_call 31; refine (rnode_any _ _).mono ?_; rintro e w1 ⟨rfl, hw⟩; rw [hw]; clear hw)
    | (go_at_call 43; refine (flow_any _ _).mono ?_; rintro e w1 ⟨rfl, hw⟩; rw [hw]; clear hw)
    | (go_at_call 44; refine (rext_any ⟨_, _, _, _⟩ _).mono ?_; rintro e w1 ⟨rfl, hw⟩; rw [hw]; clear hw)
    | (go_at_call 32; refine (within_any _ _ _ _).mono ?_; rintro e w1 ⟨rfl, hw⟩; rw [hw]; clear hw))
  all_goals go_ret
  all_goals exact ⟨by rw [HE.out]; rfl, by repeat (first | exact Below.refl _ _ | refine Below.alloc ?_ (by simp; omega) _ | refine Below.alloc ?_ (by simp) _)⟩
set_option maxRecDepth 100000 in
set_option maxHeartbeats 4000000 in
theorem ritem_no4 (x : Itm) (w : World) (k0 : nameB x.name = true) (k1 : inB x.epoch 1 1099511627776 = true) (k2 : nodeB x.maker = true) (k3 : 1 ≤ x.kind) (k4 : 4 < x.kind) : Calls Tryd.prog 17 #[itv x] w fun r w' => r = .returned (.bool (itemB x)) ∧ Below w.heap.size w w' := by
  have HE : Hid (itemB x = false) := by show _ = _; simp [itemB, chanB, inB]; omega
  go_enter Tryd.func17, Tryd.ntmps17
  go_wp2_with (first
    | (go_at_call 19; refine (rname_any _ _).mono ?_; rintro e w1 ⟨rfl, hw⟩; rw [hw]; clear hw; try simp only [k0])
    | (go_at_call 31; refine (rnode_any _ _).mono ?_; rintro e w1 ⟨rfl, hw⟩; rw [hw]; clear hw)
    | (go_at_call 43; refine (flow_any _ _).mono ?_; rintro e w1 ⟨rfl, hw⟩; rw [hw]; clear hw)
    | (go_at_call 44; refine (rext_any ⟨_, _, _, _⟩ _).mono ?_; rintro e w1 ⟨rfl, hw⟩; rw [hw]; clear hw)
    | (go_at_call 32; refine (within_any _ _ _ _).mono ?_; rintro e w1 ⟨rfl, hw⟩; rw [hw]; clear hw))
  all_goals go_ret
  all_goals exact ⟨by rw [HE.out]; rfl, by repeat (first | exact Below.refl _ _ | refine Below.alloc ?_ (by simp; omega) _ | refine Below.alloc ?_ (by simp) _)⟩
set_option maxRecDepth 100000 in
set_option maxHeartbeats 4000000 in
theorem ritem_no5 (x : Itm) (w : World) (k0 : nameB x.name = true) (k1 : inB x.epoch 1 1099511627776 = true) (k2 : nodeB x.maker = true) (k3 : 1 ≤ x.kind) (k4 : x.kind ≤ 4) (k5 : inB x.scale 1 1048576 = false) : Calls Tryd.prog 17 #[itv x] w fun r w' => r = .returned (.bool (itemB x)) ∧ Below w.heap.size w w' := by
  have HE : Hid (itemB x = false) := by show _ = _; simp [itemB, chanB, k5]
  go_enter Tryd.func17, Tryd.ntmps17
  go_wp2_with (first
    | (go_at_call 19; refine (rname_any _ _).mono ?_; rintro e w1 ⟨rfl, hw⟩; rw [hw]; clear hw; try simp only [k0])
    | (go_at_call 31; refine (rnode_any _ _).mono ?_; rintro e w1 ⟨rfl, hw⟩; rw [hw]; clear hw)
    | (go_at_call 43; refine (flow_any _ _).mono ?_; rintro e w1 ⟨rfl, hw⟩; rw [hw]; clear hw)
    | (go_at_call 44; refine (rext_any ⟨_, _, _, _⟩ _).mono ?_; rintro e w1 ⟨rfl, hw⟩; rw [hw]; clear hw)
    | (go_at_call 32; refine (within_any _ _ _ _).mono ?_; rintro e w1 ⟨rfl, hw⟩; rw [hw]; clear hw))
  all_goals go_ret
  all_goals exact ⟨by rw [HE.out]; rfl, by repeat (first | exact Below.refl _ _ | refine Below.alloc ?_ (by simp; omega) _ | refine Below.alloc ?_ (by simp) _)⟩
set_option maxRecDepth 100000 in
set_option maxHeartbeats 4000000 in
theorem ritem_no6 (x : Itm) (w : World) (k0 : nameB x.name = true) (k1 : inB x.epoch 1 1099511627776 = true) (k2 : nodeB x.maker = true) (k3 : 1 ≤ x.kind) (k4 : x.kind ≤ 4) (k5 : inB x.scale 1 1048576 = true) (k6 : x.kind = 4) (k7 : (x.scale != 1) = true) : Calls Tryd.prog 17 #[itv x] w fun r w' => r = .returned (.bool (itemB x)) ∧ Below w.heap.size w w' := by
  have HE : Hid (itemB x = false) := by show _ = _; have h := k7; simp at h; simp [itemB, chanB, k6, h]
  clear k3 k4
  go_enter Tryd.func17, Tryd.ntmps17
  go_wp2_with (first
    | (go_at_call 19; refine (rname_any _ _).mono ?_; rintro e w1 ⟨rfl, hw⟩; rw [hw]; clear hw; try simp only [k0])
    | (go_at_call 31; refine (rnode_any _ _).mono ?_; rintro e w1 ⟨rfl, hw⟩; rw [hw]; clear hw)
    | (go_at_call 43; refine (flow_any _ _).mono ?_; rintro e w1 ⟨rfl, hw⟩; rw [hw]; clear hw)
    | (go_at_call 44; refine (rext_any ⟨_, _, _, _⟩ _).mono ?_; rintro e w1 ⟨rfl, hw⟩; rw [hw]; clear hw)
    | (go_at_call 32; refine (within_any _ _ _ _).mono ?_; rintro e w1 ⟨rfl, hw⟩; rw [hw]; clear hw))
  all_goals go_ret
  all_goals exact ⟨by rw [HE.out]; rfl, by repeat (first | exact Below.refl _ _ | refine Below.alloc ?_ (by simp; omega) _ | refine Below.alloc ?_ (by simp) _)⟩

end Go.Proofs.YticmjlnpjopfbaaDoor
