/-
  Whether an item is one, by package wire and by the document.
-/
import Derived.Test.YticmjlnpjopfbabDoorLoad
namespace Go.Proofs.YticmjlnpjopfbabDoor
open Go.ChangeShapes Go.WideShapes Go.ChangeAt Go.RowKit
open C (bytesL bytesL_length ret_bool)
set_option linter.unusedVariables false
set_option linter.unusedSimpArgs false
attribute [local go_sem] eql38 neq38

set_option maxRecDepth 100000 in
set_option maxHeartbeats 4000000 in
theorem item_flow0 (nm : ByteArray) (ep mk kd sc vr wr fl rs : Int) (hr : Bool) (v1 : Int) (o1 : Int) (a1 : Int) (h2 : Bool) (v2 : Int) (o2 : Int) (a2 : Int) (w : World) (hc : chanB ⟨nm, ep, mk, true, kd, sc, vr, wr, fl, hr, rs, ⟨true, v1, o1, a1⟩, ⟨h2, v2, o2, a2⟩⟩ = true) (hk : (kd == 4) = false) : Calls Tryd.prog 42 #[itv ⟨nm, ep, mk, true, kd, sc, vr, wr, fl, hr, rs, ⟨true, v1, o1, a1⟩, ⟨h2, v2, o2, a2⟩⟩] w fun r w' => r = .returned (.bool false) ∧ Below w.heap.size w w' := by
  go_enter Tryd.func42, Tryd.ntmps42
  go_wp2_with (first
    | (go_at_call 57; refine (record_any ⟨nm, ep, mk, true, kd, sc, vr, wr, fl, hr, rs, ⟨true, v1, o1, a1⟩, ⟨h2, v2, o2, a2⟩⟩ _).mono ?_; rintro e w1 ⟨rfl, hw1⟩; rw [hw1, hc]; clear hw1)
    | ((with_reducible show wpList _ _ _ (Oper.mk _ (Op.load 38 _) _ _ _ _ :: _) _ _); refine wpList_load38 _ rfl ?_ w.heap.size 0 ⟨nm, ep, mk, true, kd, sc, vr, wr, fl, hr, rs, ⟨true, v1, o1, a1⟩, ⟨h2, v2, o2, a2⟩⟩ ?_ ?_ ?_; rfl; rfl; (first | with_reducible exact itAt_new _ ⟨nm, ep, mk, true, kd, sc, vr, wr, fl, hr, rs, ⟨true, v1, o1, a1⟩, ⟨h2, v2, o2, a2⟩⟩ | with_reducible exact (itAt_new _ ⟨nm, ep, mk, true, kd, sc, vr, wr, fl, hr, rs, ⟨true, v1, o1, a1⟩, ⟨h2, v2, o2, a2⟩⟩).alloc _ | with_reducible exact ((itAt_new _ ⟨nm, ep, mk, true, kd, sc, vr, wr, fl, hr, rs, ⟨true, v1, o1, a1⟩, ⟨h2, v2, o2, a2⟩⟩).alloc _).alloc _ | with_reducible exact (((itAt_new _ ⟨nm, ep, mk, true, kd, sc, vr, wr, fl, hr, rs, ⟨true, v1, o1, a1⟩, ⟨h2, v2, o2, a2⟩⟩).alloc _).alloc _).alloc _)))
  all_goals go_ret
  all_goals exact ⟨rfl, by repeat (first | exact Below.refl _ _ | refine Below.alloc ?_ (by simp; omega) _ | refine Below.alloc ?_ (by simp) _)⟩
set_option maxRecDepth 100000 in
set_option maxHeartbeats 4000000 in
theorem item_flow1 (nm : ByteArray) (ep mk kd sc vr wr fl rs : Int) (hr : Bool) (v1 : Int) (o1 : Int) (a1 : Int) (h2 : Bool) (v2 : Int) (o2 : Int) (a2 : Int) (w : World) (hc : chanB ⟨nm, ep, mk, true, kd, sc, vr, wr, fl, hr, rs, ⟨false, v1, o1, a1⟩, ⟨h2, v2, o2, a2⟩⟩ = true) (hk : (kd == 4) = false) (hn : (v1 == 0) = false) : Calls Tryd.prog 42 #[itv ⟨nm, ep, mk, true, kd, sc, vr, wr, fl, hr, rs, ⟨false, v1, o1, a1⟩, ⟨h2, v2, o2, a2⟩⟩] w fun r w' => r = .returned (.bool false) ∧ Below w.heap.size w w' := by
  go_enter Tryd.func42, Tryd.ntmps42
  go_wp2_with (first
    | (go_at_call 57; refine (record_any ⟨nm, ep, mk, true, kd, sc, vr, wr, fl, hr, rs, ⟨false, v1, o1, a1⟩, ⟨h2, v2, o2, a2⟩⟩ _).mono ?_; rintro e w1 ⟨rfl, hw1⟩; rw [hw1, hc]; clear hw1)
    | ((with_reducible show wpList _ _ _ (Oper.mk _ (Op.load 38 _) _ _ _ _ :: _) _ _); refine wpList_load38 _ rfl ?_ w.heap.size 0 ⟨nm, ep, mk, true, kd, sc, vr, wr, fl, hr, rs, ⟨false, v1, o1, a1⟩, ⟨h2, v2, o2, a2⟩⟩ ?_ ?_ ?_; rfl; rfl; (first | with_reducible exact itAt_new _ ⟨nm, ep, mk, true, kd, sc, vr, wr, fl, hr, rs, ⟨false, v1, o1, a1⟩, ⟨h2, v2, o2, a2⟩⟩ | with_reducible exact (itAt_new _ ⟨nm, ep, mk, true, kd, sc, vr, wr, fl, hr, rs, ⟨false, v1, o1, a1⟩, ⟨h2, v2, o2, a2⟩⟩).alloc _ | with_reducible exact ((itAt_new _ ⟨nm, ep, mk, true, kd, sc, vr, wr, fl, hr, rs, ⟨false, v1, o1, a1⟩, ⟨h2, v2, o2, a2⟩⟩).alloc _).alloc _ | with_reducible exact (((itAt_new _ ⟨nm, ep, mk, true, kd, sc, vr, wr, fl, hr, rs, ⟨false, v1, o1, a1⟩, ⟨h2, v2, o2, a2⟩⟩).alloc _).alloc _).alloc _)))
  all_goals go_ret
  all_goals exact ⟨rfl, by repeat (first | exact Below.refl _ _ | refine Below.alloc ?_ (by simp; omega) _ | refine Below.alloc ?_ (by simp) _)⟩
set_option maxRecDepth 100000 in
set_option maxHeartbeats 4000000 in
theorem item_flow2 (nm : ByteArray) (ep mk kd sc vr wr fl rs : Int) (hr : Bool) (o1 : Int) (a1 : Int) (h2 : Bool) (v2 : Int) (o2 : Int) (a2 : Int) (w : World) (hc : chanB ⟨nm, ep, mk, true, kd, sc, vr, wr, fl, hr, rs, ⟨false, 0, o1, a1⟩, ⟨h2, v2, o2, a2⟩⟩ = true) (hk : (kd == 4) = false) (hn : (o1 == 0) = false) : Calls Tryd.prog 42 #[itv ⟨nm, ep, mk, true, kd, sc, vr, wr, fl, hr, rs, ⟨false, 0, o1, a1⟩, ⟨h2, v2, o2, a2⟩⟩] w fun r w' => r = .returned (.bool false) ∧ Below w.heap.size w w' := by
  go_enter Tryd.func42, Tryd.ntmps42
  go_wp2_with (first
    | (go_at_call 57; refine (record_any ⟨nm, ep, mk, true, kd, sc, vr, wr, fl, hr, rs, ⟨false, 0, o1, a1⟩, ⟨h2, v2, o2, a2⟩⟩ _).mono ?_; rintro e w1 ⟨rfl, hw1⟩; rw [hw1, hc]; clear hw1)
    | ((with_reducible show wpList _ _ _ (Oper.mk _ (Op.load 38 _) _ _ _ _ :: _) _ _); refine wpList_load38 _ rfl ?_ w.heap.size 0 ⟨nm, ep, mk, true, kd, sc, vr, wr, fl, hr, rs, ⟨false, 0, o1, a1⟩, ⟨h2, v2, o2, a2⟩⟩ ?_ ?_ ?_; rfl; rfl; (first | with_reducible exact itAt_new _ ⟨nm, ep, mk, true, kd, sc, vr, wr, fl, hr, rs, ⟨false, 0, o1, a1⟩, ⟨h2, v2, o2, a2⟩⟩ | with_reducible exact (itAt_new _ ⟨nm, ep, mk, true, kd, sc, vr, wr, fl, hr, rs, ⟨false, 0, o1, a1⟩, ⟨h2, v2, o2, a2⟩⟩).alloc _ | with_reducible exact ((itAt_new _ ⟨nm, ep, mk, true, kd, sc, vr, wr, fl, hr, rs, ⟨false, 0, o1, a1⟩, ⟨h2, v2, o2, a2⟩⟩).alloc _).alloc _ | with_reducible exact (((itAt_new _ ⟨nm, ep, mk, true, kd, sc, vr, wr, fl, hr, rs, ⟨false, 0, o1, a1⟩, ⟨h2, v2, o2, a2⟩⟩).alloc _).alloc _).alloc _)))
  all_goals go_ret
  all_goals exact ⟨rfl, by repeat (first | exact Below.refl _ _ | refine Below.alloc ?_ (by simp; omega) _ | refine Below.alloc ?_ (by simp) _)⟩
set_option maxRecDepth 100000 in
set_option maxHeartbeats 4000000 in
theorem item_flow3 (nm : ByteArray) (ep mk kd sc vr wr fl rs : Int) (hr : Bool) (a1 : Int) (h2 : Bool) (v2 : Int) (o2 : Int) (a2 : Int) (w : World) (hc : chanB ⟨nm, ep, mk, true, kd, sc, vr, wr, fl, hr, rs, ⟨false, 0, 0, a1⟩, ⟨h2, v2, o2, a2⟩⟩ = true) (hk : (kd == 4) = false) (hn : (a1 == 0) = false) : Calls Tryd.prog 42 #[itv ⟨nm, ep, mk, true, kd, sc, vr, wr, fl, hr, rs, ⟨false, 0, 0, a1⟩, ⟨h2, v2, o2, a2⟩⟩] w fun r w' => r = .returned (.bool false) ∧ Below w.heap.size w w' := by
  go_enter Tryd.func42, Tryd.ntmps42
  go_wp2_with (first
    | (go_at_call 57; refine (record_any ⟨nm, ep, mk, true, kd, sc, vr, wr, fl, hr, rs, ⟨false, 0, 0, a1⟩, ⟨h2, v2, o2, a2⟩⟩ _).mono ?_; rintro e w1 ⟨rfl, hw1⟩; rw [hw1, hc]; clear hw1)
    | ((with_reducible show wpList _ _ _ (Oper.mk _ (Op.load 38 _) _ _ _ _ :: _) _ _); refine wpList_load38 _ rfl ?_ w.heap.size 0 ⟨nm, ep, mk, true, kd, sc, vr, wr, fl, hr, rs, ⟨false, 0, 0, a1⟩, ⟨h2, v2, o2, a2⟩⟩ ?_ ?_ ?_; rfl; rfl; (first | with_reducible exact itAt_new _ ⟨nm, ep, mk, true, kd, sc, vr, wr, fl, hr, rs, ⟨false, 0, 0, a1⟩, ⟨h2, v2, o2, a2⟩⟩ | with_reducible exact (itAt_new _ ⟨nm, ep, mk, true, kd, sc, vr, wr, fl, hr, rs, ⟨false, 0, 0, a1⟩, ⟨h2, v2, o2, a2⟩⟩).alloc _ | with_reducible exact ((itAt_new _ ⟨nm, ep, mk, true, kd, sc, vr, wr, fl, hr, rs, ⟨false, 0, 0, a1⟩, ⟨h2, v2, o2, a2⟩⟩).alloc _).alloc _ | with_reducible exact (((itAt_new _ ⟨nm, ep, mk, true, kd, sc, vr, wr, fl, hr, rs, ⟨false, 0, 0, a1⟩, ⟨h2, v2, o2, a2⟩⟩).alloc _).alloc _).alloc _)))
  all_goals go_ret
  all_goals exact ⟨rfl, by repeat (first | exact Below.refl _ _ | refine Below.alloc ?_ (by simp; omega) _ | refine Below.alloc ?_ (by simp) _)⟩
set_option maxRecDepth 100000 in
set_option maxHeartbeats 4000000 in
theorem item_flow4 (nm : ByteArray) (ep mk kd sc vr wr fl rs : Int) (hr : Bool) (v2 : Int) (o2 : Int) (a2 : Int) (w : World) (hc : chanB ⟨nm, ep, mk, true, kd, sc, vr, wr, fl, hr, rs, ⟨false, 0, 0, 0⟩, ⟨true, v2, o2, a2⟩⟩ = true) (hk : (kd == 4) = false) : Calls Tryd.prog 42 #[itv ⟨nm, ep, mk, true, kd, sc, vr, wr, fl, hr, rs, ⟨false, 0, 0, 0⟩, ⟨true, v2, o2, a2⟩⟩] w fun r w' => r = .returned (.bool false) ∧ Below w.heap.size w w' := by
  go_enter Tryd.func42, Tryd.ntmps42
  go_wp2_with (first
    | (go_at_call 57; refine (record_any ⟨nm, ep, mk, true, kd, sc, vr, wr, fl, hr, rs, ⟨false, 0, 0, 0⟩, ⟨true, v2, o2, a2⟩⟩ _).mono ?_; rintro e w1 ⟨rfl, hw1⟩; rw [hw1, hc]; clear hw1)
    | ((with_reducible show wpList _ _ _ (Oper.mk _ (Op.load 38 _) _ _ _ _ :: _) _ _); refine wpList_load38 _ rfl ?_ w.heap.size 0 ⟨nm, ep, mk, true, kd, sc, vr, wr, fl, hr, rs, ⟨false, 0, 0, 0⟩, ⟨true, v2, o2, a2⟩⟩ ?_ ?_ ?_; rfl; rfl; (first | with_reducible exact itAt_new _ ⟨nm, ep, mk, true, kd, sc, vr, wr, fl, hr, rs, ⟨false, 0, 0, 0⟩, ⟨true, v2, o2, a2⟩⟩ | with_reducible exact (itAt_new _ ⟨nm, ep, mk, true, kd, sc, vr, wr, fl, hr, rs, ⟨false, 0, 0, 0⟩, ⟨true, v2, o2, a2⟩⟩).alloc _ | with_reducible exact ((itAt_new _ ⟨nm, ep, mk, true, kd, sc, vr, wr, fl, hr, rs, ⟨false, 0, 0, 0⟩, ⟨true, v2, o2, a2⟩⟩).alloc _).alloc _ | with_reducible exact (((itAt_new _ ⟨nm, ep, mk, true, kd, sc, vr, wr, fl, hr, rs, ⟨false, 0, 0, 0⟩, ⟨true, v2, o2, a2⟩⟩).alloc _).alloc _).alloc _)))
  all_goals go_ret
  all_goals exact ⟨rfl, by repeat (first | exact Below.refl _ _ | refine Below.alloc ?_ (by simp; omega) _ | refine Below.alloc ?_ (by simp) _)⟩
set_option maxRecDepth 100000 in
set_option maxHeartbeats 4000000 in
theorem item_flow5 (nm : ByteArray) (ep mk kd sc vr wr fl rs : Int) (hr : Bool) (v2 : Int) (o2 : Int) (a2 : Int) (w : World) (hc : chanB ⟨nm, ep, mk, true, kd, sc, vr, wr, fl, hr, rs, ⟨false, 0, 0, 0⟩, ⟨false, v2, o2, a2⟩⟩ = true) (hk : (kd == 4) = false) (hn : (v2 == 0) = false) : Calls Tryd.prog 42 #[itv ⟨nm, ep, mk, true, kd, sc, vr, wr, fl, hr, rs, ⟨false, 0, 0, 0⟩, ⟨false, v2, o2, a2⟩⟩] w fun r w' => r = .returned (.bool false) ∧ Below w.heap.size w w' := by
  go_enter Tryd.func42, Tryd.ntmps42
  go_wp2_with (first
    | (go_at_call 57; refine (record_any ⟨nm, ep, mk, true, kd, sc, vr, wr, fl, hr, rs, ⟨false, 0, 0, 0⟩, ⟨false, v2, o2, a2⟩⟩ _).mono ?_; rintro e w1 ⟨rfl, hw1⟩; rw [hw1, hc]; clear hw1)
    | ((with_reducible show wpList _ _ _ (Oper.mk _ (Op.load 38 _) _ _ _ _ :: _) _ _); refine wpList_load38 _ rfl ?_ w.heap.size 0 ⟨nm, ep, mk, true, kd, sc, vr, wr, fl, hr, rs, ⟨false, 0, 0, 0⟩, ⟨false, v2, o2, a2⟩⟩ ?_ ?_ ?_; rfl; rfl; (first | with_reducible exact itAt_new _ ⟨nm, ep, mk, true, kd, sc, vr, wr, fl, hr, rs, ⟨false, 0, 0, 0⟩, ⟨false, v2, o2, a2⟩⟩ | with_reducible exact (itAt_new _ ⟨nm, ep, mk, true, kd, sc, vr, wr, fl, hr, rs, ⟨false, 0, 0, 0⟩, ⟨false, v2, o2, a2⟩⟩).alloc _ | with_reducible exact ((itAt_new _ ⟨nm, ep, mk, true, kd, sc, vr, wr, fl, hr, rs, ⟨false, 0, 0, 0⟩, ⟨false, v2, o2, a2⟩⟩).alloc _).alloc _ | with_reducible exact (((itAt_new _ ⟨nm, ep, mk, true, kd, sc, vr, wr, fl, hr, rs, ⟨false, 0, 0, 0⟩, ⟨false, v2, o2, a2⟩⟩).alloc _).alloc _).alloc _)))
  all_goals go_ret
  all_goals exact ⟨rfl, by repeat (first | exact Below.refl _ _ | refine Below.alloc ?_ (by simp; omega) _ | refine Below.alloc ?_ (by simp) _)⟩
set_option maxRecDepth 100000 in
set_option maxHeartbeats 4000000 in
theorem item_flow6 (nm : ByteArray) (ep mk kd sc vr wr fl rs : Int) (hr : Bool) (o2 : Int) (a2 : Int) (w : World) (hc : chanB ⟨nm, ep, mk, true, kd, sc, vr, wr, fl, hr, rs, ⟨false, 0, 0, 0⟩, ⟨false, 0, o2, a2⟩⟩ = true) (hk : (kd == 4) = false) (hn : (o2 == 0) = false) : Calls Tryd.prog 42 #[itv ⟨nm, ep, mk, true, kd, sc, vr, wr, fl, hr, rs, ⟨false, 0, 0, 0⟩, ⟨false, 0, o2, a2⟩⟩] w fun r w' => r = .returned (.bool false) ∧ Below w.heap.size w w' := by
  go_enter Tryd.func42, Tryd.ntmps42
  go_wp2_with (first
    | (go_at_call 57; refine (record_any ⟨nm, ep, mk, true, kd, sc, vr, wr, fl, hr, rs, ⟨false, 0, 0, 0⟩, ⟨false, 0, o2, a2⟩⟩ _).mono ?_; rintro e w1 ⟨rfl, hw1⟩; rw [hw1, hc]; clear hw1)
    | ((with_reducible show wpList _ _ _ (Oper.mk _ (Op.load 38 _) _ _ _ _ :: _) _ _); refine wpList_load38 _ rfl ?_ w.heap.size 0 ⟨nm, ep, mk, true, kd, sc, vr, wr, fl, hr, rs, ⟨false, 0, 0, 0⟩, ⟨false, 0, o2, a2⟩⟩ ?_ ?_ ?_; rfl; rfl; (first | with_reducible exact itAt_new _ ⟨nm, ep, mk, true, kd, sc, vr, wr, fl, hr, rs, ⟨false, 0, 0, 0⟩, ⟨false, 0, o2, a2⟩⟩ | with_reducible exact (itAt_new _ ⟨nm, ep, mk, true, kd, sc, vr, wr, fl, hr, rs, ⟨false, 0, 0, 0⟩, ⟨false, 0, o2, a2⟩⟩).alloc _ | with_reducible exact ((itAt_new _ ⟨nm, ep, mk, true, kd, sc, vr, wr, fl, hr, rs, ⟨false, 0, 0, 0⟩, ⟨false, 0, o2, a2⟩⟩).alloc _).alloc _ | with_reducible exact (((itAt_new _ ⟨nm, ep, mk, true, kd, sc, vr, wr, fl, hr, rs, ⟨false, 0, 0, 0⟩, ⟨false, 0, o2, a2⟩⟩).alloc _).alloc _).alloc _)))
  all_goals go_ret
  all_goals exact ⟨rfl, by repeat (first | exact Below.refl _ _ | refine Below.alloc ?_ (by simp; omega) _ | refine Below.alloc ?_ (by simp) _)⟩
set_option maxRecDepth 100000 in
set_option maxHeartbeats 4000000 in
theorem item_flow7 (nm : ByteArray) (ep mk kd sc vr wr fl rs : Int) (hr : Bool) (a2 : Int) (w : World) (hc : chanB ⟨nm, ep, mk, true, kd, sc, vr, wr, fl, hr, rs, ⟨false, 0, 0, 0⟩, ⟨false, 0, 0, a2⟩⟩ = true) (hk : (kd == 4) = false) (hn : (a2 == 0) = false) : Calls Tryd.prog 42 #[itv ⟨nm, ep, mk, true, kd, sc, vr, wr, fl, hr, rs, ⟨false, 0, 0, 0⟩, ⟨false, 0, 0, a2⟩⟩] w fun r w' => r = .returned (.bool false) ∧ Below w.heap.size w w' := by
  go_enter Tryd.func42, Tryd.ntmps42
  go_wp2_with (first
    | (go_at_call 57; refine (record_any ⟨nm, ep, mk, true, kd, sc, vr, wr, fl, hr, rs, ⟨false, 0, 0, 0⟩, ⟨false, 0, 0, a2⟩⟩ _).mono ?_; rintro e w1 ⟨rfl, hw1⟩; rw [hw1, hc]; clear hw1)
    | ((with_reducible show wpList _ _ _ (Oper.mk _ (Op.load 38 _) _ _ _ _ :: _) _ _); refine wpList_load38 _ rfl ?_ w.heap.size 0 ⟨nm, ep, mk, true, kd, sc, vr, wr, fl, hr, rs, ⟨false, 0, 0, 0⟩, ⟨false, 0, 0, a2⟩⟩ ?_ ?_ ?_; rfl; rfl; (first | with_reducible exact itAt_new _ ⟨nm, ep, mk, true, kd, sc, vr, wr, fl, hr, rs, ⟨false, 0, 0, 0⟩, ⟨false, 0, 0, a2⟩⟩ | with_reducible exact (itAt_new _ ⟨nm, ep, mk, true, kd, sc, vr, wr, fl, hr, rs, ⟨false, 0, 0, 0⟩, ⟨false, 0, 0, a2⟩⟩).alloc _ | with_reducible exact ((itAt_new _ ⟨nm, ep, mk, true, kd, sc, vr, wr, fl, hr, rs, ⟨false, 0, 0, 0⟩, ⟨false, 0, 0, a2⟩⟩).alloc _).alloc _ | with_reducible exact (((itAt_new _ ⟨nm, ep, mk, true, kd, sc, vr, wr, fl, hr, rs, ⟨false, 0, 0, 0⟩, ⟨false, 0, 0, a2⟩⟩).alloc _).alloc _).alloc _)))
  all_goals go_ret
  all_goals exact ⟨rfl, by repeat (first | exact Below.refl _ _ | refine Below.alloc ?_ (by simp; omega) _ | refine Below.alloc ?_ (by simp) _)⟩
set_option maxRecDepth 100000 in
set_option maxHeartbeats 4000000 in
theorem item_flown (nm : ByteArray) (ep mk kd sc vr wr fl rs : Int) (hr : Bool) (w : World) (hc : chanB ⟨nm, ep, mk, true, kd, sc, vr, wr, fl, hr, rs, ⟨false, 0, 0, 0⟩, ⟨false, 0, 0, 0⟩⟩ = true) (hk : (kd == 4) = false) (hg : regB ⟨nm, ep, mk, true, kd, sc, vr, wr, fl, hr, rs, ⟨false, 0, 0, 0⟩, ⟨false, 0, 0, 0⟩⟩ = false) : Calls Tryd.prog 42 #[itv ⟨nm, ep, mk, true, kd, sc, vr, wr, fl, hr, rs, ⟨false, 0, 0, 0⟩, ⟨false, 0, 0, 0⟩⟩] w fun r w' => r = .returned (.bool false) ∧ Below w.heap.size w w' := by
  go_enter Tryd.func42, Tryd.ntmps42
  go_wp2_with (first
    | (go_at_call 57; refine (record_any ⟨nm, ep, mk, true, kd, sc, vr, wr, fl, hr, rs, ⟨false, 0, 0, 0⟩, ⟨false, 0, 0, 0⟩⟩ _).mono ?_; rintro e w1 ⟨rfl, hw1⟩; rw [hw1, hc]; clear hw1)
    | (go_at_call 59; refine (register_any ⟨nm, ep, mk, true, kd, sc, vr, wr, fl, hr, rs, ⟨false, 0, 0, 0⟩, ⟨false, 0, 0, 0⟩⟩ _).mono ?_; rintro e w1 ⟨rfl, hw1⟩; rw [hw1, hg]; clear hw1)
    | ((with_reducible show wpList _ _ _ (Oper.mk _ (Op.load 38 _) _ _ _ _ :: _) _ _); refine wpList_load38 _ rfl ?_ w.heap.size 0 ⟨nm, ep, mk, true, kd, sc, vr, wr, fl, hr, rs, ⟨false, 0, 0, 0⟩, ⟨false, 0, 0, 0⟩⟩ ?_ ?_ ?_; rfl; rfl; (first | with_reducible exact itAt_new _ ⟨nm, ep, mk, true, kd, sc, vr, wr, fl, hr, rs, ⟨false, 0, 0, 0⟩, ⟨false, 0, 0, 0⟩⟩ | with_reducible exact (itAt_new _ ⟨nm, ep, mk, true, kd, sc, vr, wr, fl, hr, rs, ⟨false, 0, 0, 0⟩, ⟨false, 0, 0, 0⟩⟩).alloc _ | with_reducible exact ((itAt_new _ ⟨nm, ep, mk, true, kd, sc, vr, wr, fl, hr, rs, ⟨false, 0, 0, 0⟩, ⟨false, 0, 0, 0⟩⟩).alloc _).alloc _ | with_reducible exact (((itAt_new _ ⟨nm, ep, mk, true, kd, sc, vr, wr, fl, hr, rs, ⟨false, 0, 0, 0⟩, ⟨false, 0, 0, 0⟩⟩).alloc _).alloc _).alloc _)))
  all_goals go_ret
  all_goals exact ⟨rfl, by repeat (first | exact Below.refl _ _ | refine Below.alloc ?_ (by simp; omega) _ | refine Below.alloc ?_ (by simp) _)⟩
set_option maxRecDepth 100000 in
set_option maxHeartbeats 4000000 in
theorem item_flowy (nm : ByteArray) (ep mk kd sc vr wr fl rs : Int) (hr : Bool) (w : World) (hc : chanB ⟨nm, ep, mk, true, kd, sc, vr, wr, fl, hr, rs, ⟨false, 0, 0, 0⟩, ⟨false, 0, 0, 0⟩⟩ = true) (hk : (kd == 4) = false) (hg : regB ⟨nm, ep, mk, true, kd, sc, vr, wr, fl, hr, rs, ⟨false, 0, 0, 0⟩, ⟨false, 0, 0, 0⟩⟩ = true) : Calls Tryd.prog 42 #[itv ⟨nm, ep, mk, true, kd, sc, vr, wr, fl, hr, rs, ⟨false, 0, 0, 0⟩, ⟨false, 0, 0, 0⟩⟩] w fun r w' => r = .returned (.bool (flowB rs && (hr || rs == 0))) ∧ Below w.heap.size w w' := by
  go_enter Tryd.func42, Tryd.ntmps42
  go_wp2_with (first
    | (go_at_call 57; refine (record_any ⟨nm, ep, mk, true, kd, sc, vr, wr, fl, hr, rs, ⟨false, 0, 0, 0⟩, ⟨false, 0, 0, 0⟩⟩ _).mono ?_; rintro e w1 ⟨rfl, hw1⟩; rw [hw1, hc]; clear hw1)
    | (go_at_call 59; refine (register_any ⟨nm, ep, mk, true, kd, sc, vr, wr, fl, hr, rs, ⟨false, 0, 0, 0⟩, ⟨false, 0, 0, 0⟩⟩ _).mono ?_; rintro e w1 ⟨rfl, hw1⟩; rw [hw1, hg]; clear hw1)
    | (go_at_call 60; refine (rest_any ⟨nm, ep, mk, true, kd, sc, vr, wr, fl, hr, rs, ⟨false, 0, 0, 0⟩, ⟨false, 0, 0, 0⟩⟩ _).mono ?_; rintro e w1 ⟨rfl, hw1⟩; rw [hw1]; clear hw1)
    | ((with_reducible show wpList _ _ _ (Oper.mk _ (Op.load 38 _) _ _ _ _ :: _) _ _); refine wpList_load38 _ rfl ?_ w.heap.size 0 ⟨nm, ep, mk, true, kd, sc, vr, wr, fl, hr, rs, ⟨false, 0, 0, 0⟩, ⟨false, 0, 0, 0⟩⟩ ?_ ?_ ?_; rfl; rfl; (first | with_reducible exact itAt_new _ ⟨nm, ep, mk, true, kd, sc, vr, wr, fl, hr, rs, ⟨false, 0, 0, 0⟩, ⟨false, 0, 0, 0⟩⟩ | with_reducible exact (itAt_new _ ⟨nm, ep, mk, true, kd, sc, vr, wr, fl, hr, rs, ⟨false, 0, 0, 0⟩, ⟨false, 0, 0, 0⟩⟩).alloc _ | with_reducible exact ((itAt_new _ ⟨nm, ep, mk, true, kd, sc, vr, wr, fl, hr, rs, ⟨false, 0, 0, 0⟩, ⟨false, 0, 0, 0⟩⟩).alloc _).alloc _ | with_reducible exact (((itAt_new _ ⟨nm, ep, mk, true, kd, sc, vr, wr, fl, hr, rs, ⟨false, 0, 0, 0⟩, ⟨false, 0, 0, 0⟩⟩).alloc _).alloc _).alloc _)))
  all_goals go_ret
  all_goals exact ⟨rfl, by repeat (first | exact Below.refl _ _ | refine Below.alloc ?_ (by simp; omega) _ | refine Below.alloc ?_ (by simp) _)⟩

end Go.Proofs.YticmjlnpjopfbabDoor
