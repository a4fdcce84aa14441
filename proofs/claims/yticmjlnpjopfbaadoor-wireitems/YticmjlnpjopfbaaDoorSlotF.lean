/-
  What lies where a slot says (slot.field).
-/
import Derived.Test.YticmjlnpjopfbaaDoorSlot
namespace Go.Proofs.YticmjlnpjopfbaaDoor
open Go.ChangeShapes Go.WideShapes Go.ChangeAt Go.RowKit
set_option linter.unusedVariables false
set_option linter.unusedSimpArgs false

set_option maxRecDepth 100000 in
set_option maxHeartbeats 2000000 in
theorem field_small (b o : Nat) (x : Int) (w : World) (hb : b < w.heap.size) (h : w.cell? ⟨b, o, none⟩ = some (.int .i64 x)) : Calls Tryd.prog 34 #[.agg #[.int .i64 1, .pointer (some ⟨b, o, none⟩), .pointer none, .pointer none, .pointer none]] w fun e w' => e = .returned (C.fv 1 x ⟨#[]⟩ false) ∧ Below w.heap.size w w' := by
  have hC : ∀ o1 o2 o3 : Obj, (((w.alloc o1).alloc o2).alloc o3).cell? ⟨b, o, none⟩ = some (.int .i64 x) := fun o1 o2 o3 =>
    ((((((Below.refl _ _).alloc (Nat.le_refl _) o1).alloc (by simp) o2).alloc (by simp; omega) o3 : Below w.heap.size w _).cell (p := ⟨b, o, none⟩) hb)).trans h
  clear h
  go_enter Tryd.func34, Tryd.ntmps34
  go_wp2
  refine bodyPost_ret (v := C.fv 1 x ⟨#[]⟩ false) (by simp [results, Tryd.results34, go_sem]) rfl ⟨rfl, ?_⟩
  repeat (first | exact Below.refl _ _ | refine Below.setCell ?_ (by simp <;> omega) _ | refine Below.alloc ?_ (by simp <;> omega) _)
set_option maxRecDepth 100000 in
set_option maxHeartbeats 2000000 in
theorem field_num (b o : Nat) (x : Int) (w : World) (hb : b < w.heap.size) (h : w.cell? ⟨b, o, none⟩ = some (.int .i64 x)) : Calls Tryd.prog 34 #[.agg #[.int .i64 1, .pointer none, .pointer (some ⟨b, o, none⟩), .pointer none, .pointer none]] w fun e w' => e = .returned (C.fv 1 x ⟨#[]⟩ false) ∧ Below w.heap.size w w' := by
  have hC : ∀ o1 o2 o3 : Obj, (((w.alloc o1).alloc o2).alloc o3).cell? ⟨b, o, none⟩ = some (.int .i64 x) := fun o1 o2 o3 =>
    ((((((Below.refl _ _).alloc (Nat.le_refl _) o1).alloc (by simp) o2).alloc (by simp; omega) o3 : Below w.heap.size w _).cell (p := ⟨b, o, none⟩) hb)).trans h
  clear h
  go_enter Tryd.func34, Tryd.ntmps34
  go_wp2
  refine bodyPost_ret (v := C.fv 1 x ⟨#[]⟩ false) (by simp [results, Tryd.results34, go_sem]) rfl ⟨rfl, ?_⟩
  repeat (first | exact Below.refl _ _ | refine Below.setCell ?_ (by simp <;> omega) _ | refine Below.alloc ?_ (by simp <;> omega) _)
set_option maxRecDepth 100000 in
set_option maxHeartbeats 2000000 in
theorem field_sgn (b o : Nat) (x : Int) (w : World) (hb : b < w.heap.size) (h : w.cell? ⟨b, o, none⟩ = some (.int .i64 x)) : Calls Tryd.prog 34 #[.agg #[.int .i64 2, .pointer none, .pointer (some ⟨b, o, none⟩), .pointer none, .pointer none]] w fun e w' => e = .returned (C.fv 2 x ⟨#[]⟩ false) ∧ Below w.heap.size w w' := by
  have hC : ∀ o1 o2 o3 : Obj, (((w.alloc o1).alloc o2).alloc o3).cell? ⟨b, o, none⟩ = some (.int .i64 x) := fun o1 o2 o3 =>
    ((((((Below.refl _ _).alloc (Nat.le_refl _) o1).alloc (by simp) o2).alloc (by simp; omega) o3 : Below w.heap.size w _).cell (p := ⟨b, o, none⟩) hb)).trans h
  clear h
  go_enter Tryd.func34, Tryd.ntmps34
  go_wp2
  refine bodyPost_ret (v := C.fv 2 x ⟨#[]⟩ false) (by simp [results, Tryd.results34, go_sem]) rfl ⟨rfl, ?_⟩
  repeat (first | exact Below.refl _ _ | refine Below.setCell ?_ (by simp <;> omega) _ | refine Below.alloc ?_ (by simp <;> omega) _)
set_option maxRecDepth 100000 in
set_option maxHeartbeats 2000000 in
theorem field_text (b o : Nat) (x : ByteArray) (w : World) (hb : b < w.heap.size) (h : w.cell? ⟨b, o, none⟩ = some (.string x)) : Calls Tryd.prog 34 #[.agg #[.int .i64 3, .pointer none, .pointer none, .pointer (some ⟨b, o, none⟩), .pointer none]] w fun e w' => e = .returned (C.fv 3 0 x false) ∧ Below w.heap.size w w' := by
  have hC : ∀ o1 o2 o3 : Obj, (((w.alloc o1).alloc o2).alloc o3).cell? ⟨b, o, none⟩ = some (.string x) := fun o1 o2 o3 =>
    ((((((Below.refl _ _).alloc (Nat.le_refl _) o1).alloc (by simp) o2).alloc (by simp; omega) o3 : Below w.heap.size w _).cell (p := ⟨b, o, none⟩) hb)).trans h
  clear h
  go_enter Tryd.func34, Tryd.ntmps34
  go_wp2
  refine bodyPost_ret (v := C.fv 3 0 x false) (by simp [results, Tryd.results34, go_sem]) rfl ⟨rfl, ?_⟩
  repeat (first | exact Below.refl _ _ | refine Below.setCell ?_ (by simp <;> omega) _ | refine Below.alloc ?_ (by simp <;> omega) _)
set_option maxRecDepth 100000 in
set_option maxHeartbeats 2000000 in
theorem field_truth (b o : Nat) (x : Bool) (w : World) (hb : b < w.heap.size) (h : w.cell? ⟨b, o, none⟩ = some (.bool x)) : Calls Tryd.prog 34 #[.agg #[.int .i64 4, .pointer none, .pointer none, .pointer none, .pointer (some ⟨b, o, none⟩)]] w fun e w' => e = .returned (C.fv 4 0 ⟨#[]⟩ x) ∧ Below w.heap.size w w' := by
  have hC : ∀ o1 o2 o3 : Obj, (((w.alloc o1).alloc o2).alloc o3).cell? ⟨b, o, none⟩ = some (.bool x) := fun o1 o2 o3 =>
    ((((((Below.refl _ _).alloc (Nat.le_refl _) o1).alloc (by simp) o2).alloc (by simp; omega) o3 : Below w.heap.size w _).cell (p := ⟨b, o, none⟩) hb)).trans h
  clear h
  go_enter Tryd.func34, Tryd.ntmps34
  go_wp2
  refine bodyPost_ret (v := C.fv 4 0 ⟨#[]⟩ x) (by simp [results, Tryd.results34, go_sem]) rfl ⟨rfl, ?_⟩
  repeat (first | exact Below.refl _ _ | refine Below.setCell ?_ (by simp <;> omega) _ | refine Below.alloc ?_ (by simp <;> omega) _)

end Go.Proofs.YticmjlnpjopfbaaDoor
