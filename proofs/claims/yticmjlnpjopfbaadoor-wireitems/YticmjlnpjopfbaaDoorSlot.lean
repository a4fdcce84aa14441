/-
  Slots: where a field of a packet lies.
-/
import Derived.Test.YticmjlnpjopfbaaDoorLoad
namespace Go.Proofs.YticmjlnpjopfbaaDoor
open Go.ChangeShapes Go.WideShapes Go.ChangeAt Go.RowKit
set_option linter.unusedVariables false

inductive Sl where
  | small (a : Addr)
  | num (a : Addr)
  | sgn (a : Addr)
  | text (a : Addr)
  | truth (a : Addr)
def Sl.cells : Sl → List Value
  | .small a => [.int .i64 1, .pointer (some a), .pointer none, .pointer none, .pointer none]
  | .num a => [.int .i64 1, .pointer none, .pointer (some a), .pointer none, .pointer none]
  | .sgn a => [.int .i64 2, .pointer none, .pointer (some a), .pointer none, .pointer none]
  | .text a => [.int .i64 3, .pointer none, .pointer none, .pointer (some a), .pointer none]
  | .truth a => [.int .i64 4, .pointer none, .pointer none, .pointer none, .pointer (some a)]
def Sl.v (s : Sl) : Value := .agg s.cells.toArray

theorem small_any (a : Addr) (w : World) : Calls Tryd.prog 72 #[.pointer (some a)] w fun e w' => e = .returned (.agg #[.int .i64 1, .pointer (some a), .pointer none, .pointer none, .pointer none]) ∧ Below w.heap.size w w' := by
  go_enter Tryd.func72, Tryd.ntmps72
  go_wp2
  refine bodyPost_ret (v := .agg #[.int .i64 1, .pointer (some a), .pointer none, .pointer none, .pointer none]) (by simp [results, Tryd.results72, go_sem]) rfl ⟨rfl, ?_⟩
  repeat (first | exact Below.refl _ _ | refine Below.setCell ?_ (by simp) _ | refine Below.alloc ?_ (by simp) _)
theorem number_any (a : Addr) (w : World) : Calls Tryd.prog 73 #[.pointer (some a)] w fun e w' => e = .returned (.agg #[.int .i64 1, .pointer none, .pointer (some a), .pointer none, .pointer none]) ∧ Below w.heap.size w w' := by
  go_enter Tryd.func73, Tryd.ntmps73
  go_wp2
  refine bodyPost_ret (v := .agg #[.int .i64 1, .pointer none, .pointer (some a), .pointer none, .pointer none]) (by simp [results, Tryd.results73, go_sem]) rfl ⟨rfl, ?_⟩
  repeat (first | exact Below.refl _ _ | refine Below.setCell ?_ (by simp) _ | refine Below.alloc ?_ (by simp) _)
theorem text_any (a : Addr) (w : World) : Calls Tryd.prog 74 #[.pointer (some a)] w fun e w' => e = .returned (.agg #[.int .i64 3, .pointer none, .pointer none, .pointer (some a), .pointer none]) ∧ Below w.heap.size w w' := by
  go_enter Tryd.func74, Tryd.ntmps74
  go_wp2
  refine bodyPost_ret (v := .agg #[.int .i64 3, .pointer none, .pointer none, .pointer (some a), .pointer none]) (by simp [results, Tryd.results74, go_sem]) rfl ⟨rfl, ?_⟩
  repeat (first | exact Below.refl _ _ | refine Below.setCell ?_ (by simp) _ | refine Below.alloc ?_ (by simp) _)
theorem truth_any (a : Addr) (w : World) : Calls Tryd.prog 75 #[.pointer (some a)] w fun e w' => e = .returned (.agg #[.int .i64 4, .pointer none, .pointer none, .pointer none, .pointer (some a)]) ∧ Below w.heap.size w w' := by
  go_enter Tryd.func75, Tryd.ntmps75
  go_wp2
  refine bodyPost_ret (v := .agg #[.int .i64 4, .pointer none, .pointer none, .pointer none, .pointer (some a)]) (by simp [results, Tryd.results75, go_sem]) rfl ⟨rfl, ?_⟩
  repeat (first | exact Below.refl _ _ | refine Below.setCell ?_ (by simp) _ | refine Below.alloc ?_ (by simp) _)
theorem signed_any (a : Addr) (w : World) : Calls Tryd.prog 76 #[.pointer (some a)] w fun e w' => e = .returned (.agg #[.int .i64 2, .pointer none, .pointer (some a), .pointer none, .pointer none]) ∧ Below w.heap.size w w' := by
  go_enter Tryd.func76, Tryd.ntmps76
  go_wp2
  refine bodyPost_ret (v := .agg #[.int .i64 2, .pointer none, .pointer (some a), .pointer none, .pointer none]) (by simp [results, Tryd.results76, go_sem]) rfl ⟨rfl, ?_⟩
  repeat (first | exact Below.refl _ _ | refine Below.setCell ?_ (by simp) _ | refine Below.alloc ?_ (by simp) _)

end Go.Proofs.YticmjlnpjopfbaaDoor
