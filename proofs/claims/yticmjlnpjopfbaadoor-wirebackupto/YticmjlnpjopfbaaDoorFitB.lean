/-
  Whether an extreme value, a register, a rest, a record is one.
-/
import Derived.Test.YticmjlnpjopfbaaDoorFitA
namespace Go.Proofs.YticmjlnpjopfbaaDoor
open Go.ChangeShapes Go.WideShapes Go.ChangeAt Go.RowKit
open C (bytesL bytesL_length ret_bool)
set_option linter.unusedVariables false

abbrev exv (e : Ex) : Value := .agg #[.bool e.has, .int .i64 e.value, .int .i64 e.origin, .int .i64 e.age]
abbrev rgv (x : Itm) : Value := .agg #[.int .i64 x.ver, .int .i64 x.writer, .int .i64 x.flow]
abbrev chv (x : Itm) : Value := .agg #[.string x.name, .int .i64 x.epoch, .int .i64 x.maker, .bool x.alive, .int .i64 x.kind, .int .i64 x.scale]
def itc (x : Itm) : List Value := [.string x.name, .int .i64 x.epoch, .int .i64 x.maker, .bool x.alive, .int .i64 x.kind, .int .i64 x.scale, .int .i64 x.ver, .int .i64 x.writer, .int .i64 x.flow, .bool x.hasRest, .int .i64 x.rest,
  .bool x.mn.has, .int .i64 x.mn.value, .int .i64 x.mn.origin, .int .i64 x.mn.age, .bool x.mx.has, .int .i64 x.mx.value, .int .i64 x.mx.origin, .int .i64 x.mx.age]
abbrev itv (x : Itm) : Value := .agg #[.string x.name, .int .i64 x.epoch, .int .i64 x.maker, .bool x.alive, .int .i64 x.kind, .int .i64 x.scale, .int .i64 x.ver, .int .i64 x.writer, .int .i64 x.flow, .bool x.hasRest, .int .i64 x.rest,
  .bool x.mn.has, .int .i64 x.mn.value, .int .i64 x.mn.origin, .int .i64 x.mn.age, .bool x.mx.has, .int .i64 x.mx.value, .int .i64 x.mx.origin, .int .i64 x.mx.age]

set_option maxHeartbeats 2000000 in
theorem extreme_any (e : Ex) (w : World) : Calls Tryd.prog 40 #[exv e] w fun r w' => r = .returned (.bool (exB e)) ∧ w' = w.alloc (.cells #[.bool e.has, .int .i64 e.value, .int .i64 e.origin, .int .i64 e.age] 36) := by
  obtain ⟨h, v, o, a⟩ := e
  go_enter Tryd.func40, Tryd.ntmps40
  go_wp2_with (first
    | (go_at_call 63; refine (inRange_any _ _).mono ?_; rintro e w' ⟨rfl, hw⟩; rw [hw]; clear hw)
    | (go_at_call 27; refine (node_any _ _).mono ?_; rintro e w' ⟨rfl, hw⟩; rw [hw]; clear hw)
    | (go_at_call 52; refine (from_any _ _ _ _).mono ?_; rintro e w' ⟨rfl, hw⟩; rw [hw]; clear hw))
  all_goals go_ret
  all_goals exact ⟨ret_bool (by simp_all [exB, exZB]), by first | rfl | simp_all⟩

set_option maxHeartbeats 2000000 in
theorem rext_any (e : Ex) (w : World) : Calls Tryd.prog 44 #[exv e] w fun r w' => r = .returned (.bool (exB e)) ∧ w' = w.alloc (.cells #[.bool e.has, .int .i64 e.value, .int .i64 e.origin, .int .i64 e.age] 36) := by
  obtain ⟨h, v, o, a⟩ := e
  go_enter Tryd.func44, Tryd.ntmps44
  go_wp2_with (first
    | (go_at_call 43; refine (flow_any _ _).mono ?_; rintro e w' ⟨rfl, hw⟩; rw [hw]; clear hw)
    | (go_at_call 31; refine (rnode_any _ _).mono ?_; rintro e w' ⟨rfl, hw⟩; rw [hw]; clear hw)
    | (go_at_call 32; refine (within_any _ _ _ _).mono ?_; rintro e w' ⟨rfl, hw⟩; rw [hw]; clear hw))
  all_goals go_ret
  all_goals exact ⟨ret_bool (by simp_all [exB, exZB]), by first | rfl | simp_all⟩

set_option maxHeartbeats 2000000 in
theorem register_any (x : Itm) (w : World) : Calls Tryd.prog 41 #[rgv x] w fun r w' => r = .returned (.bool (regB x)) ∧ w' = w.alloc (.cells #[.int .i64 x.ver, .int .i64 x.writer, .int .i64 x.flow] 34) := by
  unfold regB regZB
  go_enter Tryd.func41, Tryd.ntmps41
  go_wp2_with (first
    | (go_at_call 63; refine (inRange_any _ _).mono ?_; rintro e w' ⟨rfl, hw⟩; rw [hw]; clear hw)
    | (go_at_call 27; refine (node_any _ _).mono ?_; rintro e w' ⟨rfl, hw⟩; rw [hw]; clear hw)
    | (go_at_call 52; refine (from_any _ _ _ _).mono ?_; rintro e w' ⟨rfl, hw⟩; rw [hw]; clear hw))
  all_goals go_ret
  all_goals exact ⟨ret_bool (by simp_all), by first | rfl | simp_all⟩

set_option maxHeartbeats 2000000 in
theorem rest_any (x : Itm) (w : World) : Calls Tryd.prog 42 #[itv x] w fun r w' => r = .returned (.bool (flowB x.rest && (x.hasRest || x.rest == 0))) ∧ w' = w.alloc (.cells #[.string x.name, .int .i64 x.epoch, .int .i64 x.maker, .bool x.alive, .int .i64 x.kind, .int .i64 x.scale, .int .i64 x.ver, .int .i64 x.writer, .int .i64 x.flow, .bool x.hasRest, .int .i64 x.rest, .bool x.mn.has, .int .i64 x.mn.value, .int .i64 x.mn.origin, .int .i64 x.mn.age, .bool x.mx.has, .int .i64 x.mx.value, .int .i64 x.mx.origin, .int .i64 x.mx.age] 38) := by
  go_enter Tryd.func42, Tryd.ntmps42
  go_wp2_with (first
    | (go_at_call 63; refine (inRange_any _ _).mono ?_; rintro e w' ⟨rfl, hw⟩; rw [hw]; clear hw))
  all_goals go_ret
  all_goals exact ⟨ret_bool (by simp_all), by first | rfl | simp_all⟩

def scaleB (k s : Int) : Bool := inB s 1 1048576 && (k != 4 || s == 1)
theorem scale_ext (s : Int) : inB s 1 1 = scaleB 4 s := by
  rw [Bool.eq_iff_iff]; simp [scaleB, inB]; omega
set_option maxHeartbeats 4000000 in
theorem record_any (x : Itm) (w : World) : Calls Tryd.prog 39 #[chv x] w fun r w' => r = .returned (.bool (chanB x)) ∧ w' = w.alloc (.cells #[.string x.name, .int .i64 x.epoch, .int .i64 x.maker, .bool x.alive, .int .i64 x.kind, .int .i64 x.scale] 32) := by
  unfold chanB
  by_cases hk : x.kind = 4
  · skip
    go_enter Tryd.func39, Tryd.ntmps39
    go_wp2_with (first
      | (go_at_call 18; refine (name_any _ _).mono ?_; rintro e w' ⟨rfl, hw⟩; rw [hw]; clear hw)
      | (go_at_call 27; refine (node_any _ _).mono ?_; rintro e w' ⟨rfl, hw⟩; rw [hw]; clear hw)
      | (go_at_call 52; refine (from_any _ _ _ _).mono ?_; rintro e w' ⟨rfl, hw⟩; rw [hw]; clear hw))
    all_goals go_ret
    all_goals refine ⟨ret_bool ?_, by first | rfl | simp_all⟩
    all_goals (have := scale_ext x.scale; simp_all [scaleB, inB] <;> omega)
  · have hk' : (x.kind == 4) = false := by simpa using hk
    go_enter Tryd.func39, Tryd.ntmps39
    go_wp2_with (first
      | (go_at_call 18; refine (name_any _ _).mono ?_; rintro e w' ⟨rfl, hw⟩; rw [hw]; clear hw)
      | (go_at_call 27; refine (node_any _ _).mono ?_; rintro e w' ⟨rfl, hw⟩; rw [hw]; clear hw)
      | (go_at_call 52; refine (from_any _ _ _ _).mono ?_; rintro e w' ⟨rfl, hw⟩; rw [hw]; clear hw))
    all_goals go_ret
    all_goals refine ⟨ret_bool ?_, by first | rfl | simp_all⟩
    all_goals (simp_all [inB] <;> omega)

end Go.Proofs.YticmjlnpjopfbaaDoor
