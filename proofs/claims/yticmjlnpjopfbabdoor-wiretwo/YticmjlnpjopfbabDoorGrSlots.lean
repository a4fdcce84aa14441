/-
  Slots as values: where the fields of a packet and of an item lie, one behind the other.
-/
import Derived.Test.YticmjlnpjopfbabDoorLoad
import Derived.Test.YticmjlnpjopfbabDoorSHeld
import Derived.Laws.Tables
import Derived.Test.YticmjlnpjopfbabDoorRowI
namespace Go.Proofs.YticmjlnpjopfbabDoor
open Go.ChangeShapes Go.WideShapes Go.ChangeAt Go.RowKit
set_option linter.unusedVariables false

theorem small_any (a : Addr) (w : World) : Calls Tryd.prog 43 #[.pointer (some a)] w fun e w' => e = .returned (.agg #[.int .i64 1, .pointer (some a), .pointer none, .pointer none, .pointer none]) ∧ Below w.heap.size w w' := by
  go_enter Tryd.func43, Tryd.ntmps43
  go_wp2
  refine bodyPost_ret (v := .agg #[.int .i64 1, .pointer (some a), .pointer none, .pointer none, .pointer none]) (by simp [results, Tryd.results43, go_sem]) rfl ⟨rfl, ?_⟩
  repeat (first | exact Below.refl _ _ | refine Below.setCell ?_ (by simp) _ | refine Below.alloc ?_ (by simp) _)
theorem number_any (a : Addr) (w : World) : Calls Tryd.prog 44 #[.pointer (some a)] w fun e w' => e = .returned (.agg #[.int .i64 1, .pointer none, .pointer (some a), .pointer none, .pointer none]) ∧ Below w.heap.size w w' := by
  go_enter Tryd.func44, Tryd.ntmps44
  go_wp2
  refine bodyPost_ret (v := .agg #[.int .i64 1, .pointer none, .pointer (some a), .pointer none, .pointer none]) (by simp [results, Tryd.results44, go_sem]) rfl ⟨rfl, ?_⟩
  repeat (first | exact Below.refl _ _ | refine Below.setCell ?_ (by simp) _ | refine Below.alloc ?_ (by simp) _)
theorem text_any (a : Addr) (w : World) : Calls Tryd.prog 45 #[.pointer (some a)] w fun e w' => e = .returned (.agg #[.int .i64 3, .pointer none, .pointer none, .pointer (some a), .pointer none]) ∧ Below w.heap.size w w' := by
  go_enter Tryd.func45, Tryd.ntmps45
  go_wp2
  refine bodyPost_ret (v := .agg #[.int .i64 3, .pointer none, .pointer none, .pointer (some a), .pointer none]) (by simp [results, Tryd.results45, go_sem]) rfl ⟨rfl, ?_⟩
  repeat (first | exact Below.refl _ _ | refine Below.setCell ?_ (by simp) _ | refine Below.alloc ?_ (by simp) _)
theorem truth_any (a : Addr) (w : World) : Calls Tryd.prog 46 #[.pointer (some a)] w fun e w' => e = .returned (.agg #[.int .i64 4, .pointer none, .pointer none, .pointer none, .pointer (some a)]) ∧ Below w.heap.size w w' := by
  go_enter Tryd.func46, Tryd.ntmps46
  go_wp2
  refine bodyPost_ret (v := .agg #[.int .i64 4, .pointer none, .pointer none, .pointer none, .pointer (some a)]) (by simp [results, Tryd.results46, go_sem]) rfl ⟨rfl, ?_⟩
  repeat (first | exact Below.refl _ _ | refine Below.setCell ?_ (by simp) _ | refine Below.alloc ?_ (by simp) _)
theorem signed_any (a : Addr) (w : World) : Calls Tryd.prog 47 #[.pointer (some a)] w fun e w' => e = .returned (.agg #[.int .i64 2, .pointer none, .pointer (some a), .pointer none, .pointer none]) ∧ Below w.heap.size w w' := by
  go_enter Tryd.func47, Tryd.ntmps47
  go_wp2
  refine bodyPost_ret (v := .agg #[.int .i64 2, .pointer none, .pointer (some a), .pointer none, .pointer none]) (by simp [results, Tryd.results47, go_sem]) rfl ⟨rfl, ?_⟩
  repeat (first | exact Below.refl _ _ | refine Below.setCell ?_ (by simp) _ | refine Below.alloc ?_ (by simp) _)

end Go.Proofs.YticmjlnpjopfbabDoor

namespace Go.Proofs.YticmjlnpjopfbabDoor
open Go.ChangeShapes Go.WideShapes Go.ChangeAt Go.RowKit
set_option linter.unusedVariables false
set_option linter.unusedSimpArgs false

set_option maxRecDepth 100000 in
set_option maxHeartbeats 2000000 in
theorem field_small (b o : Nat) (x : Int) (w : World) (hb : b < w.heap.size) (h : w.cell? ⟨b, o, none⟩ = some (.int .i64 x)) : Calls Tryd.prog 18 #[.agg #[.int .i64 1, .pointer (some ⟨b, o, none⟩), .pointer none, .pointer none, .pointer none]] w fun e w' => e = .returned (C.fv 1 x ⟨#[]⟩ false) ∧ Below w.heap.size w w' := by
  have hC : ∀ o1 o2 o3 : Obj, (((w.alloc o1).alloc o2).alloc o3).cell? ⟨b, o, none⟩ = some (.int .i64 x) := fun o1 o2 o3 =>
    ((((((Below.refl _ _).alloc (Nat.le_refl _) o1).alloc (by simp) o2).alloc (by simp; omega) o3 : Below w.heap.size w _).cell (p := ⟨b, o, none⟩) hb)).trans h
  clear h
  go_enter Tryd.func18, Tryd.ntmps18
  go_wp2
  refine bodyPost_ret (v := C.fv 1 x ⟨#[]⟩ false) (by simp [results, Tryd.results18, go_sem]) rfl ⟨rfl, ?_⟩
  repeat (first | exact Below.refl _ _ | refine Below.setCell ?_ (by simp <;> omega) _ | refine Below.alloc ?_ (by simp <;> omega) _)
set_option maxRecDepth 100000 in
set_option maxHeartbeats 2000000 in
theorem field_num (b o : Nat) (x : Int) (w : World) (hb : b < w.heap.size) (h : w.cell? ⟨b, o, none⟩ = some (.int .i64 x)) : Calls Tryd.prog 18 #[.agg #[.int .i64 1, .pointer none, .pointer (some ⟨b, o, none⟩), .pointer none, .pointer none]] w fun e w' => e = .returned (C.fv 1 x ⟨#[]⟩ false) ∧ Below w.heap.size w w' := by
  have hC : ∀ o1 o2 o3 : Obj, (((w.alloc o1).alloc o2).alloc o3).cell? ⟨b, o, none⟩ = some (.int .i64 x) := fun o1 o2 o3 =>
    ((((((Below.refl _ _).alloc (Nat.le_refl _) o1).alloc (by simp) o2).alloc (by simp; omega) o3 : Below w.heap.size w _).cell (p := ⟨b, o, none⟩) hb)).trans h
  clear h
  go_enter Tryd.func18, Tryd.ntmps18
  go_wp2
  refine bodyPost_ret (v := C.fv 1 x ⟨#[]⟩ false) (by simp [results, Tryd.results18, go_sem]) rfl ⟨rfl, ?_⟩
  repeat (first | exact Below.refl _ _ | refine Below.setCell ?_ (by simp <;> omega) _ | refine Below.alloc ?_ (by simp <;> omega) _)
set_option maxRecDepth 100000 in
set_option maxHeartbeats 2000000 in
theorem field_sgn (b o : Nat) (x : Int) (w : World) (hb : b < w.heap.size) (h : w.cell? ⟨b, o, none⟩ = some (.int .i64 x)) : Calls Tryd.prog 18 #[.agg #[.int .i64 2, .pointer none, .pointer (some ⟨b, o, none⟩), .pointer none, .pointer none]] w fun e w' => e = .returned (C.fv 2 x ⟨#[]⟩ false) ∧ Below w.heap.size w w' := by
  have hC : ∀ o1 o2 o3 : Obj, (((w.alloc o1).alloc o2).alloc o3).cell? ⟨b, o, none⟩ = some (.int .i64 x) := fun o1 o2 o3 =>
    ((((((Below.refl _ _).alloc (Nat.le_refl _) o1).alloc (by simp) o2).alloc (by simp; omega) o3 : Below w.heap.size w _).cell (p := ⟨b, o, none⟩) hb)).trans h
  clear h
  go_enter Tryd.func18, Tryd.ntmps18
  go_wp2
  refine bodyPost_ret (v := C.fv 2 x ⟨#[]⟩ false) (by simp [results, Tryd.results18, go_sem]) rfl ⟨rfl, ?_⟩
  repeat (first | exact Below.refl _ _ | refine Below.setCell ?_ (by simp <;> omega) _ | refine Below.alloc ?_ (by simp <;> omega) _)
set_option maxRecDepth 100000 in
set_option maxHeartbeats 2000000 in
theorem field_text (b o : Nat) (x : ByteArray) (w : World) (hb : b < w.heap.size) (h : w.cell? ⟨b, o, none⟩ = some (.string x)) : Calls Tryd.prog 18 #[.agg #[.int .i64 3, .pointer none, .pointer none, .pointer (some ⟨b, o, none⟩), .pointer none]] w fun e w' => e = .returned (C.fv 3 0 x false) ∧ Below w.heap.size w w' := by
  have hC : ∀ o1 o2 o3 : Obj, (((w.alloc o1).alloc o2).alloc o3).cell? ⟨b, o, none⟩ = some (.string x) := fun o1 o2 o3 =>
    ((((((Below.refl _ _).alloc (Nat.le_refl _) o1).alloc (by simp) o2).alloc (by simp; omega) o3 : Below w.heap.size w _).cell (p := ⟨b, o, none⟩) hb)).trans h
  clear h
  go_enter Tryd.func18, Tryd.ntmps18
  go_wp2
  refine bodyPost_ret (v := C.fv 3 0 x false) (by simp [results, Tryd.results18, go_sem]) rfl ⟨rfl, ?_⟩
  repeat (first | exact Below.refl _ _ | refine Below.setCell ?_ (by simp <;> omega) _ | refine Below.alloc ?_ (by simp <;> omega) _)
set_option maxRecDepth 100000 in
set_option maxHeartbeats 2000000 in
theorem field_truth (b o : Nat) (x : Bool) (w : World) (hb : b < w.heap.size) (h : w.cell? ⟨b, o, none⟩ = some (.bool x)) : Calls Tryd.prog 18 #[.agg #[.int .i64 4, .pointer none, .pointer none, .pointer none, .pointer (some ⟨b, o, none⟩)]] w fun e w' => e = .returned (C.fv 4 0 ⟨#[]⟩ x) ∧ Below w.heap.size w w' := by
  have hC : ∀ o1 o2 o3 : Obj, (((w.alloc o1).alloc o2).alloc o3).cell? ⟨b, o, none⟩ = some (.bool x) := fun o1 o2 o3 =>
    ((((((Below.refl _ _).alloc (Nat.le_refl _) o1).alloc (by simp) o2).alloc (by simp; omega) o3 : Below w.heap.size w _).cell (p := ⟨b, o, none⟩) hb)).trans h
  clear h
  go_enter Tryd.func18, Tryd.ntmps18
  go_wp2
  refine bodyPost_ret (v := C.fv 4 0 ⟨#[]⟩ x) (by simp [results, Tryd.results18, go_sem]) rfl ⟨rfl, ?_⟩
  repeat (first | exact Below.refl _ _ | refine Below.setCell ?_ (by simp <;> omega) _ | refine Below.alloc ?_ (by simp <;> omega) _)

end Go.Proofs.YticmjlnpjopfbabDoor

namespace Go.Proofs.YticmjlnpjopfbabDoor
open Go.ChangeShapes Go.WideShapes Go.ChangeAt Go.RowKit S
set_option linter.unusedVariables false

theorem setRow_at {w : World} {g : Nat} {Z : Array Value} {t : TypeId} (s : g < w.heap.size) (h : w.heap[g]? = some (.cells Z t (0, 0))) (c : Array Value) : (w.setRow g c).heap[g]? = some (.cells c t (0, 0)) := setRow_heap w g Z c t (0, 0) h
theorem setRow_below {w w0 : World} {Z : Array Value} {t : TypeId} (B : Below w0.heap.size w0 w) (h : w.heap[w0.heap.size]? = some (.cells Z t (0, 0))) (c : Array Value) : Below w0.heap.size w0 (w.setRow w0.heap.size c) :=
  ⟨B.os, B.tape, B.output, by rw [size_setRow]; exact B.size, fun b hb => (setRow_other w w0.heap.size b c (by omega)).trans (B.block b hb)⟩

set_option maxRecDepth 100000 in
set_option maxHeartbeats 4000000 in
theorem head_any (pb cb : Nat) (w : World) : Calls Tryd.prog 31 #[.pointer (some ⟨pb, 0, none⟩), .pointer (some ⟨cb, 0, none⟩)] w fun e w' => e = .returned (.agg #[.int .i64 1, .pointer (some ⟨pb, 0, none⟩), .pointer none, .pointer none, .pointer none, .int .i64 1, .pointer (some ⟨pb, 1, none⟩), .pointer none, .pointer none, .pointer none, .int .i64 1, .pointer (some ⟨pb, 2, none⟩), .pointer none, .pointer none, .pointer none, .int .i64 1, .pointer none, .pointer (some ⟨pb, 3, none⟩), .pointer none, .pointer none, .int .i64 1, .pointer none, .pointer (some ⟨pb, 4, none⟩), .pointer none, .pointer none, .int .i64 1, .pointer none, .pointer (some ⟨pb, 5, none⟩), .pointer none, .pointer none, .int .i64 1, .pointer none, .pointer (some ⟨pb, 6, none⟩), .pointer none, .pointer none, .int .i64 1, .pointer (some ⟨cb, 0, none⟩), .pointer none, .pointer none, .pointer none]) ∧ Below w.heap.size w w' := by
  obtain ⟨Z, hZ⟩ : ∃ Z : Array Value, #[.int .i64 0, .pointer none, .pointer none, .pointer none, .pointer none, .int .i64 0, .pointer none, .pointer none, .pointer none, .pointer none, .int .i64 0, .pointer none, .pointer none, .pointer none, .pointer none, .int .i64 0, .pointer none, .pointer none, .pointer none, .pointer none, .int .i64 0, .pointer none, .pointer none, .pointer none, .pointer none, .int .i64 0, .pointer none, .pointer none, .pointer none, .pointer none, .int .i64 0, .pointer none, .pointer none, .pointer none, .pointer none, .int .i64 0, .pointer none, .pointer none, .pointer none, .pointer none] = Z := ⟨_, rfl⟩
  have hZs : Z.size = 40 := by rw [← hZ]; rfl
  go_enter Tryd.func31, Tryd.ntmps31
  go_wp2
  try rw [hZ]
  clear hZ
  obtain ⟨W0, hW0⟩ : ∃ W0, w.alloc (.cells Z 73) = W0 := ⟨_, rfl⟩
  have g0 : W0.drew.heap[w.heap.size]? = some (.cells Z 73 (0, 0)) := by rw [← hW0]; exact World.alloc_heap_new w _
  have s0 : w.heap.size < W0.drew.heap.size := by rw [← hW0]; simp
  have B0 : Below w.heap.size w W0.drew := by rw [← hW0]; exact ((Below.refl _ _).alloc (Nat.le_refl _) _).drew
  rw [hW0]
  clear hW0
  refine wp_region_any (by kernel_rfl) ?_
  change wpAny _ _ _ _ _ _ _ (World.drew _)
  refine any_take 0 5 (.pointer (some ⟨pb, 0, none⟩)) rfl rfl (by kernel_rfl) (by kernel_rfl) (by kernel_rfl) (fun _ _ _ h => h) (Or.inl ⟨by rfl, by intro w; go_simp⟩) ?_
  try simp only [Act.put, List.setIfInBounds_toArray, List.set_cons_zero, List.set_cons_succ]
  refine any_take 1 6 (.pointer (some ⟨pb, 0, none⟩)) rfl rfl (by kernel_rfl) (by kernel_rfl) (by kernel_rfl) (fun _ _ _ h => h) (Or.inl ⟨by rfl, by intro w; go_simp⟩) ?_
  try simp only [Act.put, List.setIfInBounds_toArray, List.set_cons_zero, List.set_cons_succ]
  refine any_take 2 7 (.pointer (some ⟨pb, 0, none⟩)) rfl rfl (by kernel_rfl) (by kernel_rfl) (by kernel_rfl) (fun _ _ _ h => h) (Or.inl ⟨by rfl, by intro w; go_simp⟩) ?_
  try simp only [Act.put, List.setIfInBounds_toArray, List.set_cons_zero, List.set_cons_succ]
  refine any_take 4 9 (.pointer (some ⟨pb, 0, none⟩)) rfl rfl (by kernel_rfl) (by kernel_rfl) (by kernel_rfl) (fun _ _ _ h => h) (Or.inl ⟨by rfl, by intro w; go_simp⟩) ?_
  try simp only [Act.put, List.setIfInBounds_toArray, List.set_cons_zero, List.set_cons_succ]
  refine any_take 5 10 (.pointer (some ⟨pb, 0, none⟩)) rfl rfl (by kernel_rfl) (by kernel_rfl) (by kernel_rfl) (fun _ _ _ h => h) (Or.inl ⟨by rfl, by intro w; go_simp⟩) ?_
  try simp only [Act.put, List.setIfInBounds_toArray, List.set_cons_zero, List.set_cons_succ]
  refine any_take 6 11 (.pointer (some ⟨pb, 1, none⟩)) rfl rfl (by kernel_rfl) (by kernel_rfl) (by kernel_rfl) (fun _ _ _ h => h) (Or.inl ⟨by rfl, by intro w; go_simp⟩) ?_
  try simp only [Act.put, List.setIfInBounds_toArray, List.set_cons_zero, List.set_cons_succ]
  refine any_take 8 13 (.pointer (some ⟨pb, 0, none⟩)) rfl rfl (by kernel_rfl) (by kernel_rfl) (by kernel_rfl) (fun _ _ _ h => h) (Or.inl ⟨by rfl, by intro w; go_simp⟩) ?_
  try simp only [Act.put, List.setIfInBounds_toArray, List.set_cons_zero, List.set_cons_succ]
  refine any_take 9 14 (.pointer (some ⟨pb, 0, none⟩)) rfl rfl (by kernel_rfl) (by kernel_rfl) (by kernel_rfl) (fun _ _ _ h => h) (Or.inl ⟨by rfl, by intro w; go_simp⟩) ?_
  try simp only [Act.put, List.setIfInBounds_toArray, List.set_cons_zero, List.set_cons_succ]
  refine any_take 10 15 (.pointer (some ⟨pb, 2, none⟩)) rfl rfl (by kernel_rfl) (by kernel_rfl) (by kernel_rfl) (fun _ _ _ h => h) (Or.inl ⟨by rfl, by intro w; go_simp⟩) ?_
  try simp only [Act.put, List.setIfInBounds_toArray, List.set_cons_zero, List.set_cons_succ]
  refine any_take 12 17 (.pointer (some ⟨pb, 0, none⟩)) rfl rfl (by kernel_rfl) (by kernel_rfl) (by kernel_rfl) (fun _ _ _ h => h) (Or.inl ⟨by rfl, by intro w; go_simp⟩) ?_
  try simp only [Act.put, List.setIfInBounds_toArray, List.set_cons_zero, List.set_cons_succ]
  refine any_take 13 18 (.pointer (some ⟨pb, 0, none⟩)) rfl rfl (by kernel_rfl) (by kernel_rfl) (by kernel_rfl) (fun _ _ _ h => h) (Or.inl ⟨by rfl, by intro w; go_simp⟩) ?_
  try simp only [Act.put, List.setIfInBounds_toArray, List.set_cons_zero, List.set_cons_succ]
  refine any_take 14 19 (.pointer (some ⟨pb, 3, none⟩)) rfl rfl (by kernel_rfl) (by kernel_rfl) (by kernel_rfl) (fun _ _ _ h => h) (Or.inl ⟨by rfl, by intro w; go_simp⟩) ?_
  try simp only [Act.put, List.setIfInBounds_toArray, List.set_cons_zero, List.set_cons_succ]
  refine any_take 16 21 (.pointer (some ⟨pb, 0, none⟩)) rfl rfl (by kernel_rfl) (by kernel_rfl) (by kernel_rfl) (fun _ _ _ h => h) (Or.inl ⟨by rfl, by intro w; go_simp⟩) ?_
  try simp only [Act.put, List.setIfInBounds_toArray, List.set_cons_zero, List.set_cons_succ]
  refine any_take 17 22 (.pointer (some ⟨pb, 0, none⟩)) rfl rfl (by kernel_rfl) (by kernel_rfl) (by kernel_rfl) (fun _ _ _ h => h) (Or.inl ⟨by rfl, by intro w; go_simp⟩) ?_
  try simp only [Act.put, List.setIfInBounds_toArray, List.set_cons_zero, List.set_cons_succ]
  refine any_take 18 23 (.pointer (some ⟨pb, 4, none⟩)) rfl rfl (by kernel_rfl) (by kernel_rfl) (by kernel_rfl) (fun _ _ _ h => h) (Or.inl ⟨by rfl, by intro w; go_simp⟩) ?_
  try simp only [Act.put, List.setIfInBounds_toArray, List.set_cons_zero, List.set_cons_succ]
  refine any_take 20 25 (.pointer (some ⟨pb, 0, none⟩)) rfl rfl (by kernel_rfl) (by kernel_rfl) (by kernel_rfl) (fun _ _ _ h => h) (Or.inl ⟨by rfl, by intro w; go_simp⟩) ?_
  try simp only [Act.put, List.setIfInBounds_toArray, List.set_cons_zero, List.set_cons_succ]
  refine any_take 21 26 (.pointer (some ⟨pb, 0, none⟩)) rfl rfl (by kernel_rfl) (by kernel_rfl) (by kernel_rfl) (fun _ _ _ h => h) (Or.inl ⟨by rfl, by intro w; go_simp⟩) ?_
  try simp only [Act.put, List.setIfInBounds_toArray, List.set_cons_zero, List.set_cons_succ]
  refine any_take 22 27 (.pointer (some ⟨pb, 5, none⟩)) rfl rfl (by kernel_rfl) (by kernel_rfl) (by kernel_rfl) (fun _ _ _ h => h) (Or.inl ⟨by rfl, by intro w; go_simp⟩) ?_
  try simp only [Act.put, List.setIfInBounds_toArray, List.set_cons_zero, List.set_cons_succ]
  refine any_take 24 29 (.pointer (some ⟨pb, 0, none⟩)) rfl rfl (by kernel_rfl) (by kernel_rfl) (by kernel_rfl) (fun _ _ _ h => h) (Or.inl ⟨by rfl, by intro w; go_simp⟩) ?_
  try simp only [Act.put, List.setIfInBounds_toArray, List.set_cons_zero, List.set_cons_succ]
  refine any_take 25 30 (.pointer (some ⟨pb, 0, none⟩)) rfl rfl (by kernel_rfl) (by kernel_rfl) (by kernel_rfl) (fun _ _ _ h => h) (Or.inl ⟨by rfl, by intro w; go_simp⟩) ?_
  try simp only [Act.put, List.setIfInBounds_toArray, List.set_cons_zero, List.set_cons_succ]
  refine any_take 26 31 (.pointer (some ⟨pb, 6, none⟩)) rfl rfl (by kernel_rfl) (by kernel_rfl) (by kernel_rfl) (fun _ _ _ h => h) (Or.inl ⟨by rfl, by intro w; go_simp⟩) ?_
  try simp only [Act.put, List.setIfInBounds_toArray, List.set_cons_zero, List.set_cons_succ]
  refine any_take 28 33 (.pointer (some ⟨cb, 0, none⟩)) rfl rfl (by kernel_rfl) (by kernel_rfl) (by kernel_rfl) (fun _ _ _ h => h) (Or.inl ⟨by rfl, by intro w; go_simp⟩) ?_
  try simp only [Act.put, List.setIfInBounds_toArray, List.set_cons_zero, List.set_cons_succ]
  refine wpAny_ready (rs := [3]) (by kernel_rfl) (by simp) ?_
  refine AllReady.cons rfl (fun K hK => ?_) AllReady.nil
  go_simp
  go_wp2_with (go_at_call 43; refine (small_any _ _).mono ?_; rintro e w1 ⟨rfl, hb1⟩; have g1 := (hb1.block w.heap.size s0).trans g0; have s1 := Nat.lt_of_lt_of_le s0 hb1.size; have B1 := B0.trans (hb1.mono (Nat.le_of_lt s0)); clear hb1 g0 s0 B0)
  refine wpAny_ready (rs := [7]) (by kernel_rfl) (by simp) ?_
  refine AllReady.cons rfl (fun K hK => ?_) AllReady.nil
  go_simp
  go_wp2_with (go_at_call 43; refine (small_any _ _).mono ?_; rintro e w2 ⟨rfl, hb2⟩; have g2 := (hb2.block w.heap.size s1).trans g1; have s2 := Nat.lt_of_lt_of_le s1 hb2.size; have B2 := B1.trans (hb2.mono (Nat.le_of_lt s1)); clear hb2 g1 s1 B1)
  refine wpAny_ready (rs := [11]) (by kernel_rfl) (by simp) ?_
  refine AllReady.cons rfl (fun K hK => ?_) AllReady.nil
  go_simp
  go_wp2_with (go_at_call 43; refine (small_any _ _).mono ?_; rintro e w3 ⟨rfl, hb3⟩; have g3 := (hb3.block w.heap.size s2).trans g2; have s3 := Nat.lt_of_lt_of_le s2 hb3.size; have B3 := B2.trans (hb3.mono (Nat.le_of_lt s2)); clear hb3 g2 s2 B2)
  refine wpAny_ready (rs := [15]) (by kernel_rfl) (by simp) ?_
  refine AllReady.cons rfl (fun K hK => ?_) AllReady.nil
  go_simp
  go_wp2_with (go_at_call 44; refine (number_any _ _).mono ?_; rintro e w4 ⟨rfl, hb4⟩; have g4 := (hb4.block w.heap.size s3).trans g3; have s4 := Nat.lt_of_lt_of_le s3 hb4.size; have B4 := B3.trans (hb4.mono (Nat.le_of_lt s3)); clear hb4 g3 s3 B3)
  refine wpAny_ready (rs := [19]) (by kernel_rfl) (by simp) ?_
  refine AllReady.cons rfl (fun K hK => ?_) AllReady.nil
  go_simp
  go_wp2_with (go_at_call 44; refine (number_any _ _).mono ?_; rintro e w5 ⟨rfl, hb5⟩; have g5 := (hb5.block w.heap.size s4).trans g4; have s5 := Nat.lt_of_lt_of_le s4 hb5.size; have B5 := B4.trans (hb5.mono (Nat.le_of_lt s4)); clear hb5 g4 s4 B4)
  refine wpAny_ready (rs := [23]) (by kernel_rfl) (by simp) ?_
  refine AllReady.cons rfl (fun K hK => ?_) AllReady.nil
  go_simp
  go_wp2_with (go_at_call 44; refine (number_any _ _).mono ?_; rintro e w6 ⟨rfl, hb6⟩; have g6 := (hb6.block w.heap.size s5).trans g5; have s6 := Nat.lt_of_lt_of_le s5 hb6.size; have B6 := B5.trans (hb6.mono (Nat.le_of_lt s5)); clear hb6 g5 s5 B5)
  refine wpAny_ready (rs := [27]) (by kernel_rfl) (by simp) ?_
  refine AllReady.cons rfl (fun K hK => ?_) AllReady.nil
  go_simp
  go_wp2_with (go_at_call 44; refine (number_any _ _).mono ?_; rintro e w7 ⟨rfl, hb7⟩; have g7 := (hb7.block w.heap.size s6).trans g6; have s7 := Nat.lt_of_lt_of_le s6 hb7.size; have B7 := B6.trans (hb7.mono (Nat.le_of_lt s6)); clear hb7 g6 s6 B6)
  refine wpAny_ready (rs := [29]) (by kernel_rfl) (by simp) ?_
  refine AllReady.cons rfl (fun K hK => ?_) AllReady.nil
  go_simp
  go_wp2_with (go_at_call 43; refine (small_any _ _).mono ?_; rintro e w8 ⟨rfl, hb8⟩; have g8 := (hb8.block w.heap.size s7).trans g7; have s8 := Nat.lt_of_lt_of_le s7 hb8.size; have B8 := B7.trans (hb8.mono (Nat.le_of_lt s7)); clear hb8 g7 s7 B7)
  refine any_take 30 35 (.agg #[.int .i64 1, .pointer (some ⟨pb, 0, none⟩), .pointer none, .pointer none, .pointer none, .int .i64 1, .pointer (some ⟨pb, 1, none⟩), .pointer none, .pointer none, .pointer none, .int .i64 1, .pointer (some ⟨pb, 2, none⟩), .pointer none, .pointer none, .pointer none, .int .i64 1, .pointer none, .pointer (some ⟨pb, 3, none⟩), .pointer none, .pointer none, .int .i64 1, .pointer none, .pointer (some ⟨pb, 4, none⟩), .pointer none, .pointer none, .int .i64 1, .pointer none, .pointer (some ⟨pb, 5, none⟩), .pointer none, .pointer none, .int .i64 1, .pointer none, .pointer (some ⟨pb, 6, none⟩), .pointer none, .pointer none, .int .i64 1, .pointer (some ⟨cb, 0, none⟩), .pointer none, .pointer none, .pointer none]) rfl rfl (by kernel_rfl) (by kernel_rfl) (by kernel_rfl) (fun _ _ _ h => h) (Or.inl ⟨by rfl, by intro w; go_simp⟩) ?_
  try simp only [Act.put, List.setIfInBounds_toArray, List.set_cons_zero, List.set_cons_succ]
  refine wpAny_ready (rs := [31]) (by kernel_rfl) (by simp) ?_
  refine AllReady.cons rfl (fun K hK => ?_) AllReady.nil
  refine wp_store_row 73 _ _ rfl w.heap.size #[.int .i64 1, .pointer (some ⟨pb, 0, none⟩), .pointer none, .pointer none, .pointer none, .int .i64 1, .pointer (some ⟨pb, 1, none⟩), .pointer none, .pointer none, .pointer none, .int .i64 1, .pointer (some ⟨pb, 2, none⟩), .pointer none, .pointer none, .pointer none, .int .i64 1, .pointer none, .pointer (some ⟨pb, 3, none⟩), .pointer none, .pointer none, .int .i64 1, .pointer none, .pointer (some ⟨pb, 4, none⟩), .pointer none, .pointer none, .int .i64 1, .pointer none, .pointer (some ⟨pb, 5, none⟩), .pointer none, .pointer none, .int .i64 1, .pointer none, .pointer (some ⟨pb, 6, none⟩), .pointer none, .pointer none, .int .i64 1, .pointer (some ⟨cb, 0, none⟩), .pointer none, .pointer none, .pointer none] rfl rfl 73 Z g8 (by kernel_rfl) hZs (by simp [Value.oneCell']) ?_
  refine hK _ _ ?_
  refine wpAny_done (by kernel_rfl) ?_ _
  go_wp2
  refine bodyPost_ret (results_cell_row rfl _ _ w.heap.size 73 #[.int .i64 1, .pointer (some ⟨pb, 0, none⟩), .pointer none, .pointer none, .pointer none, .int .i64 1, .pointer (some ⟨pb, 1, none⟩), .pointer none, .pointer none, .pointer none, .int .i64 1, .pointer (some ⟨pb, 2, none⟩), .pointer none, .pointer none, .pointer none, .int .i64 1, .pointer none, .pointer (some ⟨pb, 3, none⟩), .pointer none, .pointer none, .int .i64 1, .pointer none, .pointer (some ⟨pb, 4, none⟩), .pointer none, .pointer none, .int .i64 1, .pointer none, .pointer (some ⟨pb, 5, none⟩), .pointer none, .pointer none, .int .i64 1, .pointer none, .pointer (some ⟨pb, 6, none⟩), .pointer none, .pointer none, .int .i64 1, .pointer (some ⟨cb, 0, none⟩), .pointer none, .pointer none, .pointer none] (0, 0) _ rfl (setRow_at s8 g8 _) Tryd.underlying73 rfl (by kernel_rfl)) rfl ⟨rfl, ?_⟩
  exact setRow_below B8 g8 _

end Go.Proofs.YticmjlnpjopfbabDoor

namespace Go.Proofs.YticmjlnpjopfbabDoor
open Go.ChangeShapes Go.WideShapes Go.ChangeAt Go.RowKit S
set_option linter.unusedVariables false

set_option maxRecDepth 100000 in
set_option maxHeartbeats 8000000 in
theorem parts_any (b o : Nat) (w : World) : Calls Tryd.prog 32 #[.pointer (some ⟨b, o, none⟩)] w fun e w' => e = .returned (.agg #[.int .i64 3, .pointer none, .pointer none, .pointer (some ⟨b, o, none⟩), .pointer none, .int .i64 1, .pointer none, .pointer (some ⟨b, o + 1, none⟩), .pointer none, .pointer none, .int .i64 1, .pointer (some ⟨b, o + 2, none⟩), .pointer none, .pointer none, .pointer none, .int .i64 4, .pointer none, .pointer none, .pointer none, .pointer (some ⟨b, o + 3, none⟩), .int .i64 1, .pointer (some ⟨b, o + 4, none⟩), .pointer none, .pointer none, .pointer none, .int .i64 1, .pointer none, .pointer (some ⟨b, o + 5, none⟩), .pointer none, .pointer none, .int .i64 1, .pointer none, .pointer (some ⟨b, o + 6, none⟩), .pointer none, .pointer none, .int .i64 1, .pointer (some ⟨b, o + 7, none⟩), .pointer none, .pointer none, .pointer none, .int .i64 2, .pointer none, .pointer (some ⟨b, o + 8, none⟩), .pointer none, .pointer none, .int .i64 4, .pointer none, .pointer none, .pointer none, .pointer (some ⟨b, o + 9, none⟩), .int .i64 2, .pointer none, .pointer (some ⟨b, o + 10, none⟩), .pointer none, .pointer none, .int .i64 4, .pointer none, .pointer none, .pointer none, .pointer (some ⟨b, o + 11, none⟩), .int .i64 2, .pointer none, .pointer (some ⟨b, o + 12, none⟩), .pointer none, .pointer none, .int .i64 1, .pointer (some ⟨b, o + 13, none⟩), .pointer none, .pointer none, .pointer none, .int .i64 1, .pointer none, .pointer (some ⟨b, o + 14, none⟩), .pointer none, .pointer none, .int .i64 4, .pointer none, .pointer none, .pointer none, .pointer (some ⟨b, o + 15, none⟩), .int .i64 2, .pointer none, .pointer (some ⟨b, o + 16, none⟩), .pointer none, .pointer none, .int .i64 1, .pointer (some ⟨b, o + 17, none⟩), .pointer none, .pointer none, .pointer none, .int .i64 1, .pointer none, .pointer (some ⟨b, o + 18, none⟩), .pointer none, .pointer none]) ∧ Below w.heap.size w w' := by
  obtain ⟨Z, hZ⟩ : ∃ Z : Array Value, Tryd.zeroCells75 = Z := ⟨_, rfl⟩
  have hZs : Z.size = 95 := by rw [← hZ]; kernel_rfl
  go_enter Tryd.func32, Tryd.ntmps32
  go_wp2
  try rw [hZ]
  clear hZ
  obtain ⟨W0, hW0⟩ : ∃ W0, w.alloc (.cells Z 75) = W0 := ⟨_, rfl⟩
  have g0 : W0.drew.heap[w.heap.size]? = some (.cells Z 75 (0, 0)) := by rw [← hW0]; exact World.alloc_heap_new w _
  have s0 : w.heap.size < W0.drew.heap.size := by rw [← hW0]; simp
  have B0 : Below w.heap.size w W0.drew := by rw [← hW0]; exact ((Below.refl _ _).alloc (Nat.le_refl _) _).drew
  rw [hW0]
  clear hW0
  refine wp_region_any (by kernel_rfl) ?_
  change wpAny _ _ _ _ _ _ _ (World.drew _)
  refine any_take 0 7 (.pointer (some ⟨b, o, none⟩)) rfl rfl (by kernel_rfl) (by kernel_rfl) (by kernel_rfl) (fun _ _ _ h => h) (Or.inl ⟨by rfl, by intro w; go_simp⟩) ?_
  try simp only [Act.put, List.setIfInBounds_toArray, List.set_cons_zero, List.set_cons_succ]
  refine any_take 1 8 (.pointer (some ⟨b, o, none⟩)) rfl rfl (by kernel_rfl) (by kernel_rfl) (by kernel_rfl) (fun _ _ _ h => h) (Or.inl ⟨by rfl, by intro w; go_simp⟩) ?_
  try simp only [Act.put, List.setIfInBounds_toArray, List.set_cons_zero, List.set_cons_succ]
  refine any_take 2 9 (.pointer (some ⟨b, o, none⟩)) rfl rfl (by kernel_rfl) (by kernel_rfl) (by kernel_rfl) (fun _ _ _ h => h) (Or.inl ⟨by rfl, by intro w; go_simp⟩) ?_
  try simp only [Act.put, List.setIfInBounds_toArray, List.set_cons_zero, List.set_cons_succ]
  refine any_take 3 10 (.pointer (some ⟨b, o, none⟩)) rfl rfl (by kernel_rfl) (by kernel_rfl) (by kernel_rfl) (fun _ _ _ h => h) (Or.inl ⟨by rfl, by intro w; go_simp⟩) ?_
  try simp only [Act.put, List.setIfInBounds_toArray, List.set_cons_zero, List.set_cons_succ]
  refine any_take 4 11 (.pointer (some ⟨b, o, none⟩)) rfl rfl (by kernel_rfl) (by kernel_rfl) (by kernel_rfl) (fun _ _ _ h => h) (Or.inl ⟨by rfl, by intro w; go_simp⟩) ?_
  try simp only [Act.put, List.setIfInBounds_toArray, List.set_cons_zero, List.set_cons_succ]
  refine any_take 5 12 (.pointer (some ⟨b, o + 6, none⟩)) rfl rfl (by kernel_rfl) (by kernel_rfl) (by kernel_rfl) (fun _ _ _ h => h) (Or.inl ⟨by rfl, by intro w; go_simp⟩) ?_
  try simp only [Act.put, List.setIfInBounds_toArray, List.set_cons_zero, List.set_cons_succ]
  refine any_take 6 13 (.pointer (some ⟨b, o, none⟩)) rfl rfl (by kernel_rfl) (by kernel_rfl) (by kernel_rfl) (fun _ _ _ h => h) (Or.inl ⟨by rfl, by intro w; go_simp⟩) ?_
  try simp only [Act.put, List.setIfInBounds_toArray, List.set_cons_zero, List.set_cons_succ]
  refine any_take 7 14 (.pointer (some ⟨b, o, none⟩)) rfl rfl (by kernel_rfl) (by kernel_rfl) (by kernel_rfl) (fun _ _ _ h => h) (Or.inl ⟨by rfl, by intro w; go_simp⟩) ?_
  try simp only [Act.put, List.setIfInBounds_toArray, List.set_cons_zero, List.set_cons_succ]
  refine any_take 8 15 (.pointer (some ⟨b, o + 11, none⟩)) rfl rfl (by kernel_rfl) (by kernel_rfl) (by kernel_rfl) (fun _ _ _ h => h) (Or.inl ⟨by rfl, by intro w; go_simp⟩) ?_
  try simp only [Act.put, List.setIfInBounds_toArray, List.set_cons_zero, List.set_cons_succ]
  refine any_take 9 16 (.pointer (some ⟨b, o, none⟩)) rfl rfl (by kernel_rfl) (by kernel_rfl) (by kernel_rfl) (fun _ _ _ h => h) (Or.inl ⟨by rfl, by intro w; go_simp⟩) ?_
  try simp only [Act.put, List.setIfInBounds_toArray, List.set_cons_zero, List.set_cons_succ]
  refine any_take 10 17 (.pointer (some ⟨b, o, none⟩)) rfl rfl (by kernel_rfl) (by kernel_rfl) (by kernel_rfl) (fun _ _ _ h => h) (Or.inl ⟨by rfl, by intro w; go_simp⟩) ?_
  try simp only [Act.put, List.setIfInBounds_toArray, List.set_cons_zero, List.set_cons_succ]
  refine any_take 11 18 (.pointer (some ⟨b, o + 15, none⟩)) rfl rfl (by kernel_rfl) (by kernel_rfl) (by kernel_rfl) (fun _ _ _ h => h) (Or.inl ⟨by rfl, by intro w; go_simp⟩) ?_
  try simp only [Act.put, List.setIfInBounds_toArray, List.set_cons_zero, List.set_cons_succ]
  refine any_take 12 3 (.pointer (some ⟨b, o, none⟩)) rfl rfl (by kernel_rfl) (by kernel_rfl) (by kernel_rfl) (fun _ _ _ h => h) (Or.inl ⟨by rfl, by intro w; go_simp⟩) ?_
  try simp only [Act.put, List.setIfInBounds_toArray, List.set_cons_zero, List.set_cons_succ]
  refine any_take 13 4 (.pointer (some ⟨b, o + 6, none⟩)) rfl rfl (by kernel_rfl) (by kernel_rfl) (by kernel_rfl) (fun _ _ _ h => h) (Or.inl ⟨by rfl, by intro w; go_simp⟩) ?_
  try simp only [Act.put, List.setIfInBounds_toArray, List.set_cons_zero, List.set_cons_succ]
  refine any_take 14 5 (.pointer (some ⟨b, o + 11, none⟩)) rfl rfl (by kernel_rfl) (by kernel_rfl) (by kernel_rfl) (fun _ _ _ h => h) (Or.inl ⟨by rfl, by intro w; go_simp⟩) ?_
  try simp only [Act.put, List.setIfInBounds_toArray, List.set_cons_zero, List.set_cons_succ]
  refine any_take 15 6 (.pointer (some ⟨b, o + 15, none⟩)) rfl rfl (by kernel_rfl) (by kernel_rfl) (by kernel_rfl) (fun _ _ _ h => h) (Or.inl ⟨by rfl, by intro w; go_simp⟩) ?_
  try simp only [Act.put, List.setIfInBounds_toArray, List.set_cons_zero, List.set_cons_succ]
  refine wpAny_done (by kernel_rfl) ?_ _
  go_wp2
  refine wp_region_any (by kernel_rfl) ?_
  change wpAny _ _ _ _ _ _ _ (World.drew _)
  have B0' := B0.drew
  clear B0
  have B0 := B0'
  clear B0'
  refine any_take 0 19 (.pointer (some ⟨b, o, none⟩)) rfl rfl (by kernel_rfl) (by kernel_rfl) (by kernel_rfl) (fun _ _ _ h => h) (Or.inl ⟨by rfl, by intro w; go_simp⟩) ?_
  try simp only [Act.put, List.setIfInBounds_toArray, List.set_cons_zero, List.set_cons_succ]
  refine any_take 1 20 (.pointer (some ⟨b, o, none⟩)) rfl rfl (by kernel_rfl) (by kernel_rfl) (by kernel_rfl) (fun _ _ _ h => h) (Or.inl ⟨by rfl, by intro w; go_simp⟩) ?_
  try simp only [Act.put, List.setIfInBounds_toArray, List.set_cons_zero, List.set_cons_succ]
  refine any_take 2 21 (.pointer (some ⟨b, o, none⟩)) rfl rfl (by kernel_rfl) (by kernel_rfl) (by kernel_rfl) (fun _ _ _ h => h) (Or.inl ⟨by rfl, by intro w; go_simp⟩) ?_
  try simp only [Act.put, List.setIfInBounds_toArray, List.set_cons_zero, List.set_cons_succ]
  refine any_take 4 23 (.pointer (some ⟨b, o, none⟩)) rfl rfl (by kernel_rfl) (by kernel_rfl) (by kernel_rfl) (fun _ _ _ h => h) (Or.inl ⟨by rfl, by intro w; go_simp⟩) ?_
  try simp only [Act.put, List.setIfInBounds_toArray, List.set_cons_zero, List.set_cons_succ]
  refine any_take 5 24 (.pointer (some ⟨b, o, none⟩)) rfl rfl (by kernel_rfl) (by kernel_rfl) (by kernel_rfl) (fun _ _ _ h => h) (Or.inl ⟨by rfl, by intro w; go_simp⟩) ?_
  try simp only [Act.put, List.setIfInBounds_toArray, List.set_cons_zero, List.set_cons_succ]
  refine any_take 6 25 (.pointer (some ⟨b, o + 1, none⟩)) rfl rfl (by kernel_rfl) (by kernel_rfl) (by kernel_rfl) (fun _ _ _ h => h) (Or.inl ⟨by rfl, by intro w; go_simp⟩) ?_
  try simp only [Act.put, List.setIfInBounds_toArray, List.set_cons_zero, List.set_cons_succ]
  refine any_take 8 27 (.pointer (some ⟨b, o, none⟩)) rfl rfl (by kernel_rfl) (by kernel_rfl) (by kernel_rfl) (fun _ _ _ h => h) (Or.inl ⟨by rfl, by intro w; go_simp⟩) ?_
  try simp only [Act.put, List.setIfInBounds_toArray, List.set_cons_zero, List.set_cons_succ]
  refine any_take 9 28 (.pointer (some ⟨b, o, none⟩)) rfl rfl (by kernel_rfl) (by kernel_rfl) (by kernel_rfl) (fun _ _ _ h => h) (Or.inl ⟨by rfl, by intro w; go_simp⟩) ?_
  try simp only [Act.put, List.setIfInBounds_toArray, List.set_cons_zero, List.set_cons_succ]
  refine any_take 10 29 (.pointer (some ⟨b, o + 2, none⟩)) rfl rfl (by kernel_rfl) (by kernel_rfl) (by kernel_rfl) (fun _ _ _ h => h) (Or.inl ⟨by rfl, by intro w; go_simp⟩) ?_
  try simp only [Act.put, List.setIfInBounds_toArray, List.set_cons_zero, List.set_cons_succ]
  refine any_take 12 31 (.pointer (some ⟨b, o, none⟩)) rfl rfl (by kernel_rfl) (by kernel_rfl) (by kernel_rfl) (fun _ _ _ h => h) (Or.inl ⟨by rfl, by intro w; go_simp⟩) ?_
  try simp only [Act.put, List.setIfInBounds_toArray, List.set_cons_zero, List.set_cons_succ]
  refine any_take 13 32 (.pointer (some ⟨b, o, none⟩)) rfl rfl (by kernel_rfl) (by kernel_rfl) (by kernel_rfl) (fun _ _ _ h => h) (Or.inl ⟨by rfl, by intro w; go_simp⟩) ?_
  try simp only [Act.put, List.setIfInBounds_toArray, List.set_cons_zero, List.set_cons_succ]
  refine any_take 14 33 (.pointer (some ⟨b, o + 3, none⟩)) rfl rfl (by kernel_rfl) (by kernel_rfl) (by kernel_rfl) (fun _ _ _ h => h) (Or.inl ⟨by rfl, by intro w; go_simp⟩) ?_
  try simp only [Act.put, List.setIfInBounds_toArray, List.set_cons_zero, List.set_cons_succ]
  refine any_take 16 35 (.pointer (some ⟨b, o, none⟩)) rfl rfl (by kernel_rfl) (by kernel_rfl) (by kernel_rfl) (fun _ _ _ h => h) (Or.inl ⟨by rfl, by intro w; go_simp⟩) ?_
  try simp only [Act.put, List.setIfInBounds_toArray, List.set_cons_zero, List.set_cons_succ]
  refine any_take 17 36 (.pointer (some ⟨b, o, none⟩)) rfl rfl (by kernel_rfl) (by kernel_rfl) (by kernel_rfl) (fun _ _ _ h => h) (Or.inl ⟨by rfl, by intro w; go_simp⟩) ?_
  try simp only [Act.put, List.setIfInBounds_toArray, List.set_cons_zero, List.set_cons_succ]
  refine any_take 18 37 (.pointer (some ⟨b, o + 4, none⟩)) rfl rfl (by kernel_rfl) (by kernel_rfl) (by kernel_rfl) (fun _ _ _ h => h) (Or.inl ⟨by rfl, by intro w; go_simp⟩) ?_
  try simp only [Act.put, List.setIfInBounds_toArray, List.set_cons_zero, List.set_cons_succ]
  refine any_take 20 39 (.pointer (some ⟨b, o, none⟩)) rfl rfl (by kernel_rfl) (by kernel_rfl) (by kernel_rfl) (fun _ _ _ h => h) (Or.inl ⟨by rfl, by intro w; go_simp⟩) ?_
  try simp only [Act.put, List.setIfInBounds_toArray, List.set_cons_zero, List.set_cons_succ]
  refine any_take 21 40 (.pointer (some ⟨b, o, none⟩)) rfl rfl (by kernel_rfl) (by kernel_rfl) (by kernel_rfl) (fun _ _ _ h => h) (Or.inl ⟨by rfl, by intro w; go_simp⟩) ?_
  try simp only [Act.put, List.setIfInBounds_toArray, List.set_cons_zero, List.set_cons_succ]
  refine any_take 22 41 (.pointer (some ⟨b, o + 5, none⟩)) rfl rfl (by kernel_rfl) (by kernel_rfl) (by kernel_rfl) (fun _ _ _ h => h) (Or.inl ⟨by rfl, by intro w; go_simp⟩) ?_
  try simp only [Act.put, List.setIfInBounds_toArray, List.set_cons_zero, List.set_cons_succ]
  refine any_take 24 43 (.pointer (some ⟨b, o + 6, none⟩)) rfl rfl (by kernel_rfl) (by kernel_rfl) (by kernel_rfl) (fun _ _ _ h => h) (Or.inl ⟨by rfl, by intro w; go_simp⟩) ?_
  try simp only [Act.put, List.setIfInBounds_toArray, List.set_cons_zero, List.set_cons_succ]
  refine any_take 25 44 (.pointer (some ⟨b, o + 6, none⟩)) rfl rfl (by kernel_rfl) (by kernel_rfl) (by kernel_rfl) (fun _ _ _ h => h) (Or.inl ⟨by rfl, by intro w; go_simp⟩) ?_
  try simp only [Act.put, List.setIfInBounds_toArray, List.set_cons_zero, List.set_cons_succ]
  refine any_take 26 45 (.pointer (some ⟨b, o + 6, none⟩)) rfl rfl (by kernel_rfl) (by kernel_rfl) (by kernel_rfl) (fun _ _ _ h => h) (Or.inl ⟨by rfl, by intro w; go_simp⟩) ?_
  try simp only [Act.put, List.setIfInBounds_toArray, List.set_cons_zero, List.set_cons_succ]
  refine any_take 28 47 (.pointer (some ⟨b, o + 6, none⟩)) rfl rfl (by kernel_rfl) (by kernel_rfl) (by kernel_rfl) (fun _ _ _ h => h) (Or.inl ⟨by rfl, by intro w; go_simp⟩) ?_
  try simp only [Act.put, List.setIfInBounds_toArray, List.set_cons_zero, List.set_cons_succ]
  refine any_take 29 48 (.pointer (some ⟨b, o + 6, none⟩)) rfl rfl (by kernel_rfl) (by kernel_rfl) (by kernel_rfl) (fun _ _ _ h => h) (Or.inl ⟨by rfl, by intro w; go_simp⟩) ?_
  try simp only [Act.put, List.setIfInBounds_toArray, List.set_cons_zero, List.set_cons_succ]
  refine any_take 30 49 (.pointer (some ⟨b, o + 7, none⟩)) rfl rfl (by kernel_rfl) (by kernel_rfl) (by kernel_rfl) (fun _ _ _ h => h) (Or.inl ⟨by rfl, by intro w; go_simp⟩) ?_
  try simp only [Act.put, List.setIfInBounds_toArray, List.set_cons_zero, List.set_cons_succ]
  refine any_take 32 51 (.pointer (some ⟨b, o + 6, none⟩)) rfl rfl (by kernel_rfl) (by kernel_rfl) (by kernel_rfl) (fun _ _ _ h => h) (Or.inl ⟨by rfl, by intro w; go_simp⟩) ?_
  try simp only [Act.put, List.setIfInBounds_toArray, List.set_cons_zero, List.set_cons_succ]
  refine any_take 33 52 (.pointer (some ⟨b, o + 6, none⟩)) rfl rfl (by kernel_rfl) (by kernel_rfl) (by kernel_rfl) (fun _ _ _ h => h) (Or.inl ⟨by rfl, by intro w; go_simp⟩) ?_
  try simp only [Act.put, List.setIfInBounds_toArray, List.set_cons_zero, List.set_cons_succ]
  refine any_take 34 53 (.pointer (some ⟨b, o + 8, none⟩)) rfl rfl (by kernel_rfl) (by kernel_rfl) (by kernel_rfl) (fun _ _ _ h => h) (Or.inl ⟨by rfl, by intro w; go_simp⟩) ?_
  try simp only [Act.put, List.setIfInBounds_toArray, List.set_cons_zero, List.set_cons_succ]
  refine any_take 36 55 (.pointer (some ⟨b, o, none⟩)) rfl rfl (by kernel_rfl) (by kernel_rfl) (by kernel_rfl) (fun _ _ _ h => h) (Or.inl ⟨by rfl, by intro w; go_simp⟩) ?_
  try simp only [Act.put, List.setIfInBounds_toArray, List.set_cons_zero, List.set_cons_succ]
  refine any_take 37 56 (.pointer (some ⟨b, o, none⟩)) rfl rfl (by kernel_rfl) (by kernel_rfl) (by kernel_rfl) (fun _ _ _ h => h) (Or.inl ⟨by rfl, by intro w; go_simp⟩) ?_
  try simp only [Act.put, List.setIfInBounds_toArray, List.set_cons_zero, List.set_cons_succ]
  refine any_take 38 57 (.pointer (some ⟨b, o + 9, none⟩)) rfl rfl (by kernel_rfl) (by kernel_rfl) (by kernel_rfl) (fun _ _ _ h => h) (Or.inl ⟨by rfl, by intro w; go_simp⟩) ?_
  try simp only [Act.put, List.setIfInBounds_toArray, List.set_cons_zero, List.set_cons_succ]
  refine any_take 40 59 (.pointer (some ⟨b, o, none⟩)) rfl rfl (by kernel_rfl) (by kernel_rfl) (by kernel_rfl) (fun _ _ _ h => h) (Or.inl ⟨by rfl, by intro w; go_simp⟩) ?_
  try simp only [Act.put, List.setIfInBounds_toArray, List.set_cons_zero, List.set_cons_succ]
  refine any_take 41 60 (.pointer (some ⟨b, o, none⟩)) rfl rfl (by kernel_rfl) (by kernel_rfl) (by kernel_rfl) (fun _ _ _ h => h) (Or.inl ⟨by rfl, by intro w; go_simp⟩) ?_
  try simp only [Act.put, List.setIfInBounds_toArray, List.set_cons_zero, List.set_cons_succ]
  refine any_take 42 61 (.pointer (some ⟨b, o + 10, none⟩)) rfl rfl (by kernel_rfl) (by kernel_rfl) (by kernel_rfl) (fun _ _ _ h => h) (Or.inl ⟨by rfl, by intro w; go_simp⟩) ?_
  try simp only [Act.put, List.setIfInBounds_toArray, List.set_cons_zero, List.set_cons_succ]
  refine any_take 44 63 (.pointer (some ⟨b, o + 11, none⟩)) rfl rfl (by kernel_rfl) (by kernel_rfl) (by kernel_rfl) (fun _ _ _ h => h) (Or.inl ⟨by rfl, by intro w; go_simp⟩) ?_
  try simp only [Act.put, List.setIfInBounds_toArray, List.set_cons_zero, List.set_cons_succ]
  refine any_take 45 64 (.pointer (some ⟨b, o + 11, none⟩)) rfl rfl (by kernel_rfl) (by kernel_rfl) (by kernel_rfl) (fun _ _ _ h => h) (Or.inl ⟨by rfl, by intro w; go_simp⟩) ?_
  try simp only [Act.put, List.setIfInBounds_toArray, List.set_cons_zero, List.set_cons_succ]
  refine any_take 46 65 (.pointer (some ⟨b, o + 11, none⟩)) rfl rfl (by kernel_rfl) (by kernel_rfl) (by kernel_rfl) (fun _ _ _ h => h) (Or.inl ⟨by rfl, by intro w; go_simp⟩) ?_
  try simp only [Act.put, List.setIfInBounds_toArray, List.set_cons_zero, List.set_cons_succ]
  refine any_take 48 67 (.pointer (some ⟨b, o + 11, none⟩)) rfl rfl (by kernel_rfl) (by kernel_rfl) (by kernel_rfl) (fun _ _ _ h => h) (Or.inl ⟨by rfl, by intro w; go_simp⟩) ?_
  try simp only [Act.put, List.setIfInBounds_toArray, List.set_cons_zero, List.set_cons_succ]
  refine any_take 49 68 (.pointer (some ⟨b, o + 11, none⟩)) rfl rfl (by kernel_rfl) (by kernel_rfl) (by kernel_rfl) (fun _ _ _ h => h) (Or.inl ⟨by rfl, by intro w; go_simp⟩) ?_
  try simp only [Act.put, List.setIfInBounds_toArray, List.set_cons_zero, List.set_cons_succ]
  refine any_take 50 69 (.pointer (some ⟨b, o + 12, none⟩)) rfl rfl (by kernel_rfl) (by kernel_rfl) (by kernel_rfl) (fun _ _ _ h => h) (Or.inl ⟨by rfl, by intro w; go_simp⟩) ?_
  try simp only [Act.put, List.setIfInBounds_toArray, List.set_cons_zero, List.set_cons_succ]
  refine any_take 52 71 (.pointer (some ⟨b, o + 11, none⟩)) rfl rfl (by kernel_rfl) (by kernel_rfl) (by kernel_rfl) (fun _ _ _ h => h) (Or.inl ⟨by rfl, by intro w; go_simp⟩) ?_
  try simp only [Act.put, List.setIfInBounds_toArray, List.set_cons_zero, List.set_cons_succ]
  refine any_take 53 72 (.pointer (some ⟨b, o + 11, none⟩)) rfl rfl (by kernel_rfl) (by kernel_rfl) (by kernel_rfl) (fun _ _ _ h => h) (Or.inl ⟨by rfl, by intro w; go_simp⟩) ?_
  try simp only [Act.put, List.setIfInBounds_toArray, List.set_cons_zero, List.set_cons_succ]
  refine any_take 54 73 (.pointer (some ⟨b, o + 13, none⟩)) rfl rfl (by kernel_rfl) (by kernel_rfl) (by kernel_rfl) (fun _ _ _ h => h) (Or.inl ⟨by rfl, by intro w; go_simp⟩) ?_
  try simp only [Act.put, List.setIfInBounds_toArray, List.set_cons_zero, List.set_cons_succ]
  refine any_take 56 75 (.pointer (some ⟨b, o + 11, none⟩)) rfl rfl (by kernel_rfl) (by kernel_rfl) (by kernel_rfl) (fun _ _ _ h => h) (Or.inl ⟨by rfl, by intro w; go_simp⟩) ?_
  try simp only [Act.put, List.setIfInBounds_toArray, List.set_cons_zero, List.set_cons_succ]
  refine any_take 57 76 (.pointer (some ⟨b, o + 11, none⟩)) rfl rfl (by kernel_rfl) (by kernel_rfl) (by kernel_rfl) (fun _ _ _ h => h) (Or.inl ⟨by rfl, by intro w; go_simp⟩) ?_
  try simp only [Act.put, List.setIfInBounds_toArray, List.set_cons_zero, List.set_cons_succ]
  refine any_take 58 77 (.pointer (some ⟨b, o + 14, none⟩)) rfl rfl (by kernel_rfl) (by kernel_rfl) (by kernel_rfl) (fun _ _ _ h => h) (Or.inl ⟨by rfl, by intro w; go_simp⟩) ?_
  try simp only [Act.put, List.setIfInBounds_toArray, List.set_cons_zero, List.set_cons_succ]
  refine any_take 60 79 (.pointer (some ⟨b, o + 15, none⟩)) rfl rfl (by kernel_rfl) (by kernel_rfl) (by kernel_rfl) (fun _ _ _ h => h) (Or.inl ⟨by rfl, by intro w; go_simp⟩) ?_
  try simp only [Act.put, List.setIfInBounds_toArray, List.set_cons_zero, List.set_cons_succ]
  refine any_take 61 80 (.pointer (some ⟨b, o + 15, none⟩)) rfl rfl (by kernel_rfl) (by kernel_rfl) (by kernel_rfl) (fun _ _ _ h => h) (Or.inl ⟨by rfl, by intro w; go_simp⟩) ?_
  try simp only [Act.put, List.setIfInBounds_toArray, List.set_cons_zero, List.set_cons_succ]
  refine any_take 62 81 (.pointer (some ⟨b, o + 15, none⟩)) rfl rfl (by kernel_rfl) (by kernel_rfl) (by kernel_rfl) (fun _ _ _ h => h) (Or.inl ⟨by rfl, by intro w; go_simp⟩) ?_
  try simp only [Act.put, List.setIfInBounds_toArray, List.set_cons_zero, List.set_cons_succ]
  refine any_take 64 83 (.pointer (some ⟨b, o + 15, none⟩)) rfl rfl (by kernel_rfl) (by kernel_rfl) (by kernel_rfl) (fun _ _ _ h => h) (Or.inl ⟨by rfl, by intro w; go_simp⟩) ?_
  try simp only [Act.put, List.setIfInBounds_toArray, List.set_cons_zero, List.set_cons_succ]
  refine any_take 65 84 (.pointer (some ⟨b, o + 15, none⟩)) rfl rfl (by kernel_rfl) (by kernel_rfl) (by kernel_rfl) (fun _ _ _ h => h) (Or.inl ⟨by rfl, by intro w; go_simp⟩) ?_
  try simp only [Act.put, List.setIfInBounds_toArray, List.set_cons_zero, List.set_cons_succ]
  refine any_take 66 85 (.pointer (some ⟨b, o + 16, none⟩)) rfl rfl (by kernel_rfl) (by kernel_rfl) (by kernel_rfl) (fun _ _ _ h => h) (Or.inl ⟨by rfl, by intro w; go_simp⟩) ?_
  try simp only [Act.put, List.setIfInBounds_toArray, List.set_cons_zero, List.set_cons_succ]
  refine any_take 68 87 (.pointer (some ⟨b, o + 15, none⟩)) rfl rfl (by kernel_rfl) (by kernel_rfl) (by kernel_rfl) (fun _ _ _ h => h) (Or.inl ⟨by rfl, by intro w; go_simp⟩) ?_
  try simp only [Act.put, List.setIfInBounds_toArray, List.set_cons_zero, List.set_cons_succ]
  refine any_take 69 88 (.pointer (some ⟨b, o + 15, none⟩)) rfl rfl (by kernel_rfl) (by kernel_rfl) (by kernel_rfl) (fun _ _ _ h => h) (Or.inl ⟨by rfl, by intro w; go_simp⟩) ?_
  try simp only [Act.put, List.setIfInBounds_toArray, List.set_cons_zero, List.set_cons_succ]
  refine any_take 70 89 (.pointer (some ⟨b, o + 17, none⟩)) rfl rfl (by kernel_rfl) (by kernel_rfl) (by kernel_rfl) (fun _ _ _ h => h) (Or.inl ⟨by rfl, by intro w; go_simp⟩) ?_
  try simp only [Act.put, List.setIfInBounds_toArray, List.set_cons_zero, List.set_cons_succ]
  refine any_take 72 91 (.pointer (some ⟨b, o + 15, none⟩)) rfl rfl (by kernel_rfl) (by kernel_rfl) (by kernel_rfl) (fun _ _ _ h => h) (Or.inl ⟨by rfl, by intro w; go_simp⟩) ?_
  try simp only [Act.put, List.setIfInBounds_toArray, List.set_cons_zero, List.set_cons_succ]
  refine any_take 73 92 (.pointer (some ⟨b, o + 15, none⟩)) rfl rfl (by kernel_rfl) (by kernel_rfl) (by kernel_rfl) (fun _ _ _ h => h) (Or.inl ⟨by rfl, by intro w; go_simp⟩) ?_
  try simp only [Act.put, List.setIfInBounds_toArray, List.set_cons_zero, List.set_cons_succ]
  refine any_take 74 93 (.pointer (some ⟨b, o + 18, none⟩)) rfl rfl (by kernel_rfl) (by kernel_rfl) (by kernel_rfl) (fun _ _ _ h => h) (Or.inl ⟨by rfl, by intro w; go_simp⟩) ?_
  try simp only [Act.put, List.setIfInBounds_toArray, List.set_cons_zero, List.set_cons_succ]
  refine wpAny_ready (rs := [3]) (by kernel_rfl) (by simp) ?_
  refine AllReady.cons rfl (fun K hK => ?_) AllReady.nil
  go_simp
  go_wp2_with (go_at_call 45; refine (text_any _ _).mono ?_; rintro e w1 ⟨rfl, hb1⟩; have g1 := (hb1.block w.heap.size s0).trans g0; have s1 := Nat.lt_of_lt_of_le s0 hb1.size; have B1 := B0.trans (hb1.mono (Nat.le_of_lt s0)); clear hb1 g0 s0 B0)
  refine wpAny_ready (rs := [7]) (by kernel_rfl) (by simp) ?_
  refine AllReady.cons rfl (fun K hK => ?_) AllReady.nil
  go_simp
  go_wp2_with (go_at_call 44; refine (number_any _ _).mono ?_; rintro e w2 ⟨rfl, hb2⟩; have g2 := (hb2.block w.heap.size s1).trans g1; have s2 := Nat.lt_of_lt_of_le s1 hb2.size; have B2 := B1.trans (hb2.mono (Nat.le_of_lt s1)); clear hb2 g1 s1 B1)
  refine wpAny_ready (rs := [11]) (by kernel_rfl) (by simp) ?_
  refine AllReady.cons rfl (fun K hK => ?_) AllReady.nil
  go_simp
  go_wp2_with (go_at_call 43; refine (small_any _ _).mono ?_; rintro e w3 ⟨rfl, hb3⟩; have g3 := (hb3.block w.heap.size s2).trans g2; have s3 := Nat.lt_of_lt_of_le s2 hb3.size; have B3 := B2.trans (hb3.mono (Nat.le_of_lt s2)); clear hb3 g2 s2 B2)
  refine wpAny_ready (rs := [15]) (by kernel_rfl) (by simp) ?_
  refine AllReady.cons rfl (fun K hK => ?_) AllReady.nil
  go_simp
  go_wp2_with (go_at_call 46; refine (truth_any _ _).mono ?_; rintro e w4 ⟨rfl, hb4⟩; have g4 := (hb4.block w.heap.size s3).trans g3; have s4 := Nat.lt_of_lt_of_le s3 hb4.size; have B4 := B3.trans (hb4.mono (Nat.le_of_lt s3)); clear hb4 g3 s3 B3)
  refine wpAny_ready (rs := [19]) (by kernel_rfl) (by simp) ?_
  refine AllReady.cons rfl (fun K hK => ?_) AllReady.nil
  go_simp
  go_wp2_with (go_at_call 43; refine (small_any _ _).mono ?_; rintro e w5 ⟨rfl, hb5⟩; have g5 := (hb5.block w.heap.size s4).trans g4; have s5 := Nat.lt_of_lt_of_le s4 hb5.size; have B5 := B4.trans (hb5.mono (Nat.le_of_lt s4)); clear hb5 g4 s4 B4)
  refine wpAny_ready (rs := [23]) (by kernel_rfl) (by simp) ?_
  refine AllReady.cons rfl (fun K hK => ?_) AllReady.nil
  go_simp
  go_wp2_with (go_at_call 44; refine (number_any _ _).mono ?_; rintro e w6 ⟨rfl, hb6⟩; have g6 := (hb6.block w.heap.size s5).trans g5; have s6 := Nat.lt_of_lt_of_le s5 hb6.size; have B6 := B5.trans (hb6.mono (Nat.le_of_lt s5)); clear hb6 g5 s5 B5)
  refine wpAny_ready (rs := [27]) (by kernel_rfl) (by simp) ?_
  refine AllReady.cons rfl (fun K hK => ?_) AllReady.nil
  go_simp
  go_wp2_with (go_at_call 44; refine (number_any _ _).mono ?_; rintro e w7 ⟨rfl, hb7⟩; have g7 := (hb7.block w.heap.size s6).trans g6; have s7 := Nat.lt_of_lt_of_le s6 hb7.size; have B7 := B6.trans (hb7.mono (Nat.le_of_lt s6)); clear hb7 g6 s6 B6)
  refine wpAny_ready (rs := [31]) (by kernel_rfl) (by simp) ?_
  refine AllReady.cons rfl (fun K hK => ?_) AllReady.nil
  go_simp
  go_wp2_with (go_at_call 43; refine (small_any _ _).mono ?_; rintro e w8 ⟨rfl, hb8⟩; have g8 := (hb8.block w.heap.size s7).trans g7; have s8 := Nat.lt_of_lt_of_le s7 hb8.size; have B8 := B7.trans (hb8.mono (Nat.le_of_lt s7)); clear hb8 g7 s7 B7)
  refine wpAny_ready (rs := [35]) (by kernel_rfl) (by simp) ?_
  refine AllReady.cons rfl (fun K hK => ?_) AllReady.nil
  go_simp
  go_wp2_with (go_at_call 47; refine (signed_any _ _).mono ?_; rintro e w9 ⟨rfl, hb9⟩; have g9 := (hb9.block w.heap.size s8).trans g8; have s9 := Nat.lt_of_lt_of_le s8 hb9.size; have B9 := B8.trans (hb9.mono (Nat.le_of_lt s8)); clear hb9 g8 s8 B8)
  refine wpAny_ready (rs := [39]) (by kernel_rfl) (by simp) ?_
  refine AllReady.cons rfl (fun K hK => ?_) AllReady.nil
  go_simp
  go_wp2_with (go_at_call 46; refine (truth_any _ _).mono ?_; rintro e w10 ⟨rfl, hb10⟩; have g10 := (hb10.block w.heap.size s9).trans g9; have s10 := Nat.lt_of_lt_of_le s9 hb10.size; have B10 := B9.trans (hb10.mono (Nat.le_of_lt s9)); clear hb10 g9 s9 B9)
  refine wpAny_ready (rs := [43]) (by kernel_rfl) (by simp) ?_
  refine AllReady.cons rfl (fun K hK => ?_) AllReady.nil
  go_simp
  go_wp2_with (go_at_call 47; refine (signed_any _ _).mono ?_; rintro e w11 ⟨rfl, hb11⟩; have g11 := (hb11.block w.heap.size s10).trans g10; have s11 := Nat.lt_of_lt_of_le s10 hb11.size; have B11 := B10.trans (hb11.mono (Nat.le_of_lt s10)); clear hb11 g10 s10 B10)
  refine wpAny_ready (rs := [47]) (by kernel_rfl) (by simp) ?_
  refine AllReady.cons rfl (fun K hK => ?_) AllReady.nil
  go_simp
  go_wp2_with (go_at_call 46; refine (truth_any _ _).mono ?_; rintro e w12 ⟨rfl, hb12⟩; have g12 := (hb12.block w.heap.size s11).trans g11; have s12 := Nat.lt_of_lt_of_le s11 hb12.size; have B12 := B11.trans (hb12.mono (Nat.le_of_lt s11)); clear hb12 g11 s11 B11)
  refine wpAny_ready (rs := [51]) (by kernel_rfl) (by simp) ?_
  refine AllReady.cons rfl (fun K hK => ?_) AllReady.nil
  go_simp
  go_wp2_with (go_at_call 47; refine (signed_any _ _).mono ?_; rintro e w13 ⟨rfl, hb13⟩; have g13 := (hb13.block w.heap.size s12).trans g12; have s13 := Nat.lt_of_lt_of_le s12 hb13.size; have B13 := B12.trans (hb13.mono (Nat.le_of_lt s12)); clear hb13 g12 s12 B12)
  refine wpAny_ready (rs := [55]) (by kernel_rfl) (by simp) ?_
  refine AllReady.cons rfl (fun K hK => ?_) AllReady.nil
  go_simp
  go_wp2_with (go_at_call 43; refine (small_any _ _).mono ?_; rintro e w14 ⟨rfl, hb14⟩; have g14 := (hb14.block w.heap.size s13).trans g13; have s14 := Nat.lt_of_lt_of_le s13 hb14.size; have B14 := B13.trans (hb14.mono (Nat.le_of_lt s13)); clear hb14 g13 s13 B13)
  refine wpAny_ready (rs := [59]) (by kernel_rfl) (by simp) ?_
  refine AllReady.cons rfl (fun K hK => ?_) AllReady.nil
  go_simp
  go_wp2_with (go_at_call 44; refine (number_any _ _).mono ?_; rintro e w15 ⟨rfl, hb15⟩; have g15 := (hb15.block w.heap.size s14).trans g14; have s15 := Nat.lt_of_lt_of_le s14 hb15.size; have B15 := B14.trans (hb15.mono (Nat.le_of_lt s14)); clear hb15 g14 s14 B14)
  refine wpAny_ready (rs := [63]) (by kernel_rfl) (by simp) ?_
  refine AllReady.cons rfl (fun K hK => ?_) AllReady.nil
  go_simp
  go_wp2_with (go_at_call 46; refine (truth_any _ _).mono ?_; rintro e w16 ⟨rfl, hb16⟩; have g16 := (hb16.block w.heap.size s15).trans g15; have s16 := Nat.lt_of_lt_of_le s15 hb16.size; have B16 := B15.trans (hb16.mono (Nat.le_of_lt s15)); clear hb16 g15 s15 B15)
  refine wpAny_ready (rs := [67]) (by kernel_rfl) (by simp) ?_
  refine AllReady.cons rfl (fun K hK => ?_) AllReady.nil
  go_simp
  go_wp2_with (go_at_call 47; refine (signed_any _ _).mono ?_; rintro e w17 ⟨rfl, hb17⟩; have g17 := (hb17.block w.heap.size s16).trans g16; have s17 := Nat.lt_of_lt_of_le s16 hb17.size; have B17 := B16.trans (hb17.mono (Nat.le_of_lt s16)); clear hb17 g16 s16 B16)
  refine wpAny_ready (rs := [71]) (by kernel_rfl) (by simp) ?_
  refine AllReady.cons rfl (fun K hK => ?_) AllReady.nil
  go_simp
  go_wp2_with (go_at_call 43; refine (small_any _ _).mono ?_; rintro e w18 ⟨rfl, hb18⟩; have g18 := (hb18.block w.heap.size s17).trans g17; have s18 := Nat.lt_of_lt_of_le s17 hb18.size; have B18 := B17.trans (hb18.mono (Nat.le_of_lt s17)); clear hb18 g17 s17 B17)
  refine wpAny_ready (rs := [75]) (by kernel_rfl) (by simp) ?_
  refine AllReady.cons rfl (fun K hK => ?_) AllReady.nil
  go_simp
  go_wp2_with (go_at_call 44; refine (number_any _ _).mono ?_; rintro e w19 ⟨rfl, hb19⟩; have g19 := (hb19.block w.heap.size s18).trans g18; have s19 := Nat.lt_of_lt_of_le s18 hb19.size; have B19 := B18.trans (hb19.mono (Nat.le_of_lt s18)); clear hb19 g18 s18 B18)
  refine any_take 76 95 (.agg #[.int .i64 3, .pointer none, .pointer none, .pointer (some ⟨b, o, none⟩), .pointer none, .int .i64 1, .pointer none, .pointer (some ⟨b, o + 1, none⟩), .pointer none, .pointer none, .int .i64 1, .pointer (some ⟨b, o + 2, none⟩), .pointer none, .pointer none, .pointer none, .int .i64 4, .pointer none, .pointer none, .pointer none, .pointer (some ⟨b, o + 3, none⟩), .int .i64 1, .pointer (some ⟨b, o + 4, none⟩), .pointer none, .pointer none, .pointer none, .int .i64 1, .pointer none, .pointer (some ⟨b, o + 5, none⟩), .pointer none, .pointer none, .int .i64 1, .pointer none, .pointer (some ⟨b, o + 6, none⟩), .pointer none, .pointer none, .int .i64 1, .pointer (some ⟨b, o + 7, none⟩), .pointer none, .pointer none, .pointer none, .int .i64 2, .pointer none, .pointer (some ⟨b, o + 8, none⟩), .pointer none, .pointer none, .int .i64 4, .pointer none, .pointer none, .pointer none, .pointer (some ⟨b, o + 9, none⟩), .int .i64 2, .pointer none, .pointer (some ⟨b, o + 10, none⟩), .pointer none, .pointer none, .int .i64 4, .pointer none, .pointer none, .pointer none, .pointer (some ⟨b, o + 11, none⟩), .int .i64 2, .pointer none, .pointer (some ⟨b, o + 12, none⟩), .pointer none, .pointer none, .int .i64 1, .pointer (some ⟨b, o + 13, none⟩), .pointer none, .pointer none, .pointer none, .int .i64 1, .pointer none, .pointer (some ⟨b, o + 14, none⟩), .pointer none, .pointer none, .int .i64 4, .pointer none, .pointer none, .pointer none, .pointer (some ⟨b, o + 15, none⟩), .int .i64 2, .pointer none, .pointer (some ⟨b, o + 16, none⟩), .pointer none, .pointer none, .int .i64 1, .pointer (some ⟨b, o + 17, none⟩), .pointer none, .pointer none, .pointer none, .int .i64 1, .pointer none, .pointer (some ⟨b, o + 18, none⟩), .pointer none, .pointer none]) rfl rfl (by kernel_rfl) (by kernel_rfl) (by kernel_rfl) (fun _ _ _ h => h) (Or.inl ⟨by rfl, by intro w; go_simp; kernel_rfl⟩) ?_
  try simp only [Act.put, List.setIfInBounds_toArray, List.set_cons_zero, List.set_cons_succ]
  refine wpAny_ready (rs := [77]) (by kernel_rfl) (by simp) ?_
  refine AllReady.cons rfl (fun K hK => ?_) AllReady.nil
  refine wp_store_row 75 _ _ rfl w.heap.size #[.int .i64 3, .pointer none, .pointer none, .pointer (some ⟨b, o, none⟩), .pointer none, .int .i64 1, .pointer none, .pointer (some ⟨b, o + 1, none⟩), .pointer none, .pointer none, .int .i64 1, .pointer (some ⟨b, o + 2, none⟩), .pointer none, .pointer none, .pointer none, .int .i64 4, .pointer none, .pointer none, .pointer none, .pointer (some ⟨b, o + 3, none⟩), .int .i64 1, .pointer (some ⟨b, o + 4, none⟩), .pointer none, .pointer none, .pointer none, .int .i64 1, .pointer none, .pointer (some ⟨b, o + 5, none⟩), .pointer none, .pointer none, .int .i64 1, .pointer none, .pointer (some ⟨b, o + 6, none⟩), .pointer none, .pointer none, .int .i64 1, .pointer (some ⟨b, o + 7, none⟩), .pointer none, .pointer none, .pointer none, .int .i64 2, .pointer none, .pointer (some ⟨b, o + 8, none⟩), .pointer none, .pointer none, .int .i64 4, .pointer none, .pointer none, .pointer none, .pointer (some ⟨b, o + 9, none⟩), .int .i64 2, .pointer none, .pointer (some ⟨b, o + 10, none⟩), .pointer none, .pointer none, .int .i64 4, .pointer none, .pointer none, .pointer none, .pointer (some ⟨b, o + 11, none⟩), .int .i64 2, .pointer none, .pointer (some ⟨b, o + 12, none⟩), .pointer none, .pointer none, .int .i64 1, .pointer (some ⟨b, o + 13, none⟩), .pointer none, .pointer none, .pointer none, .int .i64 1, .pointer none, .pointer (some ⟨b, o + 14, none⟩), .pointer none, .pointer none, .int .i64 4, .pointer none, .pointer none, .pointer none, .pointer (some ⟨b, o + 15, none⟩), .int .i64 2, .pointer none, .pointer (some ⟨b, o + 16, none⟩), .pointer none, .pointer none, .int .i64 1, .pointer (some ⟨b, o + 17, none⟩), .pointer none, .pointer none, .pointer none, .int .i64 1, .pointer none, .pointer (some ⟨b, o + 18, none⟩), .pointer none, .pointer none] rfl rfl 75 Z g19 (by kernel_rfl) hZs (by simp [Value.oneCell']) ?_
  refine hK _ _ ?_
  refine wpAny_done (by kernel_rfl) ?_ _
  go_wp2
  refine bodyPost_ret (results_cell_row rfl _ _ w.heap.size 75 #[.int .i64 3, .pointer none, .pointer none, .pointer (some ⟨b, o, none⟩), .pointer none, .int .i64 1, .pointer none, .pointer (some ⟨b, o + 1, none⟩), .pointer none, .pointer none, .int .i64 1, .pointer (some ⟨b, o + 2, none⟩), .pointer none, .pointer none, .pointer none, .int .i64 4, .pointer none, .pointer none, .pointer none, .pointer (some ⟨b, o + 3, none⟩), .int .i64 1, .pointer (some ⟨b, o + 4, none⟩), .pointer none, .pointer none, .pointer none, .int .i64 1, .pointer none, .pointer (some ⟨b, o + 5, none⟩), .pointer none, .pointer none, .int .i64 1, .pointer none, .pointer (some ⟨b, o + 6, none⟩), .pointer none, .pointer none, .int .i64 1, .pointer (some ⟨b, o + 7, none⟩), .pointer none, .pointer none, .pointer none, .int .i64 2, .pointer none, .pointer (some ⟨b, o + 8, none⟩), .pointer none, .pointer none, .int .i64 4, .pointer none, .pointer none, .pointer none, .pointer (some ⟨b, o + 9, none⟩), .int .i64 2, .pointer none, .pointer (some ⟨b, o + 10, none⟩), .pointer none, .pointer none, .int .i64 4, .pointer none, .pointer none, .pointer none, .pointer (some ⟨b, o + 11, none⟩), .int .i64 2, .pointer none, .pointer (some ⟨b, o + 12, none⟩), .pointer none, .pointer none, .int .i64 1, .pointer (some ⟨b, o + 13, none⟩), .pointer none, .pointer none, .pointer none, .int .i64 1, .pointer none, .pointer (some ⟨b, o + 14, none⟩), .pointer none, .pointer none, .int .i64 4, .pointer none, .pointer none, .pointer none, .pointer (some ⟨b, o + 15, none⟩), .int .i64 2, .pointer none, .pointer (some ⟨b, o + 16, none⟩), .pointer none, .pointer none, .int .i64 1, .pointer (some ⟨b, o + 17, none⟩), .pointer none, .pointer none, .pointer none, .int .i64 1, .pointer none, .pointer (some ⟨b, o + 18, none⟩), .pointer none, .pointer none] (0, 0) _ rfl (setRow_at s19 g19 _) Tryd.underlying75 rfl (by kernel_rfl)) rfl ⟨rfl, ?_⟩
  exact setRow_below B19 g19 _

end Go.Proofs.YticmjlnpjopfbabDoor

namespace Go.Proofs.YticmjlnpjopfbabDoor
open Go.ChangeShapes Go.WideShapes Go.ChangeAt Go.RowKit
open C (Fld)
set_option linter.unusedVariables false

structure Slt where
  kd : Int
  q1 : Option Addr
  q2 : Option Addr
  q3 : Option Addr
  q4 : Option Addr
def Slt.v (s : Slt) : Value := .agg #[.int .i64 s.kd, .pointer s.q1, .pointer s.q2, .pointer s.q3, .pointer s.q4]
def slS (a : Addr) : Slt := ⟨1, some a, none, none, none⟩
def slN (a : Addr) : Slt := ⟨1, none, some a, none, none⟩
def slG (a : Addr) : Slt := ⟨2, none, some a, none, none⟩
def slT (a : Addr) : Slt := ⟨3, none, none, some a, none⟩
def slB (a : Addr) : Slt := ⟨4, none, none, none, some a⟩
def hdS (pb cb : Nat) : List Slt := [slS ⟨pb, 0, none⟩, slS ⟨pb, 1, none⟩, slS ⟨pb, 2, none⟩, slN ⟨pb, 3, none⟩, slN ⟨pb, 4, none⟩, slN ⟨pb, 5, none⟩, slN ⟨pb, 6, none⟩, slS ⟨cb, 0, none⟩]
def itS (b o : Nat) : List Slt := [slT ⟨b, o, none⟩, slN ⟨b, o + 1, none⟩, slS ⟨b, o + 2, none⟩, slB ⟨b, o + 3, none⟩, slS ⟨b, o + 4, none⟩, slN ⟨b, o + 5, none⟩, slN ⟨b, o + 6, none⟩, slS ⟨b, o + 7, none⟩, slG ⟨b, o + 8, none⟩, slB ⟨b, o + 9, none⟩, slG ⟨b, o + 10, none⟩, slB ⟨b, o + 11, none⟩, slG ⟨b, o + 12, none⟩, slS ⟨b, o + 13, none⟩, slN ⟨b, o + 14, none⟩, slB ⟨b, o + 15, none⟩, slG ⟨b, o + 16, none⟩, slS ⟨b, o + 17, none⟩, slN ⟨b, o + 18, none⟩]
def hdA (pb cb : Nat) : Array Value := #[.int .i64 1, .pointer (some ⟨pb, 0, none⟩), .pointer none, .pointer none, .pointer none, .int .i64 1, .pointer (some ⟨pb, 1, none⟩), .pointer none, .pointer none, .pointer none, .int .i64 1, .pointer (some ⟨pb, 2, none⟩), .pointer none, .pointer none, .pointer none, .int .i64 1, .pointer none, .pointer (some ⟨pb, 3, none⟩), .pointer none, .pointer none, .int .i64 1, .pointer none, .pointer (some ⟨pb, 4, none⟩), .pointer none, .pointer none, .int .i64 1, .pointer none, .pointer (some ⟨pb, 5, none⟩), .pointer none, .pointer none, .int .i64 1, .pointer none, .pointer (some ⟨pb, 6, none⟩), .pointer none, .pointer none, .int .i64 1, .pointer (some ⟨cb, 0, none⟩), .pointer none, .pointer none, .pointer none]
def itA (b o : Nat) : Array Value := #[.int .i64 3, .pointer none, .pointer none, .pointer (some ⟨b, o, none⟩), .pointer none, .int .i64 1, .pointer none, .pointer (some ⟨b, o + 1, none⟩), .pointer none, .pointer none, .int .i64 1, .pointer (some ⟨b, o + 2, none⟩), .pointer none, .pointer none, .pointer none, .int .i64 4, .pointer none, .pointer none, .pointer none, .pointer (some ⟨b, o + 3, none⟩), .int .i64 1, .pointer (some ⟨b, o + 4, none⟩), .pointer none, .pointer none, .pointer none, .int .i64 1, .pointer none, .pointer (some ⟨b, o + 5, none⟩), .pointer none, .pointer none, .int .i64 1, .pointer none, .pointer (some ⟨b, o + 6, none⟩), .pointer none, .pointer none, .int .i64 1, .pointer (some ⟨b, o + 7, none⟩), .pointer none, .pointer none, .pointer none, .int .i64 2, .pointer none, .pointer (some ⟨b, o + 8, none⟩), .pointer none, .pointer none, .int .i64 4, .pointer none, .pointer none, .pointer none, .pointer (some ⟨b, o + 9, none⟩), .int .i64 2, .pointer none, .pointer (some ⟨b, o + 10, none⟩), .pointer none, .pointer none, .int .i64 4, .pointer none, .pointer none, .pointer none, .pointer (some ⟨b, o + 11, none⟩), .int .i64 2, .pointer none, .pointer (some ⟨b, o + 12, none⟩), .pointer none, .pointer none, .int .i64 1, .pointer (some ⟨b, o + 13, none⟩), .pointer none, .pointer none, .pointer none, .int .i64 1, .pointer none, .pointer (some ⟨b, o + 14, none⟩), .pointer none, .pointer none, .int .i64 4, .pointer none, .pointer none, .pointer none, .pointer (some ⟨b, o + 15, none⟩), .int .i64 2, .pointer none, .pointer (some ⟨b, o + 16, none⟩), .pointer none, .pointer none, .int .i64 1, .pointer (some ⟨b, o + 17, none⟩), .pointer none, .pointer none, .pointer none, .int .i64 1, .pointer none, .pointer (some ⟨b, o + 18, none⟩), .pointer none, .pointer none]
theorem hdS_len (pb cb : Nat) : (hdS pb cb).length = 8 := rfl
theorem itS_len (b o : Nat) : (itS b o).length = 19 := rfl

theorem head_slots (pb cb : Nat) (w : World) : Calls Tryd.prog 31 #[.pointer (some ⟨pb, 0, none⟩), .pointer (some ⟨cb, 0, none⟩)] w fun e w' => e = .returned (.agg (hdA pb cb)) ∧ Below w.heap.size w w' := head_any pb cb w
theorem parts_slots (b o : Nat) (w : World) : Calls Tryd.prog 32 #[.pointer (some ⟨b, o, none⟩)] w fun e w' => e = .returned (.agg (itA b o)) ∧ Below w.heap.size w w' := parts_any b o w

theorem hd_ix (pb cb : Nat) : ∀ (j : Nat) (s : Slt), (hdS pb cb)[j]? = some s → ∀ w, (Instr.index 73 (.agg (hdA pb cb)) (.int .i64 (j : Int))).run Tryd.prog w = .ok s.v w := by
  intro j s hs w
  have hj : j < 8 := (List.getElem?_eq_some_iff.1 hs).1
  match j, hj with
  | 0, _ => cases hs; show _ = _; kernel_rfl
  | 1, _ => cases hs; show _ = _; kernel_rfl
  | 2, _ => cases hs; show _ = _; kernel_rfl
  | 3, _ => cases hs; show _ = _; kernel_rfl
  | 4, _ => cases hs; show _ = _; kernel_rfl
  | 5, _ => cases hs; show _ = _; kernel_rfl
  | 6, _ => cases hs; show _ = _; kernel_rfl
  | 7, _ => cases hs; show _ = _; kernel_rfl
theorem it_ix (b o : Nat) : ∀ (j : Nat) (s : Slt), (itS b o)[j]? = some s → ∀ w, (Instr.index 75 (.agg (itA b o)) (.int .i64 (j : Int))).run Tryd.prog w = .ok s.v w := by
  intro j s hs w
  have hj : j < 19 := (List.getElem?_eq_some_iff.1 hs).1
  match j, hj with
  | 0, _ => cases hs; show _ = _; kernel_rfl
  | 1, _ => cases hs; show _ = _; kernel_rfl
  | 2, _ => cases hs; show _ = _; kernel_rfl
  | 3, _ => cases hs; show _ = _; kernel_rfl
  | 4, _ => cases hs; show _ = _; kernel_rfl
  | 5, _ => cases hs; show _ = _; kernel_rfl
  | 6, _ => cases hs; show _ = _; kernel_rfl
  | 7, _ => cases hs; show _ = _; kernel_rfl
  | 8, _ => cases hs; show _ = _; kernel_rfl
  | 9, _ => cases hs; show _ = _; kernel_rfl
  | 10, _ => cases hs; show _ = _; kernel_rfl
  | 11, _ => cases hs; show _ = _; kernel_rfl
  | 12, _ => cases hs; show _ = _; kernel_rfl
  | 13, _ => cases hs; show _ = _; kernel_rfl
  | 14, _ => cases hs; show _ = _; kernel_rfl
  | 15, _ => cases hs; show _ = _; kernel_rfl
  | 16, _ => cases hs; show _ = _; kernel_rfl
  | 17, _ => cases hs; show _ = _; kernel_rfl
  | 18, _ => cases hs; show _ = _; kernel_rfl

/-- A slot's cell, and the field that lies there. -/
def SlotAt (W : World) (s : Slt) (f : Fld) : Prop :=
  (∃ (b o : Nat) (x : Int), s = slS ⟨b, o, none⟩ ∧ f = ⟨1, x, ⟨#[]⟩, false⟩ ∧ b < W.heap.size ∧ W.cell? ⟨b, o, none⟩ = some (.int .i64 x)) ∨
  (∃ (b o : Nat) (x : Int), s = slN ⟨b, o, none⟩ ∧ f = ⟨1, x, ⟨#[]⟩, false⟩ ∧ b < W.heap.size ∧ W.cell? ⟨b, o, none⟩ = some (.int .i64 x)) ∨
  (∃ (b o : Nat) (x : Int), s = slG ⟨b, o, none⟩ ∧ f = ⟨2, x, ⟨#[]⟩, false⟩ ∧ b < W.heap.size ∧ W.cell? ⟨b, o, none⟩ = some (.int .i64 x)) ∨
  (∃ (b o : Nat) (x : ByteArray), s = slT ⟨b, o, none⟩ ∧ f = ⟨3, 0, x, false⟩ ∧ b < W.heap.size ∧ W.cell? ⟨b, o, none⟩ = some (.string x)) ∨
  (∃ (b o : Nat) (x : Bool), s = slB ⟨b, o, none⟩ ∧ f = ⟨4, 0, ⟨#[]⟩, x⟩ ∧ b < W.heap.size ∧ W.cell? ⟨b, o, none⟩ = some (.bool x))
theorem SlotAt.small {W : World} (b o : Nat) (x : Int) (h : b < W.heap.size) (c : W.cell? ⟨b, o, none⟩ = some (.int .i64 x)) : SlotAt W (slS ⟨b, o, none⟩) ⟨1, x, ⟨#[]⟩, false⟩ := .inl ⟨b, o, x, rfl, rfl, h, c⟩
theorem SlotAt.num {W : World} (b o : Nat) (x : Int) (h : b < W.heap.size) (c : W.cell? ⟨b, o, none⟩ = some (.int .i64 x)) : SlotAt W (slN ⟨b, o, none⟩) ⟨1, x, ⟨#[]⟩, false⟩ := .inr (.inl ⟨b, o, x, rfl, rfl, h, c⟩)
theorem SlotAt.sgn {W : World} (b o : Nat) (x : Int) (h : b < W.heap.size) (c : W.cell? ⟨b, o, none⟩ = some (.int .i64 x)) : SlotAt W (slG ⟨b, o, none⟩) ⟨2, x, ⟨#[]⟩, false⟩ := .inr (.inr (.inl ⟨b, o, x, rfl, rfl, h, c⟩))
theorem SlotAt.text {W : World} (b o : Nat) (x : ByteArray) (h : b < W.heap.size) (c : W.cell? ⟨b, o, none⟩ = some (.string x)) : SlotAt W (slT ⟨b, o, none⟩) ⟨3, 0, x, false⟩ := .inr (.inr (.inr (.inl ⟨b, o, x, rfl, rfl, h, c⟩)))
theorem SlotAt.truth {W : World} (b o : Nat) (x : Bool) (h : b < W.heap.size) (c : W.cell? ⟨b, o, none⟩ = some (.bool x)) : SlotAt W (slB ⟨b, o, none⟩) ⟨4, 0, ⟨#[]⟩, x⟩ := .inr (.inr (.inr (.inr (⟨b, o, x, rfl, rfl, h, c⟩))))
theorem SlotAt.below {W W' : World} {s : Slt} {f : Fld} (h : SlotAt W s f) (hb : Below W.heap.size W W') : SlotAt W' s f := by
  rcases h with ⟨b, o, x, rfl, rfl, h, c⟩ | ⟨b, o, x, rfl, rfl, h, c⟩ | ⟨b, o, x, rfl, rfl, h, c⟩ | ⟨b, o, x, rfl, rfl, h, c⟩ | ⟨b, o, x, rfl, rfl, h, c⟩
  · exact SlotAt.small b o x (Nat.lt_of_lt_of_le h hb.size) ((hb.cell (p := ⟨b, o, none⟩) h).trans c)
  · exact SlotAt.num b o x (Nat.lt_of_lt_of_le h hb.size) ((hb.cell (p := ⟨b, o, none⟩) h).trans c)
  · exact SlotAt.sgn b o x (Nat.lt_of_lt_of_le h hb.size) ((hb.cell (p := ⟨b, o, none⟩) h).trans c)
  · exact SlotAt.text b o x (Nat.lt_of_lt_of_le h hb.size) ((hb.cell (p := ⟨b, o, none⟩) h).trans c)
  · exact SlotAt.truth b o x (Nat.lt_of_lt_of_le h hb.size) ((hb.cell (p := ⟨b, o, none⟩) h).trans c)
theorem field_slot {s : Slt} {f : Fld} {w : World} (h : SlotAt w s f) : Calls Tryd.prog 18 #[s.v] w fun e w' => e = .returned (C.fv f.kind f.num f.text f.is) ∧ Below w.heap.size w w' := by
  rcases h with ⟨b, o, x, rfl, rfl, h, c⟩ | ⟨b, o, x, rfl, rfl, h, c⟩ | ⟨b, o, x, rfl, rfl, h, c⟩ | ⟨b, o, x, rfl, rfl, h, c⟩ | ⟨b, o, x, rfl, rfl, h, c⟩
  · exact field_small b o x w h c
  · exact field_num b o x w h c
  · exact field_sgn b o x w h c
  · exact field_text b o x w h c
  · exact field_truth b o x w h c

/-- Fields as they lie in a packet. -/
def gN (x : Int) : Fld := ⟨1, x, ⟨#[]⟩, false⟩
def hdG (p : Pkt) (n : Nat) : List Fld := [gN p.kind, gN p.src, gN p.dst, gN p.boot, gN p.life, gN p.echo, gN p.echoLife, gN (n : Int)]
def itG (x : Itm) : List Fld := [tF x.name, gN x.epoch, gN x.maker, bF x.alive, gN x.kind, gN x.scale, gN x.ver, gN x.writer, sF x.flow, bF x.hasRest, sF x.rest, bF x.mn.has, sF x.mn.value, gN x.mn.origin, gN x.mn.age, bF x.mx.has, sF x.mx.value, gN x.mx.origin, gN x.mx.age]

theorem slot_it {W : World} {b o : Nat} {x : Itm} (hb : b < W.heap.size) (h : ItAt W b o x) : ∀ (j : Nat) (s : Slt), (itS b o)[j]? = some s → ∃ f, (itG x)[j]? = some f ∧ SlotAt W s f := by
  intro j s hs
  have hj : j < 19 := (List.getElem?_eq_some_iff.1 hs).1
  match j, hj with
  | 0, _ => cases hs; exact ⟨_, rfl, SlotAt.text b (o) _ hb (h 0 _ rfl)⟩
  | 1, _ => cases hs; exact ⟨_, rfl, SlotAt.num b (o + 1) _ hb (h 1 _ rfl)⟩
  | 2, _ => cases hs; exact ⟨_, rfl, SlotAt.small b (o + 2) _ hb (h 2 _ rfl)⟩
  | 3, _ => cases hs; exact ⟨_, rfl, SlotAt.truth b (o + 3) _ hb (h 3 _ rfl)⟩
  | 4, _ => cases hs; exact ⟨_, rfl, SlotAt.small b (o + 4) _ hb (h 4 _ rfl)⟩
  | 5, _ => cases hs; exact ⟨_, rfl, SlotAt.num b (o + 5) _ hb (h 5 _ rfl)⟩
  | 6, _ => cases hs; exact ⟨_, rfl, SlotAt.num b (o + 6) _ hb (h 6 _ rfl)⟩
  | 7, _ => cases hs; exact ⟨_, rfl, SlotAt.small b (o + 7) _ hb (h 7 _ rfl)⟩
  | 8, _ => cases hs; exact ⟨_, rfl, SlotAt.sgn b (o + 8) _ hb (h 8 _ rfl)⟩
  | 9, _ => cases hs; exact ⟨_, rfl, SlotAt.truth b (o + 9) _ hb (h 9 _ rfl)⟩
  | 10, _ => cases hs; exact ⟨_, rfl, SlotAt.sgn b (o + 10) _ hb (h 10 _ rfl)⟩
  | 11, _ => cases hs; exact ⟨_, rfl, SlotAt.truth b (o + 11) _ hb (h 11 _ rfl)⟩
  | 12, _ => cases hs; exact ⟨_, rfl, SlotAt.sgn b (o + 12) _ hb (h 12 _ rfl)⟩
  | 13, _ => cases hs; exact ⟨_, rfl, SlotAt.small b (o + 13) _ hb (h 13 _ rfl)⟩
  | 14, _ => cases hs; exact ⟨_, rfl, SlotAt.num b (o + 14) _ hb (h 14 _ rfl)⟩
  | 15, _ => cases hs; exact ⟨_, rfl, SlotAt.truth b (o + 15) _ hb (h 15 _ rfl)⟩
  | 16, _ => cases hs; exact ⟨_, rfl, SlotAt.sgn b (o + 16) _ hb (h 16 _ rfl)⟩
  | 17, _ => cases hs; exact ⟨_, rfl, SlotAt.small b (o + 17) _ hb (h 17 _ rfl)⟩
  | 18, _ => cases hs; exact ⟨_, rfl, SlotAt.num b (o + 18) _ hb (h 18 _ rfl)⟩
/-- A packet lies there. -/
def pkc (p : Pkt) (a : Option Addr) (len cap : Nat) : List Value := [.int .i64 p.kind, .int .i64 p.src, .int .i64 p.dst, .int .i64 p.boot, .int .i64 p.life, .int .i64 p.echo, .int .i64 p.echoLife, .slice a len cap]
def PkAt (W : World) (pb : Nat) (p : Pkt) (a : Option Addr) (len cap : Nat) : Prop := ∀ j v, (pkc p a len cap)[j]? = some v → W.cell? ⟨pb, j, none⟩ = some v
theorem PkAt.lt {W : World} {pb : Nat} {p : Pkt} {a : Option Addr} {len cap : Nat} (h : PkAt W pb p a len cap) : pb < W.heap.size := by
  have h0 := h 0 _ rfl
  rcases Nat.lt_or_ge pb W.heap.size with k | k
  · exact k
  · simp [World.cell?, Array.getElem?_eq_none k] at h0
theorem PkAt.of_block {W W' : World} {pb : Nat} {p : Pkt} {a : Option Addr} {len cap : Nat} (h : PkAt W pb p a len cap) (hb : W'.heap[pb]? = W.heap[pb]?) : PkAt W' pb p a len cap :=
  fun j v hj => (World.cell?_of_block (a := ⟨pb, j, none⟩) hb).trans (h j v hj)
theorem PkAt.below {W W' : World} {pb : Nat} {p : Pkt} {a : Option Addr} {len cap : Nat} (h : PkAt W pb p a len cap) (hb : Below W.heap.size W W') : PkAt W' pb p a len cap := h.of_block (hb.block pb h.lt)
theorem pkAt_new (w : World) (p : Pkt) (a : Option Addr) (len cap : Nat) : PkAt (w.alloc (pkObj p a len cap)) w.heap.size p a len cap := by
  intro j v hj
  rw [cell_of_row _ _ _ _ 24 _ (World.alloc_heap_new w _)]
  simpa [pkc] using hj
theorem slot_hd {W : World} {pb cb : Nat} {p : Pkt} {a : Option Addr} {len cap n : Nat} (h : PkAt W pb p a len cap) (hc : cb < W.heap.size) (c : W.cell? ⟨cb, 0, none⟩ = some (.int .i64 (n : Int))) :
    ∀ (j : Nat) (s : Slt), (hdS pb cb)[j]? = some s → ∃ f, (hdG p n)[j]? = some f ∧ SlotAt W s f := by
  intro j s hs
  have hp := h.lt
  have hj : j < 8 := (List.getElem?_eq_some_iff.1 hs).1
  match j, hj with
  | 0, _ => cases hs; exact ⟨_, rfl, SlotAt.small pb 0 _ hp (h 0 _ rfl)⟩
  | 1, _ => cases hs; exact ⟨_, rfl, SlotAt.small pb 1 _ hp (h 1 _ rfl)⟩
  | 2, _ => cases hs; exact ⟨_, rfl, SlotAt.small pb 2 _ hp (h 2 _ rfl)⟩
  | 3, _ => cases hs; exact ⟨_, rfl, SlotAt.num pb 3 _ hp (h 3 _ rfl)⟩
  | 4, _ => cases hs; exact ⟨_, rfl, SlotAt.num pb 4 _ hp (h 4 _ rfl)⟩
  | 5, _ => cases hs; exact ⟨_, rfl, SlotAt.num pb 5 _ hp (h 5 _ rfl)⟩
  | 6, _ => cases hs; exact ⟨_, rfl, SlotAt.num pb 6 _ hp (h 6 _ rfl)⟩
  | 7, _ => cases hs; exact ⟨_, rfl, SlotAt.small cb 0 _ hc c⟩
end Go.Proofs.YticmjlnpjopfbabDoor
