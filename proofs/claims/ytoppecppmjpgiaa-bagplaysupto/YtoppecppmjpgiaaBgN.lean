/-
  A bag that was not made.
-/
import Derived.Test.YtoppecppmjpgiaaBg1
namespace Go.Proofs.Ytoppecppmjpgiaa
open Go.ChangeShapes Go.WideShapes Go.ChangeAt Go.RowKit Go.Maps
set_option linter.unusedVariables false
set_option linter.unusedSimpArgs false

/-- None, or a plain one. -/
def NoB (w : World) (v : Value) : Prop := v = .pointer none ∨ ∃ d, v = .pointer (some ⟨d, 0, none⟩) ∧ w.heap[d]? = some (.cells #[.int .i64 0, .slice none 0 0, .map none] 61 (0, 0))
theorem NoB.below {w w' : World} {v : Value} (h : NoB w v) (b : Below w.heap.size w w') : NoB w' v := h.imp id fun ⟨d, e, hh⟩ => ⟨d, e, (b.block d (row_lt hh)).trans hh⟩
set_option maxHeartbeats 1000000 in
theorem given_no (v : Value) (w : World) (h : NoB w v) : Calls Try.prog 34 #[v] w fun e w' => e = .returned (.bool false) ∧ w' = w := by
  have q59 := neq59
  rcases h with rfl | ⟨d, rfl, hh⟩
  · go_enter Try.func34, Try.ntmps34
    go_wp2
    go_ret
    exact ⟨rfl, rfl⟩
  · have c2 := row_cell hh 2 (.map none) rfl
    go_enter Try.func34, Try.ntmps34
    go_wp2
    go_ret
    exact ⟨rfl, rfl⟩
set_option maxHeartbeats 1000000 in
theorem len_no (v : Value) (w : World) (h : NoB w v) : Calls Try.prog 14 #[v] w fun e w' => e = .returned (.int .i64 0) ∧ w' = w := by
  go_enter Try.func14, Try.ntmps14
  go_wp2_with (go_at_call 34; refine (given_no v _ h).mono ?_; rintro e w1 ⟨rfl, hw⟩; rw [hw]; clear hw)
  go_ret
  exact ⟨rfl, rfl⟩
set_option maxHeartbeats 1000000 in
theorem put_no (v x y z : Value) (w : World) (h : NoB w v) : Calls Try.prog 16 #[v, x, y, z] w fun e w' => e = .returned (.tuple #[.int .i64 0, .int .i64 30]) ∧ w' = w := by
  go_enter Try.func16, Try.ntmps16
  go_wp2_with (go_at_call 34; refine (given_no v _ h).mono ?_; rintro e w1 ⟨rfl, hw⟩; rw [hw]; clear hw)
  go_ret2
  exact ⟨rfl, rfl⟩
set_option maxHeartbeats 1000000 in
theorem sever_no (v x y : Value) (w : World) (h : NoB w v) : Calls Try.prog 19 #[v, x, y] w fun e w' => e = .returned (.int .i64 0) ∧ w' = w := by
  go_enter Try.func19, Try.ntmps19
  go_wp2_with (go_at_call 34; refine (given_no v _ h).mono ?_; rintro e w1 ⟨rfl, hw⟩; rw [hw]; clear hw)
  go_ret
  exact ⟨rfl, rfl⟩
set_option maxHeartbeats 1000000 in
theorem between_no (v x y : Value) (w : World) (h : NoB w v) : Calls Try.prog 20 #[v, x, y] w fun e w' => e = .returned (.slice none 0 0) ∧ w' = w := by
  go_enter Try.func20, Try.ntmps20
  go_wp2_with (go_at_call 34; refine (given_no v _ h).mono ?_; rintro e w1 ⟨rfl, hw⟩; rw [hw]; clear hw)
  go_ret
  exact ⟨rfl, rfl⟩
set_option maxHeartbeats 1000000 in
theorem mend_no (v x y : Value) (w : World) (h : NoB w v) : Calls Try.prog 21 #[v, x, y] w fun e w' => e = .returned (.bool false) ∧ w' = w := by
  go_enter Try.func21, Try.ntmps21
  go_wp2_with (go_at_call 34; refine (given_no v _ h).mono ?_; rintro e w1 ⟨rfl, hw⟩; rw [hw]; clear hw)
  go_ret
  exact ⟨rfl, rfl⟩
set_option maxHeartbeats 1000000 in
theorem forget_no (v : Value) (x : Int) (w : World) (h : NoB w v) : Calls Try.prog 22 #[v, .int .i64 x] w fun e w' => e = .returned (.int .i64 0) ∧ Below w.heap.size w w' := by
  have B1 : Below w.heap.size w (w.alloc (.cells #[.int .i64 x] 3)) := (Below.refl _ _).alloc (Nat.le_refl _) _
  go_enter Try.func22, Try.ntmps22
  go_wp2_with (go_at_call 34; refine (given_no v _ (h.below B1)).mono ?_; rintro e w1 ⟨rfl, hw⟩; rw [hw]; clear hw)
  go_ret
  exact ⟨rfl, B1⟩
theorem load_one {P : Program} {w : World} {g : Nat} {v : Value} (ty : TypeId) {d : TypeDesc} (hu : P.underlying ty = some d) (hd : (match d with | .struct _ | .array _ _ => true | _ => false) = false) (hc : w.cell? ⟨g, 0, none⟩ = some v) : (loadVar ty ⟨g, 0, none⟩).run P w = .ok v w := by
  have hagg : (isAgg ty).run P w = .ok false w := by
    unfold isAgg
    rw [Sem.run_bind, run_underlying hu w]
    cases d <;> first | rfl | cases hd
  simp [loadVar, Sem.run_bind, hagg, hc, go_sem]
theorem load_2 {w : World} {g : Nat} {x : Int} (h : w.heap[g]? = some (.cells #[.int .i64 x] 2 (0, 0))) : (loadVar 2 ⟨g, 0, none⟩).run Try.prog w = .ok (.int .i64 x) w := load_one 2 Try.underlying2 rfl (row_cell h 0 _ rfl)
theorem load_46 {w : World} {g : Nat} {x : Int} (h : w.heap[g]? = some (.cells #[.int .i64 x] 46 (0, 0))) : (loadVar 46 ⟨g, 0, none⟩).run Try.prog w = .ok (.int .i64 x) w := load_one 46 Try.underlying46 rfl (row_cell h 0 _ rfl)
theorem load_33 {w : World} {g : Nat} {d : DG} (h : w.heap[g]? = some (.cells d.cells.toArray 33 (0, 0))) : (loadVar 33 ⟨g, 0, none⟩).run Try.prog w = .ok (dgv d) w :=
  run_loadVar_row (P := Try.prog) w g 33 33 _ (0, 0) _ h Try.underlying33 rfl (by show _ = some 4; kernel_rfl)
theorem load_25 {w : World} {g : Nat} {a b c : Value} (h : w.heap[g]? = some (.cells #[a, b, c] 25 (0, 0))) : (loadVar 25 ⟨g, 0, none⟩).run Try.prog w = .ok (.agg #[a, b, c]) w :=
  run_loadVar_row (P := Try.prog) w g 25 25 _ (0, 0) _ h Try.underlying25 rfl (by show _ = some 3; kernel_rfl)
theorem results_two {P : Program} {fn : Func} {p q : Tmp} {t u : TypeId} (h : fn.results = #[.cell p t, .cell q u]) (tmps : Array Value) (w : World) (g k : Nat) (v z : Value)
    (hp : tmps.getD p undef = .pointer (some ⟨g, 0, none⟩)) (hq : tmps.getD q undef = .pointer (some ⟨k, 0, none⟩)) (h1 : (loadVar t ⟨g, 0, none⟩).run P w = .ok v w) (h2 : (loadVar u ⟨k, 0, none⟩).run P w = .ok z w) :
    (results fn tmps).run P w = .ok (.tuple #[v, z]) w := by
  have hp' : tmps[p]?.getD undef = .pointer (some ⟨g, 0, none⟩) := by simpa using hp
  have hq' : tmps[q]?.getD undef = .pointer (some ⟨k, 0, none⟩) := by simpa using hq
  simp [results, h, hp', hq', asAddr, h1, h2]
theorem heap_new {W : World} {o : Obj} {k : Nat} (hk : k = W.heap.size) : (W.alloc o).heap[k]? = some o := by subst hk; exact World.alloc_heap_new _ _
abbrev dg0 : DG := ⟨0, 0, 0, ByteArray.empty⟩
theorem NoB.one {w : World} {v : Value} (h : NoB w v) : ∃ a, v = .pointer a := by
  rcases h with rfl | ⟨d, rfl, _⟩
  · exact ⟨_, rfl⟩
  · exact ⟨_, rfl⟩
set_option maxHeartbeats 1000000 in
theorem double_no (v : Value) (x : Int) (w : World) (h : NoB w v) : Calls Try.prog 17 #[v, .int .i64 x] w fun e w' => e = .returned (.tuple #[.int .i64 0, .int .i64 30]) ∧ Below w.heap.size w w' := by
  obtain ⟨p, rfl⟩ := h.one
  have B1 : Below w.heap.size w ((((w.alloc (.cells #[.pointer p] 28)).alloc (.cells #[.int .i64 x] 2)).alloc (.cells #[.int .i64 0] 2)).alloc (.cells #[.int .i64 0] 46)) := (((((Below.refl _ _).alloc (Nat.le_refl _) _).alloc (by simp) _).alloc (by simp; omega) _).alloc (by simp; omega) _)
  have B2 : Below w.heap.size w ((((w.alloc (.cells #[.pointer p] 28)).alloc (.cells #[.int .i64 x] 2)).alloc (.cells #[.int .i64 0] 2)).alloc (.cells #[.int .i64 30] 46)) := (((((Below.refl _ _).alloc (Nat.le_refl _) _).alloc (by simp) _).alloc (by simp; omega) _).alloc (by simp; omega) _)
  have N := h.below B1
  go_enter Try.func17, Try.ntmps17
  go_wp2_with (go_at_call 34; refine (given_no _ _ N).mono ?_; rintro e w1 ⟨rfl, hw⟩; rw [hw]; clear hw)
  refine bodyPost_ret (results_two rfl _ _ (w.heap.size + 1 + 1) (w.heap.size + 1 + 1 + 1) _ _ rfl rfl (load_2 (x := 0) ?_) (load_46 (x := 30) ?_)) rfl ⟨rfl, B2⟩
  · exact (Below.heap_alloc _ _ _ (by simp)).trans (heap_new (by simp))
  · exact heap_new (by simp)
set_option maxHeartbeats 1000000 in
theorem take_no (v : Value) (x : Int) (w : World) (h : NoB w v) : Calls Try.prog 18 #[v, .int .i64 x] w fun e w' => e = .returned (.tuple #[.agg #[.int .i64 0, .int .i64 0, .int .i64 0, .string { data := #[] }], .int .i64 31]) ∧ Below w.heap.size w w' := by
  obtain ⟨p, rfl⟩ := h.one
  have B1 : Below w.heap.size w ((((w.alloc (.cells #[.pointer p] 28)).alloc (.cells #[.int .i64 x] 2)).alloc (.cells #[.int .i64 0, .int .i64 0, .int .i64 0, .string { data := #[] }] 33)).alloc (.cells #[.int .i64 0] 46)) := (((((Below.refl _ _).alloc (Nat.le_refl _) _).alloc (by simp) _).alloc (by simp; omega) _).alloc (by simp; omega) _)
  have B2 : Below w.heap.size w ((((w.alloc (.cells #[.pointer p] 28)).alloc (.cells #[.int .i64 x] 2)).alloc (.cells #[.int .i64 0, .int .i64 0, .int .i64 0, .string { data := #[] }] 33)).alloc (.cells #[.int .i64 31] 46)) := (((((Below.refl _ _).alloc (Nat.le_refl _) _).alloc (by simp) _).alloc (by simp; omega) _).alloc (by simp; omega) _)
  have N := h.below B1
  go_enter Try.func18, Try.ntmps18
  go_wp2_with (go_at_call 34; refine (given_no _ _ N).mono ?_; rintro e w1 ⟨rfl, hw⟩; rw [hw]; clear hw)
  refine bodyPost_ret (results_two rfl _ _ (w.heap.size + 1 + 1) (w.heap.size + 1 + 1 + 1) _ _ rfl rfl (load_33 (d := ⟨0, 0, 0, { data := #[] }⟩) ?_) (load_46 (x := 31) ?_)) rfl ⟨rfl, B2⟩
  · exact (Below.heap_alloc _ _ _ (by simp)).trans (heap_new (by simp))
  · exact heap_new (by simp)
abbrev mail0 : Value := .agg #[.int .i64 0, .slice none 0 0, .slice none 0 0]
set_option maxHeartbeats 1000000 in
theorem state_no (v : Value) (w : World) (h : NoB w v) : Calls Try.prog 12 #[v] w fun e w' => e = .returned mail0 ∧ Below w.heap.size w w' := by
  have B1 : Below w.heap.size w (w.alloc (.cells #[.int .i64 0, .slice none 0 0, .slice none 0 0] 25)) := (Below.refl _ _).alloc (Nat.le_refl _) _
  have N := h.below B1
  go_enter Try.func12, Try.ntmps12
  go_wp2_with (go_at_call 34; refine (given_no _ _ N).mono ?_; rintro e w1 ⟨rfl, hw⟩; rw [hw]; clear hw)
  exact bodyPost_ret (results_row1 rfl _ _ w.heap.size _ rfl (load_25 (World.alloc_heap_new _ _))) rfl ⟨rfl, B1⟩
set_option maxHeartbeats 1000000 in
theorem same_zero (w : World) : Calls Try.prog 13 #[mail0, mail0] w fun e w' => e = .returned (.bool true) ∧ Below w.heap.size w w' := by
  go_enter Try.func13, Try.ntmps13
  go_wp2
  go_rounds 1
  go_rounds 1
  go_ret
  refine ⟨rfl, ?_⟩
  exact ((Below.refl _ _).alloc (Nat.le_refl _) _).alloc (by simp) _
end Go.Proofs.Ytoppecppmjpgiaa
