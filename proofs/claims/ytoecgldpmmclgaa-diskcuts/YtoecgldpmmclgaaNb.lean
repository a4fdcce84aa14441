/-
  A disk that was not made; the law DiskNobody, walked.
-/
import Derived.Test.YtoecgldpmmclgaaAw
namespace Go.Proofs.Ytoecgldpmmclgaa
open Go.ChangeShapes Go.WideShapes Go.ChangeAt Go.RowKit
set_option linter.unusedVariables false
set_option linter.unusedSimpArgs false

abbrev zero51 : Obj := .cells #[.bool false, .int .i64 0, .bool false, .slice none 0 0, .int .i64 0] 51 (0, 0)
/-- None, or a plain one. -/
def NoD (w : World) (v : Value) : Prop := v = .pointer none ∨ ∃ d, v = .pointer (some ⟨d, 0, none⟩) ∧ w.heap[d]? = some zero51
theorem NoD.below {w w' : World} {v : Value} (h : NoD w v) (b : Below w.heap.size w w') : NoD w' v := h.imp id fun ⟨d, e, hh⟩ => ⟨d, e, (b.block d (row_lt hh)).trans hh⟩
set_option maxHeartbeats 1000000 in
theorem given_no (v : Value) (w : World) (h : NoD w v) : Calls Try.prog 29 #[v] w fun e w' => e = .returned (.bool false) ∧ w' = w := by
  rcases h with rfl | ⟨d, rfl, hh⟩
  · go_enter Try.func29, Try.ntmps29
    go_wp2
    go_ret
    exact ⟨rfl, rfl⟩
  · have c3 := row_cell hh 3 (.slice none 0 0) rfl
    go_enter Try.func29, Try.ntmps29
    go_wp2
    go_ret
    exact ⟨rfl, rfl⟩
set_option maxHeartbeats 1000000 in
theorem dead_no (v : Value) (w : World) (h : NoD w v) : Calls Try.prog 15 #[v] w fun e w' => e = .returned (.bool true) ∧ w' = w := by
  go_enter Try.func15, Try.ntmps15
  go_wp2_with (go_at_call 29; refine (given_no v _ h).mono ?_; rintro e w1 ⟨rfl, hw⟩; rw [hw]; clear hw)
  go_ret
  exact ⟨rfl, rfl⟩
set_option maxHeartbeats 1000000 in
theorem writes_no (v : Value) (w : World) (h : NoD w v) : Calls Try.prog 16 #[v] w fun e w' => e = .returned (.int .i64 0) ∧ w' = w := by
  go_enter Try.func16, Try.ntmps16
  go_wp2_with (go_at_call 29; refine (given_no v _ h).mono ?_; rintro e w1 ⟨rfl, hw⟩; rw [hw]; clear hw)
  go_ret
  exact ⟨rfl, rfl⟩
set_option maxHeartbeats 1000000 in
theorem sectors_no (v : Value) (w : World) (h : NoD w v) : Calls Try.prog 21 #[v] w fun e w' => e = .returned (.int .i64 0) ∧ w' = w := by
  go_enter Try.func21, Try.ntmps21
  go_wp2_with (go_at_call 29; refine (given_no v _ h).mono ?_; rintro e w1 ⟨rfl, hw⟩; rw [hw]; clear hw)
  go_ret
  exact ⟨rfl, rfl⟩
set_option maxHeartbeats 1000000 in
theorem image_no (v : Value) (w : World) (h : NoD w v) : Calls Try.prog 13 #[v] w fun e w' => e = .returned (.slice none 0 0) ∧ w' = w := by
  go_enter Try.func13, Try.ntmps13
  go_wp2_with (go_at_call 29; refine (given_no v _ h).mono ?_; rintro e w1 ⟨rfl, hw⟩; rw [hw]; clear hw)
  go_ret
  exact ⟨rfl, rfl⟩
set_option maxHeartbeats 1000000 in
theorem cut_no (v : Value) (x : Int) (w : World) (h : NoD w v) : Calls Try.prog 17 #[v, .int .i64 x] w fun e w' => e = .returned (.tuple #[]) ∧ w' = w := by
  go_enter Try.func17, Try.ntmps17
  go_wp2_with (go_at_call 29; refine (given_no v _ h).mono ?_; rintro e w1 ⟨rfl, hw⟩; rw [hw]; clear hw)
  exact bodyPost_end (v := .tuple #[]) (by simp [results, Try.results17, go_sem]) rfl ⟨rfl, rfl⟩
set_option maxHeartbeats 1000000 in
theorem on_no (v : Value) (w : World) (h : NoD w v) : Calls Try.prog 19 #[v] w fun e w' => e = .returned (.tuple #[]) ∧ w' = w := by
  go_enter Try.func19, Try.ntmps19
  go_wp2_with (go_at_call 29; refine (given_no v _ h).mono ?_; rintro e w1 ⟨rfl, hw⟩; rw [hw]; clear hw)
  exact bodyPost_end (v := .tuple #[]) (by simp [results, Try.results19, go_sem]) rfl ⟨rfl, rfl⟩
set_option maxHeartbeats 1000000 in
theorem who_no (v : Value) (w : World) (h : NoD w v) : Calls Try.prog 31 #[v] w fun e w' => e = .returned (.iface 64 (.agg #[])) ∧ w' = w := by
  go_enter Try.func31, Try.ntmps31
  go_wp2_with (go_at_call 15; refine (dead_no v _ h).mono ?_; rintro e w1 ⟨rfl, hw⟩; rw [hw]; clear hw)
  go_ret
  exact ⟨rfl, rfl⟩
set_option maxHeartbeats 1000000 in
theorem read_nob (v : Value) (x : Int) (w : World) (h : NoD w v) : Calls Try.prog 20 #[v, .int .i64 x] w fun e w' => e = .returned (.tuple #[.slice none 0 0, .int .i64 32]) ∧ Below w.heap.size w w' := by
  go_enter Try.func20, Try.ntmps20
  go_wp2_with (first
    | (go_at_call 31; refine (who_no v _ h).mono ?_; rintro e w1 ⟨rfl, hw⟩; rw [hw]; clear hw)
    | (go_at_call 49; refine (offread_any x _).mono ?_; rintro e w2 ⟨rfl, b2⟩))
  go_ret2
  exact ⟨rfl, b2⟩
set_option maxHeartbeats 1000000 in
theorem write_nob (v : Value) (x : Int) (u : Value) (w : World) (h : NoD w v) : Calls Try.prog 18 #[v, .int .i64 x, u] w fun e w' => e = .returned (.int .i64 32) ∧ Below w.heap.size w w' := by
  go_enter Try.func18, Try.ntmps18
  go_wp2_with (first
    | (go_at_call 31; refine (who_no v _ h).mono ?_; rintro e w1 ⟨rfl, hw⟩; rw [hw]; clear hw)
    | (go_at_call 50; refine (offwrite_any x u _).mono ?_; rintro e w2 ⟨rfl, b2⟩))
  go_ret
  exact ⟨rfl, b2⟩
abbrev act3 (kd nn : Int) (a : Option Addr) (len cap : Nat) : Value := .agg #[.int .i64 kd, .int .i64 nn, .slice a len cap]
abbrev actC (kd nn : Int) (a : Option Addr) (len cap : Nat) : Obj := .cells #[.int .i64 kd, .int .i64 nn, .slice a len cap] 30 (0, 0)
theorem actC_at {w : World} {g : Nat} {kd nn : Int} {a : Option Addr} {len cap : Nat} (h : w.heap[g]? = some (actC kd nn a len cap)) : w.cell? ⟨g, 1, none⟩ = some (.int .i64 nn) ∧ w.cell? ⟨g, 2, none⟩ = some (.slice a len cap) := ⟨row_cell h 1 _ rfl, row_cell h 2 _ rfl⟩
set_option maxRecDepth 100000 in
set_option maxHeartbeats 4000000 in
theorem nobody_walk (zero : Bool) (kd nn : Int) (a : Option Addr) (len cap : Nat) (w : World) : Calls Try.prog 6 #[.bool zero, act3 kd nn a len cap] w fun e w' => e = .returned (.bool true) ∧ Below w.heap.size w w' := by
  have X0 : (w.alloc (actC kd nn a len cap)).heap[w.heap.size]? = some (actC kd nn a len cap) := World.alloc_heap_new _ _
  have B0 : Below w.heap.size w (w.alloc (actC kd nn a len cap)) := (Below.refl _ _).alloc (Nat.le_refl _) _
  cases zero with
  | false =>
    obtain ⟨x1, x2⟩ := actC_at X0
    have ND : NoD (w.alloc (actC kd nn a len cap)) (.pointer none) := .inl rfl
    go_enter Try.func6, Try.ntmps6
    go_wp2_with (first
      | (go_at_call 17; refine (cut_no _ nn _ ND).mono ?_; rintro e w1 ⟨rfl, hw⟩; rw [hw]; clear hw)
      | (go_at_call 19; refine (on_no _ _ ND).mono ?_; rintro e w1 ⟨rfl, hw⟩; rw [hw]; clear hw)
      | (go_at_call 20; refine (read_nob _ nn _ ND).mono ?_; rintro e w2 ⟨rfl, b2⟩; obtain ⟨y1, y2⟩ := actC_at ((b2.block _ (row_lt X0)).trans X0); have N2 := ND.below b2)
      | (go_at_call 18; refine (write_nob _ nn _ _ N2).mono ?_; rintro e w3 ⟨rfl, b3⟩; have N3 := N2.below b3; have B3 := B0.trans ((b2.trans (b3.mono b2.size)).mono B0.size))
      | (go_at_call 15; refine (dead_no _ _ N3).mono ?_; rintro e w4 ⟨rfl, hw⟩; rw [hw]; clear hw)
      | (go_at_call 21; refine (sectors_no _ _ N3).mono ?_; rintro e w4 ⟨rfl, hw⟩; rw [hw]; clear hw)
      | (go_at_call 16; refine (writes_no _ _ N3).mono ?_; rintro e w4 ⟨rfl, hw⟩; rw [hw]; clear hw)
      | (go_at_call 13; refine (image_no _ _ N3).mono ?_; rintro e w4 ⟨rfl, hw⟩; rw [hw]; clear hw)
      | (go_at_call 9; refine (awake_any _).mono ?_; rintro e w5 ⟨rfl, b5⟩))
    go_ret
    exact ⟨rfl, B3.trans (b5.mono B3.size)⟩
  | true =>
    have Z0 : ((w.alloc (actC kd nn a len cap)).alloc zero51).heap[w.heap.size + 1]? = some zero51 := by have := World.alloc_heap_new (w.alloc (actC kd nn a len cap)) zero51; rw [World.size_alloc] at this; exact this
    have X1 : ((w.alloc (actC kd nn a len cap)).alloc zero51).heap[w.heap.size]? = some (actC kd nn a len cap) := (Below.heap_alloc _ _ _ (row_lt X0)).trans X0
    have B1 : Below w.heap.size w ((w.alloc (actC kd nn a len cap)).alloc zero51) := B0.alloc B0.size _
    obtain ⟨x1, x2⟩ := actC_at X1
    have ND : NoD ((w.alloc (actC kd nn a len cap)).alloc zero51) (.pointer (some ⟨w.heap.size + 1, 0, none⟩)) := .inr ⟨_, rfl, Z0⟩
    go_enter Try.func6, Try.ntmps6
    go_wp2_with (first
      | (go_at_call 17; refine (cut_no _ nn _ ND).mono ?_; rintro e w1 ⟨rfl, hw⟩; rw [hw]; clear hw)
      | (go_at_call 19; refine (on_no _ _ ND).mono ?_; rintro e w1 ⟨rfl, hw⟩; rw [hw]; clear hw)
      | (go_at_call 20; refine (read_nob _ nn _ ND).mono ?_; rintro e w2 ⟨rfl, b2⟩; obtain ⟨y1, y2⟩ := actC_at ((b2.block _ (row_lt X1)).trans X1); have N2 := ND.below b2)
      | (go_at_call 18; refine (write_nob _ nn _ _ N2).mono ?_; rintro e w3 ⟨rfl, b3⟩; have N3 := N2.below b3; have B3 := B1.trans ((b2.trans (b3.mono b2.size)).mono B1.size))
      | (go_at_call 15; refine (dead_no _ _ N3).mono ?_; rintro e w4 ⟨rfl, hw⟩; rw [hw]; clear hw)
      | (go_at_call 21; refine (sectors_no _ _ N3).mono ?_; rintro e w4 ⟨rfl, hw⟩; rw [hw]; clear hw)
      | (go_at_call 16; refine (writes_no _ _ N3).mono ?_; rintro e w4 ⟨rfl, hw⟩; rw [hw]; clear hw)
      | (go_at_call 13; refine (image_no _ _ N3).mono ?_; rintro e w4 ⟨rfl, hw⟩; rw [hw]; clear hw)
      | (go_at_call 9; refine (awake_any _).mono ?_; rintro e w5 ⟨rfl, b5⟩))
    go_ret
    exact ⟨rfl, B3.trans (b5.mono B3.size)⟩
end Go.Proofs.Ytoecgldpmmclgaa
