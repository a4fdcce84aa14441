/-
  The law BagNobody, walked up to the examples behind it.
-/
import Derived.Test.YtoppecppmjpgiaaBgN
namespace Go.Proofs.Ytoppecppmjpgiaa
open Go.ChangeShapes Go.WideShapes Go.ChangeAt Go.RowKit Go.Maps
set_option linter.unusedVariables false
set_option linter.unusedSimpArgs false

structure Hid (p : Prop) : Prop where
  out : p
abbrev act5 (kd nn x y : Int) (s : ByteArray) : Value := .agg #[.int .i64 kd, .int .i64 nn, .int .i64 x, .int .i64 y, .string s]
abbrev actC (kd nn x y : Int) (s : ByteArray) : Obj := .cells #[.int .i64 kd, .int .i64 nn, .int .i64 x, .int .i64 y, .string s] 40 (0, 0)
theorem actC_at {w : World} {g : Nat} {kd nn x y : Int} {s : ByteArray} (h : w.heap[g]? = some (actC kd nn x y s)) : w.cell? ⟨g, 1, none⟩ = some (.int .i64 nn) ∧ w.cell? ⟨g, 2, none⟩ = some (.int .i64 x) ∧ w.cell? ⟨g, 3, none⟩ = some (.int .i64 y) ∧ w.cell? ⟨g, 4, none⟩ = some (.string s) := ⟨row_cell h 1 _ rfl, row_cell h 2 _ rfl, row_cell h 3 _ rfl, row_cell h 4 _ rfl⟩
structure Nob (w : World) (g : Nat) (kd nn x y : Int) (s : ByteArray) (v : Value) (W : World) : Prop where
  act : W.heap[g]? = some (actC kd nn x y s)
  no : NoB W v
  below : Below w.heap.size w W
theorem Nob.later {w : World} {g : Nat} {kd nn x y : Int} {s : ByteArray} {v : Value} {W W' : World} (h : Nob w g kd nn x y s v W) (b : Below W.heap.size W W') : Nob w g kd nn x y s v W' :=
  ⟨(b.block _ (row_lt h.act)).trans h.act, h.no.below b, h.below.trans (b.mono h.below.size)⟩
def Awake : Prop := ∀ w, Calls Try.prog 10 #[] w fun e w' => e = .returned (.bool true) ∧ Below w.heap.size w w'
set_option maxRecDepth 100000 in
set_option maxHeartbeats 8000000 in
theorem nobody_walk (AW : Awake) (zero : Bool) (kd nn x y : Int) (s : ByteArray) (w : World) : Calls Try.prog 6 #[.bool zero, act5 kd nn x y s] w fun e w' => e = .returned (.bool true) ∧ Below w.heap.size w w' := by
  have X0 : (w.alloc (actC kd nn x y s)).heap[w.heap.size]? = some (actC kd nn x y s) := World.alloc_heap_new _ _
  have B0 : Below w.heap.size w (w.alloc (actC kd nn x y s)) := (Below.refl _ _).alloc (Nat.le_refl _) _
  cases zero with
  | false =>
    have N0 : Nob w w.heap.size kd nn x y s (.pointer none) (w.alloc (actC kd nn x y s)) := ⟨X0, .inl rfl, B0⟩
    go_enter Try.func6, Try.ntmps6
    go_wp2
    obtain ⟨v, hv⟩ : ∃ v, Value.pointer none = v := ⟨_, rfl⟩
    rw [hv] at N0
    go_loopg [6] 2 (fun g v6 wr => ∃ i : Nat, v6 = .int .i64 (i : Int) ∧ i + g = 2 ∧ Hid (Nob w w.heap.size kd nn x y s (Value.pointer none) wr))
    case atStart => exact ⟨0, rfl, by omega, ⟨by rw [hv]; exact N0⟩⟩
    case round =>
      obtain ⟨i, rfl, hg, HN⟩ := hrel
      have N := HN.out
      obtain ⟨x1, x2, x3, x4⟩ := actC_at N.act
      by_cases hi : i < 2
      · have hiI : (i : Int) < 2 := by omega
        clear hv N0
        go_wp2_with (first
          | (go_at_call 16; refine (put_no (Value.pointer none) _ _ _ _ N.no).mono ?_; rintro e w1 ⟨rfl, hw⟩; rw [hw]; clear hw)
          | (go_at_call 17; refine (double_no (Value.pointer none) nn _ N.no).mono ?_; rintro e w2 ⟨rfl, b2⟩; have N2 := N.later b2; obtain ⟨y1, y2, y3, y4⟩ := actC_at N2.act)
          | (go_at_call 18; refine (take_no (Value.pointer none) nn _ N2.no).mono ?_; rintro e w3 ⟨rfl, b3⟩; have N3 := N2.later b3; have N4 := N3.later (b := (Below.refl _ _).alloc (Nat.le_refl _) (.cells #[.int .i64 0, .int .i64 0, .int .i64 0, .string { data := #[] }] 33)); obtain ⟨z1, z2, z3, z4⟩ := actC_at N4.act)
          | (go_at_call 20; refine (between_no (Value.pointer none) _ _ _ N4.no).mono ?_; rintro e w5 ⟨rfl, hw⟩; rw [hw]; clear hw)
          | (go_at_call 19; refine (sever_no (Value.pointer none) _ _ _ N4.no).mono ?_; rintro e w5 ⟨rfl, hw⟩; rw [hw]; clear hw)
          | (go_at_call 21; refine (mend_no (Value.pointer none) _ _ _ N4.no).mono ?_; rintro e w5 ⟨rfl, hw⟩; rw [hw]; clear hw)
          | (go_at_call 22; refine (forget_no (Value.pointer none) y _ N4.no).mono ?_; rintro e w6 ⟨rfl, b6⟩; have N6 := N4.later b6)
          | (go_at_call 14; refine (len_no (Value.pointer none) _ N6.no).mono ?_; rintro e w7 ⟨rfl, hw⟩; rw [hw]; clear hw)
          | (go_at_call 12; refine (state_no (Value.pointer none) _ N6.no).mono ?_; rintro e w7 ⟨rfl, b7⟩; have N7 := N6.later b7)
          | (go_at_call 13; refine (same_zero _).mono ?_; rintro e w8 ⟨rfl, b8⟩; have N8 := N7.later b8))
        go_roundg (gk - 1)
        case measure => omega
        case rel => exact ⟨i + 1, by go_num, by omega, ⟨N8⟩⟩
      · obtain rfl : i = 2 := by omega
        go_wp2_with (go_at_call 10; refine (AW _).mono ?_; rintro e w6 ⟨rfl, b6⟩)
        go_ret
        exact ⟨rfl, (N.later b6).below⟩
  | true =>
    have N0 : Nob w w.heap.size kd nn x y s (.pointer (some ⟨w.heap.size + 1, 0, none⟩)) ((w.alloc (actC kd nn x y s)).alloc (.cells #[.int .i64 0, .slice none 0 0, .map none] 61)) := ⟨(Below.heap_alloc _ _ _ (row_lt X0)).trans X0, .inr ⟨_, rfl, heap_new (by simp)⟩, B0.alloc B0.size _⟩
    go_enter Try.func6, Try.ntmps6
    go_wp2
    obtain ⟨v, hv⟩ : ∃ v, Value.pointer (some ⟨w.heap.size + 1, 0, none⟩) = v := ⟨_, rfl⟩
    rw [hv] at N0
    go_loopg [6] 2 (fun g v6 wr => ∃ i : Nat, v6 = .int .i64 (i : Int) ∧ i + g = 2 ∧ Hid (Nob w w.heap.size kd nn x y s (Value.pointer (some ⟨w.heap.size + 1, 0, none⟩)) wr))
    case atStart => exact ⟨0, rfl, by omega, ⟨by rw [hv]; exact N0⟩⟩
    case round =>
      obtain ⟨i, rfl, hg, HN⟩ := hrel
      have N := HN.out
      obtain ⟨x1, x2, x3, x4⟩ := actC_at N.act
      by_cases hi : i < 2
      · have hiI : (i : Int) < 2 := by omega
        clear hv N0
        go_wp2_with (first
          | (go_at_call 16; refine (put_no (Value.pointer (some ⟨w.heap.size + 1, 0, none⟩)) _ _ _ _ N.no).mono ?_; rintro e w1 ⟨rfl, hw⟩; rw [hw]; clear hw)
          | (go_at_call 17; refine (double_no (Value.pointer (some ⟨w.heap.size + 1, 0, none⟩)) nn _ N.no).mono ?_; rintro e w2 ⟨rfl, b2⟩; have N2 := N.later b2; obtain ⟨y1, y2, y3, y4⟩ := actC_at N2.act)
          | (go_at_call 18; refine (take_no (Value.pointer (some ⟨w.heap.size + 1, 0, none⟩)) nn _ N2.no).mono ?_; rintro e w3 ⟨rfl, b3⟩; have N3 := N2.later b3; have N4 := N3.later (b := (Below.refl _ _).alloc (Nat.le_refl _) (.cells #[.int .i64 0, .int .i64 0, .int .i64 0, .string { data := #[] }] 33)); obtain ⟨z1, z2, z3, z4⟩ := actC_at N4.act)
          | (go_at_call 20; refine (between_no (Value.pointer (some ⟨w.heap.size + 1, 0, none⟩)) _ _ _ N4.no).mono ?_; rintro e w5 ⟨rfl, hw⟩; rw [hw]; clear hw)
          | (go_at_call 19; refine (sever_no (Value.pointer (some ⟨w.heap.size + 1, 0, none⟩)) _ _ _ N4.no).mono ?_; rintro e w5 ⟨rfl, hw⟩; rw [hw]; clear hw)
          | (go_at_call 21; refine (mend_no (Value.pointer (some ⟨w.heap.size + 1, 0, none⟩)) _ _ _ N4.no).mono ?_; rintro e w5 ⟨rfl, hw⟩; rw [hw]; clear hw)
          | (go_at_call 22; refine (forget_no (Value.pointer (some ⟨w.heap.size + 1, 0, none⟩)) y _ N4.no).mono ?_; rintro e w6 ⟨rfl, b6⟩; have N6 := N4.later b6)
          | (go_at_call 14; refine (len_no (Value.pointer (some ⟨w.heap.size + 1, 0, none⟩)) _ N6.no).mono ?_; rintro e w7 ⟨rfl, hw⟩; rw [hw]; clear hw)
          | (go_at_call 12; refine (state_no (Value.pointer (some ⟨w.heap.size + 1, 0, none⟩)) _ N6.no).mono ?_; rintro e w7 ⟨rfl, b7⟩; have N7 := N6.later b7)
          | (go_at_call 13; refine (same_zero _).mono ?_; rintro e w8 ⟨rfl, b8⟩; have N8 := N7.later b8))
        go_roundg (gk - 1)
        case measure => omega
        case rel => exact ⟨i + 1, by go_num, by omega, ⟨N8⟩⟩
      · obtain rfl : i = 2 := by omega
        go_wp2_with (go_at_call 10; refine (AW _).mono ?_; rintro e w6 ⟨rfl, b6⟩)
        go_ret
        exact ⟨rfl, (N.later b6).below⟩
end Go.Proofs.Ytoppecppmjpgiaa
