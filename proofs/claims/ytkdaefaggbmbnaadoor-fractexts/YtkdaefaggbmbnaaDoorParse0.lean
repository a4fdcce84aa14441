/-
  What Parse returns, by what the library tells of the two parts.
-/
import Derived.Test.YtkdaefaggbmbnaaDoorPint2
namespace Go.Proofs.YtkdaefaggbmbnaaDoor
open Go.ChangeShapes Go.WideShapes Go.ChangeAt Go.RowKit
set_option linter.unusedVariables false
set_option linter.unusedSimpArgs false

set_option maxRecDepth 100000 in
set_option maxHeartbeats 2000000 in
theorem parse_c_yes (s top low : ByteArray) (a b : Int) (w : World) (HC : ∀ W, Calls Tryd.prog 17 #[.string s, .string ⟨#[47]⟩] W fun e w' => e = .returned (.tuple #[.string top, .string low, .bool true]) ∧ Below W.heap.size W w') (HT : ∀ W, Calls Tryd.prog 18 #[.string top, .int .i64 10, .int .i64 64] W fun e w' => e = .returned (.tuple #[.int .i64 a, .nilIface]) ∧ Below W.heap.size W w') (HL : ∀ W, Calls Tryd.prog 18 #[.string low, .int .i64 10, .int .i64 64] W fun e w' => e = .returned (.tuple #[.int .i64 b, .nilIface]) ∧ Below W.heap.size W w') (ht : Tab w) (hS : Sent w) (ha : I64 a) (hb : I64 b) (hv : validB a b = true) (hx : txt a b = s) :
    Calls Tryd.prog 6 #[.string s] w fun e w' => e = .returned (.tuple #[fr a b, .bool true]) ∧ Below w.heap.size w w' := by
  have HV := fun W => valid_any a b W ha.1 ha.2 hb.1 hb.2
  rw [hv] at HV
  have HX := fun W h => text_any a b W ha hb h
  rw [hx] at HX
  clear hv hx
  go_enter Tryd.func6, Tryd.ntmps6
  go_wp2_with (first
    | (go_at_call 17; refine (HC _).mono ?_; rintro e w1 ⟨rfl, hb1⟩; have T1 := (Two.new w (.int .i64 0) (.int .i64 0) 23).below hb1; obtain ⟨q0, q1, f0, f1, z⟩ := id T1; have hB1 : Below w.heap.size w w1 := Below.trans (by go_grown) (hb1.mono (by simp)); clear HC hb1)
    | (go_at_call 18; refine (HT _).mono ?_; rintro e w2 ⟨rfl, hb2⟩; have T2 := T1.below hb2; have hB2 : Below w.heap.size w w2 := hB1.trans (hb2.mono hB1.size); clear HT hb2 q0 q1 f0 f1 z T1 hB1; obtain ⟨q0, q1, f0, f1, z⟩ := id T2)
    | (go_at_call 18; refine (HL _).mono ?_; rintro e w3 ⟨rfl, hb3⟩; have T3 := T2.below hb3; have hB3 : Below w.heap.size w w3 := hB2.trans (hb3.mono hB2.size); clear HL hb3 q0 q1 f0 f1 z T2 hB2; obtain ⟨q0, q1, f0, f1, z⟩ := id T3)
    | (go_at_call 19; refine (HV _).mono ?_; rintro e w4 ⟨rfl, hb4⟩; have T4 := (T3.alloc _).below hb4; have F4 := (Two.new w3 _ _ _).below hb4; have hB4 : Below w.heap.size w w4 := (hB3.alloc hB3.size _).trans (hb4.mono (by have := hB3.size; simp; omega)); have zz : w.heap.size < w3.heap.size := z; clear HV hb4 q0 q1 f0 f1 z T3 hB3; obtain ⟨q0, q1, f0, f1, z⟩ := id T4; obtain ⟨g0, g1, _, _, y⟩ := id F4)
    | (go_at_call 10; refine (HX _ (ht.below hB4)).mono ?_; rintro e w5 ⟨rfl, hb5⟩; have T5 := T4.below hb5; have F5 := F4.below hb5; have hB5 : Below w.heap.size w w5 := hB4.trans (hb5.mono hB4.size); clear HX hb5 q0 q1 f0 f1 z g0 g1 y T4 F4 hB4; obtain ⟨q0, q1, f0, f1, z⟩ := id T5; obtain ⟨g0, g1, _, _, y⟩ := id F5))
  exact bodyPost_ret (v := .tuple #[fr a b, .bool true]) (by simp [results, Tryd.results6, go_sem, q0, q1, z]) rfl ⟨rfl, by first | exact hB5 | exact Below.drewn (hB5) _ | exact (hB5).alloc (hB5).size _ | go_grown⟩
set_option maxRecDepth 100000 in
set_option maxHeartbeats 2000000 in
theorem parse_c_ne (s top low : ByteArray) (a b : Int) (w : World) (HC : ∀ W, Calls Tryd.prog 17 #[.string s, .string ⟨#[47]⟩] W fun e w' => e = .returned (.tuple #[.string top, .string low, .bool true]) ∧ Below W.heap.size W w') (HT : ∀ W, Calls Tryd.prog 18 #[.string top, .int .i64 10, .int .i64 64] W fun e w' => e = .returned (.tuple #[.int .i64 a, .nilIface]) ∧ Below W.heap.size W w') (HL : ∀ W, Calls Tryd.prog 18 #[.string low, .int .i64 10, .int .i64 64] W fun e w' => e = .returned (.tuple #[.int .i64 b, .nilIface]) ∧ Below W.heap.size W w') (ht : Tab w) (hS : Sent w) (ha : I64 a) (hb : I64 b) (hv : validB a b = true) (x : ByteArray) (hx : txt a b = x) (hne : ¬ x = s) :
    Calls Tryd.prog 6 #[.string s] w fun e w' => e = .returned (.tuple #[fr 0 0, .bool false]) ∧ Below w.heap.size w w' := by
  have HV := fun W => valid_any a b W ha.1 ha.2 hb.1 hb.2
  rw [hv] at HV
  have HX := fun W h => text_any a b W ha hb h
  rw [hx] at HX
  have n1 := str_ne hne
  have n2 := str_ne' hne
  clear hv hx
  go_enter Tryd.func6, Tryd.ntmps6
  go_wp2_with (first
    | (go_at_call 17; refine (HC _).mono ?_; rintro e w1 ⟨rfl, hb1⟩; have T1 := (Two.new w (.int .i64 0) (.int .i64 0) 23).below hb1; obtain ⟨q0, q1, f0, f1, z⟩ := id T1; have hB1 : Below w.heap.size w w1 := Below.trans (by go_grown) (hb1.mono (by simp)); clear HC hb1)
    | (go_at_call 18; refine (HT _).mono ?_; rintro e w2 ⟨rfl, hb2⟩; have T2 := T1.below hb2; have hB2 : Below w.heap.size w w2 := hB1.trans (hb2.mono hB1.size); clear HT hb2 q0 q1 f0 f1 z T1 hB1; obtain ⟨q0, q1, f0, f1, z⟩ := id T2)
    | (go_at_call 18; refine (HL _).mono ?_; rintro e w3 ⟨rfl, hb3⟩; have T3 := T2.below hb3; have hB3 : Below w.heap.size w w3 := hB2.trans (hb3.mono hB2.size); clear HL hb3 q0 q1 f0 f1 z T2 hB2; obtain ⟨q0, q1, f0, f1, z⟩ := id T3)
    | (go_at_call 19; refine (HV _).mono ?_; rintro e w4 ⟨rfl, hb4⟩; have T4 := (T3.alloc _).below hb4; have F4 := (Two.new w3 _ _ _).below hb4; have hB4 : Below w.heap.size w w4 := (hB3.alloc hB3.size _).trans (hb4.mono (by have := hB3.size; simp; omega)); have zz : w.heap.size < w3.heap.size := z; clear HV hb4 q0 q1 f0 f1 z T3 hB3; obtain ⟨q0, q1, f0, f1, z⟩ := id T4; obtain ⟨g0, g1, _, _, y⟩ := id F4)
    | (go_at_call 10; refine (HX _ (ht.below hB4)).mono ?_; rintro e w5 ⟨rfl, hb5⟩; have T5 := T4.below hb5; have F5 := F4.below hb5; have hB5 : Below w.heap.size w w5 := hB4.trans (hb5.mono hB4.size); clear HX hb5 q0 q1 f0 f1 z g0 g1 y T4 F4 hB4; obtain ⟨q0, q1, f0, f1, z⟩ := id T5; obtain ⟨g0, g1, _, _, y⟩ := id F5))
  exact bodyPost_ret (v := .tuple #[fr 0 0, .bool false]) (by simp [results, Tryd.results6, go_sem, q0, q1, z]) rfl ⟨rfl, by first | exact hB5 | exact Below.drewn (hB5) _ | exact (hB5).alloc (hB5).size _ | go_grown⟩
set_option maxRecDepth 100000 in
set_option maxHeartbeats 2000000 in
theorem parse_c_bad (s top low : ByteArray) (a b : Int) (w : World) (HC : ∀ W, Calls Tryd.prog 17 #[.string s, .string ⟨#[47]⟩] W fun e w' => e = .returned (.tuple #[.string top, .string low, .bool true]) ∧ Below W.heap.size W w') (HT : ∀ W, Calls Tryd.prog 18 #[.string top, .int .i64 10, .int .i64 64] W fun e w' => e = .returned (.tuple #[.int .i64 a, .nilIface]) ∧ Below W.heap.size W w') (HL : ∀ W, Calls Tryd.prog 18 #[.string low, .int .i64 10, .int .i64 64] W fun e w' => e = .returned (.tuple #[.int .i64 b, .nilIface]) ∧ Below W.heap.size W w') (ht : Tab w) (hS : Sent w) (ha : I64 a) (hb : I64 b) (hv : validB a b = false) :
    Calls Tryd.prog 6 #[.string s] w fun e w' => e = .returned (.tuple #[fr 0 0, .bool false]) ∧ Below w.heap.size w w' := by
  have HV := fun W => valid_any a b W ha.1 ha.2 hb.1 hb.2
  rw [hv] at HV
  clear hv
  go_enter Tryd.func6, Tryd.ntmps6
  go_wp2_with (first
    | (go_at_call 17; refine (HC _).mono ?_; rintro e w1 ⟨rfl, hb1⟩; have T1 := (Two.new w (.int .i64 0) (.int .i64 0) 23).below hb1; obtain ⟨q0, q1, f0, f1, z⟩ := id T1; have hB1 : Below w.heap.size w w1 := Below.trans (by go_grown) (hb1.mono (by simp)); clear HC hb1)
    | (go_at_call 18; refine (HT _).mono ?_; rintro e w2 ⟨rfl, hb2⟩; have T2 := T1.below hb2; have hB2 : Below w.heap.size w w2 := hB1.trans (hb2.mono hB1.size); clear HT hb2 q0 q1 f0 f1 z T1 hB1; obtain ⟨q0, q1, f0, f1, z⟩ := id T2)
    | (go_at_call 18; refine (HL _).mono ?_; rintro e w3 ⟨rfl, hb3⟩; have T3 := T2.below hb3; have hB3 : Below w.heap.size w w3 := hB2.trans (hb3.mono hB2.size); clear HL hb3 q0 q1 f0 f1 z T2 hB2; obtain ⟨q0, q1, f0, f1, z⟩ := id T3)
    | (go_at_call 19; refine (HV _).mono ?_; rintro e w4 ⟨rfl, hb4⟩; have T4 := (T3.alloc _).below hb4; have F4 := (Two.new w3 _ _ _).below hb4; have hB4 : Below w.heap.size w w4 := (hB3.alloc hB3.size _).trans (hb4.mono (by have := hB3.size; simp; omega)); have zz : w.heap.size < w3.heap.size := z; clear HV hb4 q0 q1 f0 f1 z T3 hB3; obtain ⟨q0, q1, f0, f1, z⟩ := id T4; obtain ⟨g0, g1, _, _, y⟩ := id F4))
  exact bodyPost_ret (v := .tuple #[fr 0 0, .bool false]) (by simp [results, Tryd.results6, go_sem, q0, q1, z]) rfl ⟨rfl, by first | exact hB4 | exact Below.drewn (hB4) _ | exact (hB4).alloc (hB4).size _ | go_grown⟩
set_option maxRecDepth 100000 in
set_option maxHeartbeats 2000000 in
theorem parse_c_low (s top low : ByteArray) (a b : Int) (w : World) (HC : ∀ W, Calls Tryd.prog 17 #[.string s, .string ⟨#[47]⟩] W fun e w' => e = .returned (.tuple #[.string top, .string low, .bool true]) ∧ Below W.heap.size W w') (HT : ∀ W, Calls Tryd.prog 18 #[.string top, .int .i64 10, .int .i64 64] W fun e w' => e = .returned (.tuple #[.int .i64 a, .nilIface]) ∧ Below W.heap.size W w') (HL : ∀ W, Sent W → Calls Tryd.prog 18 #[.string low, .int .i64 10, .int .i64 64] W fun e w' => ∃ v k, e = .returned (.tuple #[.int .i64 v, .iface 65 (.pointer (some ⟨k, 0, none⟩))]) ∧ Below W.heap.size W w') (ht : Tab w) (hS : Sent w) :
    Calls Tryd.prog 6 #[.string s] w fun e w' => e = .returned (.tuple #[fr 0 0, .bool false]) ∧ Below w.heap.size w w' := by
  go_enter Tryd.func6, Tryd.ntmps6
  go_wp2_with (first
    | (go_at_call 17; refine (HC _).mono ?_; rintro e w1 ⟨rfl, hb1⟩; have T1 := (Two.new w (.int .i64 0) (.int .i64 0) 23).below hb1; obtain ⟨q0, q1, f0, f1, z⟩ := id T1; have hB1 : Below w.heap.size w w1 := Below.trans (by go_grown) (hb1.mono (by simp)); clear HC hb1)
    | (go_at_call 18; refine (HT _).mono ?_; rintro e w2 ⟨rfl, hb2⟩; have T2 := T1.below hb2; have hB2 : Below w.heap.size w w2 := hB1.trans (hb2.mono hB1.size); clear HT hb2 q0 q1 f0 f1 z T1 hB1; obtain ⟨q0, q1, f0, f1, z⟩ := id T2)
    | (go_at_call 18; refine (HL _ (hS.below hB2)).mono ?_; rintro e w3 ⟨v2, k2, rfl, hb3⟩; have T3 := T2.below hb3; have hB3 : Below w.heap.size w w3 := hB2.trans (hb3.mono hB2.size); clear HL hb3 q0 q1 f0 f1 z T2 hB2; obtain ⟨q0, q1, f0, f1, z⟩ := id T3))
  exact bodyPost_ret (v := .tuple #[fr 0 0, .bool false]) (by simp [results, Tryd.results6, go_sem, q0, q1, z]) rfl ⟨rfl, by first | exact hB3 | exact Below.drewn (hB3) _ | exact (hB3).alloc (hB3).size _ | go_grown⟩
set_option maxRecDepth 100000 in
set_option maxHeartbeats 2000000 in
theorem parse_c_top (s top low : ByteArray) (a b : Int) (w : World) (HC : ∀ W, Calls Tryd.prog 17 #[.string s, .string ⟨#[47]⟩] W fun e w' => e = .returned (.tuple #[.string top, .string low, .bool true]) ∧ Below W.heap.size W w') (HT : ∀ W, Sent W → Calls Tryd.prog 18 #[.string top, .int .i64 10, .int .i64 64] W fun e w' => ∃ v k, e = .returned (.tuple #[.int .i64 v, .iface 65 (.pointer (some ⟨k, 0, none⟩))]) ∧ Below W.heap.size W w') (HL : ∀ W, Calls Tryd.prog 18 #[.string low, .int .i64 10, .int .i64 64] W fun e w' => e = .returned (.tuple #[.int .i64 b, .nilIface]) ∧ Below W.heap.size W w') (ht : Tab w) (hS : Sent w) :
    Calls Tryd.prog 6 #[.string s] w fun e w' => e = .returned (.tuple #[fr 0 0, .bool false]) ∧ Below w.heap.size w w' := by
  go_enter Tryd.func6, Tryd.ntmps6
  go_wp2_with (first
    | (go_at_call 17; refine (HC _).mono ?_; rintro e w1 ⟨rfl, hb1⟩; have T1 := (Two.new w (.int .i64 0) (.int .i64 0) 23).below hb1; obtain ⟨q0, q1, f0, f1, z⟩ := id T1; have hB1 : Below w.heap.size w w1 := Below.trans (by go_grown) (hb1.mono (by simp)); clear HC hb1)
    | (go_at_call 18; refine (HT _ (hS.below hB1)).mono ?_; rintro e w2 ⟨v1, k1, rfl, hb2⟩; have T2 := T1.below hb2; have hB2 : Below w.heap.size w w2 := hB1.trans (hb2.mono hB1.size); clear HT hb2 q0 q1 f0 f1 z T1 hB1; obtain ⟨q0, q1, f0, f1, z⟩ := id T2)
    | (go_at_call 18; refine (HL _).mono ?_; rintro e w3 ⟨rfl, hb3⟩; have T3 := T2.below hb3; have hB3 : Below w.heap.size w w3 := hB2.trans (hb3.mono hB2.size); clear HL hb3 q0 q1 f0 f1 z T2 hB2; obtain ⟨q0, q1, f0, f1, z⟩ := id T3))
  exact bodyPost_ret (v := .tuple #[fr 0 0, .bool false]) (by simp [results, Tryd.results6, go_sem, q0, q1, z]) rfl ⟨rfl, by first | exact hB3 | exact Below.drewn (hB3) _ | exact (hB3).alloc (hB3).size _ | go_grown⟩
set_option maxRecDepth 100000 in
set_option maxHeartbeats 2000000 in
theorem parse_c_both (s top low : ByteArray) (a b : Int) (w : World) (HC : ∀ W, Calls Tryd.prog 17 #[.string s, .string ⟨#[47]⟩] W fun e w' => e = .returned (.tuple #[.string top, .string low, .bool true]) ∧ Below W.heap.size W w') (HT : ∀ W, Sent W → Calls Tryd.prog 18 #[.string top, .int .i64 10, .int .i64 64] W fun e w' => ∃ v k, e = .returned (.tuple #[.int .i64 v, .iface 65 (.pointer (some ⟨k, 0, none⟩))]) ∧ Below W.heap.size W w') (HL : ∀ W, Sent W → Calls Tryd.prog 18 #[.string low, .int .i64 10, .int .i64 64] W fun e w' => ∃ v k, e = .returned (.tuple #[.int .i64 v, .iface 65 (.pointer (some ⟨k, 0, none⟩))]) ∧ Below W.heap.size W w') (ht : Tab w) (hS : Sent w) :
    Calls Tryd.prog 6 #[.string s] w fun e w' => e = .returned (.tuple #[fr 0 0, .bool false]) ∧ Below w.heap.size w w' := by
  go_enter Tryd.func6, Tryd.ntmps6
  go_wp2_with (first
    | (go_at_call 17; refine (HC _).mono ?_; rintro e w1 ⟨rfl, hb1⟩; have T1 := (Two.new w (.int .i64 0) (.int .i64 0) 23).below hb1; obtain ⟨q0, q1, f0, f1, z⟩ := id T1; have hB1 : Below w.heap.size w w1 := Below.trans (by go_grown) (hb1.mono (by simp)); clear HC hb1)
    | (go_at_call 18; refine (HT _ (hS.below hB1)).mono ?_; rintro e w2 ⟨v1, k1, rfl, hb2⟩; have T2 := T1.below hb2; have hB2 : Below w.heap.size w w2 := hB1.trans (hb2.mono hB1.size); clear HT hb2 q0 q1 f0 f1 z T1 hB1; obtain ⟨q0, q1, f0, f1, z⟩ := id T2)
    | (go_at_call 18; refine (HL _ (hS.below hB2)).mono ?_; rintro e w3 ⟨v2, k2, rfl, hb3⟩; have T3 := T2.below hb3; have hB3 : Below w.heap.size w w3 := hB2.trans (hb3.mono hB2.size); clear HL hb3 q0 q1 f0 f1 z T2 hB2; obtain ⟨q0, q1, f0, f1, z⟩ := id T3))
  exact bodyPost_ret (v := .tuple #[fr 0 0, .bool false]) (by simp [results, Tryd.results6, go_sem, q0, q1, z]) rfl ⟨rfl, by first | exact hB3 | exact Below.drewn (hB3) _ | exact (hB3).alloc (hB3).size _ | go_grown⟩
set_option maxRecDepth 100000 in
set_option maxHeartbeats 2000000 in
theorem parse_w_yes (s top low : ByteArray) (a b : Int) (w : World) (HC : ∀ W, Calls Tryd.prog 17 #[.string s, .string ⟨#[47]⟩] W fun e w' => e = .returned (.tuple #[.string top, .string ⟨#[]⟩, .bool false]) ∧ Below W.heap.size W w') (HT : ∀ W, Calls Tryd.prog 18 #[.string top, .int .i64 10, .int .i64 64] W fun e w' => e = .returned (.tuple #[.int .i64 a, .nilIface]) ∧ Below W.heap.size W w') (HL : ∀ W, Calls Tryd.prog 18 #[.string ⟨#[49]⟩, .int .i64 10, .int .i64 64] W fun e w' => e = .returned (.tuple #[.int .i64 b, .nilIface]) ∧ Below W.heap.size W w') (ht : Tab w) (hS : Sent w) (ha : I64 a) (hb : I64 b) (hv : validB a b = true) (hx : txt a b = s) :
    Calls Tryd.prog 6 #[.string s] w fun e w' => e = .returned (.tuple #[fr a b, .bool true]) ∧ Below w.heap.size w w' := by
  have HV := fun W => valid_any a b W ha.1 ha.2 hb.1 hb.2
  rw [hv] at HV
  have HX := fun W h => text_any a b W ha hb h
  rw [hx] at HX
  clear hv hx
  go_enter Tryd.func6, Tryd.ntmps6
  go_wp2_with (first
    | (go_at_call 17; refine (HC _).mono ?_; rintro e w1 ⟨rfl, hb1⟩; have T1 := (Two.new w (.int .i64 0) (.int .i64 0) 23).below hb1; obtain ⟨q0, q1, f0, f1, z⟩ := id T1; have hB1 : Below w.heap.size w w1 := Below.trans (by go_grown) (hb1.mono (by simp)); clear HC hb1)
    | (go_at_call 18; refine (HT _).mono ?_; rintro e w2 ⟨rfl, hb2⟩; have T2 := T1.below hb2; have hB2 : Below w.heap.size w w2 := hB1.trans (hb2.mono hB1.size); clear HT hb2 q0 q1 f0 f1 z T1 hB1; obtain ⟨q0, q1, f0, f1, z⟩ := id T2)
    | (go_at_call 18; refine (HL _).mono ?_; rintro e w3 ⟨rfl, hb3⟩; have T3 := T2.below hb3; have hB3 : Below w.heap.size w w3 := hB2.trans (hb3.mono hB2.size); clear HL hb3 q0 q1 f0 f1 z T2 hB2; obtain ⟨q0, q1, f0, f1, z⟩ := id T3)
    | (go_at_call 19; refine (HV _).mono ?_; rintro e w4 ⟨rfl, hb4⟩; have T4 := (T3.alloc _).below hb4; have F4 := (Two.new w3 _ _ _).below hb4; have hB4 : Below w.heap.size w w4 := (hB3.alloc hB3.size _).trans (hb4.mono (by have := hB3.size; simp; omega)); have zz : w.heap.size < w3.heap.size := z; clear HV hb4 q0 q1 f0 f1 z T3 hB3; obtain ⟨q0, q1, f0, f1, z⟩ := id T4; obtain ⟨g0, g1, _, _, y⟩ := id F4)
    | (go_at_call 10; refine (HX _ (ht.below hB4)).mono ?_; rintro e w5 ⟨rfl, hb5⟩; have T5 := T4.below hb5; have F5 := F4.below hb5; have hB5 : Below w.heap.size w w5 := hB4.trans (hb5.mono hB4.size); clear HX hb5 q0 q1 f0 f1 z g0 g1 y T4 F4 hB4; obtain ⟨q0, q1, f0, f1, z⟩ := id T5; obtain ⟨g0, g1, _, _, y⟩ := id F5))
  exact bodyPost_ret (v := .tuple #[fr a b, .bool true]) (by simp [results, Tryd.results6, go_sem, q0, q1, z]) rfl ⟨rfl, by first | exact hB5 | exact Below.drewn (hB5) _ | exact (hB5).alloc (hB5).size _ | go_grown⟩
set_option maxRecDepth 100000 in
set_option maxHeartbeats 2000000 in
theorem parse_w_ne (s top low : ByteArray) (a b : Int) (w : World) (HC : ∀ W, Calls Tryd.prog 17 #[.string s, .string ⟨#[47]⟩] W fun e w' => e = .returned (.tuple #[.string top, .string ⟨#[]⟩, .bool false]) ∧ Below W.heap.size W w') (HT : ∀ W, Calls Tryd.prog 18 #[.string top, .int .i64 10, .int .i64 64] W fun e w' => e = .returned (.tuple #[.int .i64 a, .nilIface]) ∧ Below W.heap.size W w') (HL : ∀ W, Calls Tryd.prog 18 #[.string ⟨#[49]⟩, .int .i64 10, .int .i64 64] W fun e w' => e = .returned (.tuple #[.int .i64 b, .nilIface]) ∧ Below W.heap.size W w') (ht : Tab w) (hS : Sent w) (ha : I64 a) (hb : I64 b) (hv : validB a b = true) (x : ByteArray) (hx : txt a b = x) (hne : ¬ x = s) :
    Calls Tryd.prog 6 #[.string s] w fun e w' => e = .returned (.tuple #[fr 0 0, .bool false]) ∧ Below w.heap.size w w' := by
  have HV := fun W => valid_any a b W ha.1 ha.2 hb.1 hb.2
  rw [hv] at HV
  have HX := fun W h => text_any a b W ha hb h
  rw [hx] at HX
  have n1 := str_ne hne
  have n2 := str_ne' hne
  clear hv hx
  go_enter Tryd.func6, Tryd.ntmps6
  go_wp2_with (first
    | (go_at_call 17; refine (HC _).mono ?_; rintro e w1 ⟨rfl, hb1⟩; have T1 := (Two.new w (.int .i64 0) (.int .i64 0) 23).below hb1; obtain ⟨q0, q1, f0, f1, z⟩ := id T1; have hB1 : Below w.heap.size w w1 := Below.trans (by go_grown) (hb1.mono (by simp)); clear HC hb1)
    | (go_at_call 18; refine (HT _).mono ?_; rintro e w2 ⟨rfl, hb2⟩; have T2 := T1.below hb2; have hB2 : Below w.heap.size w w2 := hB1.trans (hb2.mono hB1.size); clear HT hb2 q0 q1 f0 f1 z T1 hB1; obtain ⟨q0, q1, f0, f1, z⟩ := id T2)
    | (go_at_call 18; refine (HL _).mono ?_; rintro e w3 ⟨rfl, hb3⟩; have T3 := T2.below hb3; have hB3 : Below w.heap.size w w3 := hB2.trans (hb3.mono hB2.size); clear HL hb3 q0 q1 f0 f1 z T2 hB2; obtain ⟨q0, q1, f0, f1, z⟩ := id T3)
    | (go_at_call 19; refine (HV _).mono ?_; rintro e w4 ⟨rfl, hb4⟩; have T4 := (T3.alloc _).below hb4; have F4 := (Two.new w3 _ _ _).below hb4; have hB4 : Below w.heap.size w w4 := (hB3.alloc hB3.size _).trans (hb4.mono (by have := hB3.size; simp; omega)); have zz : w.heap.size < w3.heap.size := z; clear HV hb4 q0 q1 f0 f1 z T3 hB3; obtain ⟨q0, q1, f0, f1, z⟩ := id T4; obtain ⟨g0, g1, _, _, y⟩ := id F4)
    | (go_at_call 10; refine (HX _ (ht.below hB4)).mono ?_; rintro e w5 ⟨rfl, hb5⟩; have T5 := T4.below hb5; have F5 := F4.below hb5; have hB5 : Below w.heap.size w w5 := hB4.trans (hb5.mono hB4.size); clear HX hb5 q0 q1 f0 f1 z g0 g1 y T4 F4 hB4; obtain ⟨q0, q1, f0, f1, z⟩ := id T5; obtain ⟨g0, g1, _, _, y⟩ := id F5))
  exact bodyPost_ret (v := .tuple #[fr 0 0, .bool false]) (by simp [results, Tryd.results6, go_sem, q0, q1, z]) rfl ⟨rfl, by first | exact hB5 | exact Below.drewn (hB5) _ | exact (hB5).alloc (hB5).size _ | go_grown⟩
set_option maxRecDepth 100000 in
set_option maxHeartbeats 2000000 in
theorem parse_w_bad (s top low : ByteArray) (a b : Int) (w : World) (HC : ∀ W, Calls Tryd.prog 17 #[.string s, .string ⟨#[47]⟩] W fun e w' => e = .returned (.tuple #[.string top, .string ⟨#[]⟩, .bool false]) ∧ Below W.heap.size W w') (HT : ∀ W, Calls Tryd.prog 18 #[.string top, .int .i64 10, .int .i64 64] W fun e w' => e = .returned (.tuple #[.int .i64 a, .nilIface]) ∧ Below W.heap.size W w') (HL : ∀ W, Calls Tryd.prog 18 #[.string ⟨#[49]⟩, .int .i64 10, .int .i64 64] W fun e w' => e = .returned (.tuple #[.int .i64 b, .nilIface]) ∧ Below W.heap.size W w') (ht : Tab w) (hS : Sent w) (ha : I64 a) (hb : I64 b) (hv : validB a b = false) :
    Calls Tryd.prog 6 #[.string s] w fun e w' => e = .returned (.tuple #[fr 0 0, .bool false]) ∧ Below w.heap.size w w' := by
  have HV := fun W => valid_any a b W ha.1 ha.2 hb.1 hb.2
  rw [hv] at HV
  clear hv
  go_enter Tryd.func6, Tryd.ntmps6
  go_wp2_with (first
    | (go_at_call 17; refine (HC _).mono ?_; rintro e w1 ⟨rfl, hb1⟩; have T1 := (Two.new w (.int .i64 0) (.int .i64 0) 23).below hb1; obtain ⟨q0, q1, f0, f1, z⟩ := id T1; have hB1 : Below w.heap.size w w1 := Below.trans (by go_grown) (hb1.mono (by simp)); clear HC hb1)
    | (go_at_call 18; refine (HT _).mono ?_; rintro e w2 ⟨rfl, hb2⟩; have T2 := T1.below hb2; have hB2 : Below w.heap.size w w2 := hB1.trans (hb2.mono hB1.size); clear HT hb2 q0 q1 f0 f1 z T1 hB1; obtain ⟨q0, q1, f0, f1, z⟩ := id T2)
    | (go_at_call 18; refine (HL _).mono ?_; rintro e w3 ⟨rfl, hb3⟩; have T3 := T2.below hb3; have hB3 : Below w.heap.size w w3 := hB2.trans (hb3.mono hB2.size); clear HL hb3 q0 q1 f0 f1 z T2 hB2; obtain ⟨q0, q1, f0, f1, z⟩ := id T3)
    | (go_at_call 19; refine (HV _).mono ?_; rintro e w4 ⟨rfl, hb4⟩; have T4 := (T3.alloc _).below hb4; have F4 := (Two.new w3 _ _ _).below hb4; have hB4 : Below w.heap.size w w4 := (hB3.alloc hB3.size _).trans (hb4.mono (by have := hB3.size; simp; omega)); have zz : w.heap.size < w3.heap.size := z; clear HV hb4 q0 q1 f0 f1 z T3 hB3; obtain ⟨q0, q1, f0, f1, z⟩ := id T4; obtain ⟨g0, g1, _, _, y⟩ := id F4))
  exact bodyPost_ret (v := .tuple #[fr 0 0, .bool false]) (by simp [results, Tryd.results6, go_sem, q0, q1, z]) rfl ⟨rfl, by first | exact hB4 | exact Below.drewn (hB4) _ | exact (hB4).alloc (hB4).size _ | go_grown⟩
set_option maxRecDepth 100000 in
set_option maxHeartbeats 2000000 in
theorem parse_w_low (s top low : ByteArray) (a b : Int) (w : World) (HC : ∀ W, Calls Tryd.prog 17 #[.string s, .string ⟨#[47]⟩] W fun e w' => e = .returned (.tuple #[.string top, .string ⟨#[]⟩, .bool false]) ∧ Below W.heap.size W w') (HT : ∀ W, Calls Tryd.prog 18 #[.string top, .int .i64 10, .int .i64 64] W fun e w' => e = .returned (.tuple #[.int .i64 a, .nilIface]) ∧ Below W.heap.size W w') (HL : ∀ W, Sent W → Calls Tryd.prog 18 #[.string ⟨#[49]⟩, .int .i64 10, .int .i64 64] W fun e w' => ∃ v k, e = .returned (.tuple #[.int .i64 v, .iface 65 (.pointer (some ⟨k, 0, none⟩))]) ∧ Below W.heap.size W w') (ht : Tab w) (hS : Sent w) :
    Calls Tryd.prog 6 #[.string s] w fun e w' => e = .returned (.tuple #[fr 0 0, .bool false]) ∧ Below w.heap.size w w' := by
  go_enter Tryd.func6, Tryd.ntmps6
  go_wp2_with (first
    | (go_at_call 17; refine (HC _).mono ?_; rintro e w1 ⟨rfl, hb1⟩; have T1 := (Two.new w (.int .i64 0) (.int .i64 0) 23).below hb1; obtain ⟨q0, q1, f0, f1, z⟩ := id T1; have hB1 : Below w.heap.size w w1 := Below.trans (by go_grown) (hb1.mono (by simp)); clear HC hb1)
    | (go_at_call 18; refine (HT _).mono ?_; rintro e w2 ⟨rfl, hb2⟩; have T2 := T1.below hb2; have hB2 : Below w.heap.size w w2 := hB1.trans (hb2.mono hB1.size); clear HT hb2 q0 q1 f0 f1 z T1 hB1; obtain ⟨q0, q1, f0, f1, z⟩ := id T2)
    | (go_at_call 18; refine (HL _ (hS.below hB2)).mono ?_; rintro e w3 ⟨v2, k2, rfl, hb3⟩; have T3 := T2.below hb3; have hB3 : Below w.heap.size w w3 := hB2.trans (hb3.mono hB2.size); clear HL hb3 q0 q1 f0 f1 z T2 hB2; obtain ⟨q0, q1, f0, f1, z⟩ := id T3))
  exact bodyPost_ret (v := .tuple #[fr 0 0, .bool false]) (by simp [results, Tryd.results6, go_sem, q0, q1, z]) rfl ⟨rfl, by first | exact hB3 | exact Below.drewn (hB3) _ | exact (hB3).alloc (hB3).size _ | go_grown⟩
set_option maxRecDepth 100000 in
set_option maxHeartbeats 2000000 in
theorem parse_w_top (s top low : ByteArray) (a b : Int) (w : World) (HC : ∀ W, Calls Tryd.prog 17 #[.string s, .string ⟨#[47]⟩] W fun e w' => e = .returned (.tuple #[.string top, .string ⟨#[]⟩, .bool false]) ∧ Below W.heap.size W w') (HT : ∀ W, Sent W → Calls Tryd.prog 18 #[.string top, .int .i64 10, .int .i64 64] W fun e w' => ∃ v k, e = .returned (.tuple #[.int .i64 v, .iface 65 (.pointer (some ⟨k, 0, none⟩))]) ∧ Below W.heap.size W w') (HL : ∀ W, Calls Tryd.prog 18 #[.string ⟨#[49]⟩, .int .i64 10, .int .i64 64] W fun e w' => e = .returned (.tuple #[.int .i64 b, .nilIface]) ∧ Below W.heap.size W w') (ht : Tab w) (hS : Sent w) :
    Calls Tryd.prog 6 #[.string s] w fun e w' => e = .returned (.tuple #[fr 0 0, .bool false]) ∧ Below w.heap.size w w' := by
  go_enter Tryd.func6, Tryd.ntmps6
  go_wp2_with (first
    | (go_at_call 17; refine (HC _).mono ?_; rintro e w1 ⟨rfl, hb1⟩; have T1 := (Two.new w (.int .i64 0) (.int .i64 0) 23).below hb1; obtain ⟨q0, q1, f0, f1, z⟩ := id T1; have hB1 : Below w.heap.size w w1 := Below.trans (by go_grown) (hb1.mono (by simp)); clear HC hb1)
    | (go_at_call 18; refine (HT _ (hS.below hB1)).mono ?_; rintro e w2 ⟨v1, k1, rfl, hb2⟩; have T2 := T1.below hb2; have hB2 : Below w.heap.size w w2 := hB1.trans (hb2.mono hB1.size); clear HT hb2 q0 q1 f0 f1 z T1 hB1; obtain ⟨q0, q1, f0, f1, z⟩ := id T2)
    | (go_at_call 18; refine (HL _).mono ?_; rintro e w3 ⟨rfl, hb3⟩; have T3 := T2.below hb3; have hB3 : Below w.heap.size w w3 := hB2.trans (hb3.mono hB2.size); clear HL hb3 q0 q1 f0 f1 z T2 hB2; obtain ⟨q0, q1, f0, f1, z⟩ := id T3))
  exact bodyPost_ret (v := .tuple #[fr 0 0, .bool false]) (by simp [results, Tryd.results6, go_sem, q0, q1, z]) rfl ⟨rfl, by first | exact hB3 | exact Below.drewn (hB3) _ | exact (hB3).alloc (hB3).size _ | go_grown⟩
set_option maxRecDepth 100000 in
set_option maxHeartbeats 2000000 in
theorem parse_w_both (s top low : ByteArray) (a b : Int) (w : World) (HC : ∀ W, Calls Tryd.prog 17 #[.string s, .string ⟨#[47]⟩] W fun e w' => e = .returned (.tuple #[.string top, .string ⟨#[]⟩, .bool false]) ∧ Below W.heap.size W w') (HT : ∀ W, Sent W → Calls Tryd.prog 18 #[.string top, .int .i64 10, .int .i64 64] W fun e w' => ∃ v k, e = .returned (.tuple #[.int .i64 v, .iface 65 (.pointer (some ⟨k, 0, none⟩))]) ∧ Below W.heap.size W w') (HL : ∀ W, Sent W → Calls Tryd.prog 18 #[.string ⟨#[49]⟩, .int .i64 10, .int .i64 64] W fun e w' => ∃ v k, e = .returned (.tuple #[.int .i64 v, .iface 65 (.pointer (some ⟨k, 0, none⟩))]) ∧ Below W.heap.size W w') (ht : Tab w) (hS : Sent w) :
    Calls Tryd.prog 6 #[.string s] w fun e w' => e = .returned (.tuple #[fr 0 0, .bool false]) ∧ Below w.heap.size w w' := by
  go_enter Tryd.func6, Tryd.ntmps6
  go_wp2_with (first
    | (go_at_call 17; refine (HC _).mono ?_; rintro e w1 ⟨rfl, hb1⟩; have T1 := (Two.new w (.int .i64 0) (.int .i64 0) 23).below hb1; obtain ⟨q0, q1, f0, f1, z⟩ := id T1; have hB1 : Below w.heap.size w w1 := Below.trans (by go_grown) (hb1.mono (by simp)); clear HC hb1)
    | (go_at_call 18; refine (HT _ (hS.below hB1)).mono ?_; rintro e w2 ⟨v1, k1, rfl, hb2⟩; have T2 := T1.below hb2; have hB2 : Below w.heap.size w w2 := hB1.trans (hb2.mono hB1.size); clear HT hb2 q0 q1 f0 f1 z T1 hB1; obtain ⟨q0, q1, f0, f1, z⟩ := id T2)
    | (go_at_call 18; refine (HL _ (hS.below hB2)).mono ?_; rintro e w3 ⟨v2, k2, rfl, hb3⟩; have T3 := T2.below hb3; have hB3 : Below w.heap.size w w3 := hB2.trans (hb3.mono hB2.size); clear HL hb3 q0 q1 f0 f1 z T2 hB2; obtain ⟨q0, q1, f0, f1, z⟩ := id T3))
  exact bodyPost_ret (v := .tuple #[fr 0 0, .bool false]) (by simp [results, Tryd.results6, go_sem, q0, q1, z]) rfl ⟨rfl, by first | exact hB3 | exact Below.drewn (hB3) _ | exact (hB3).alloc (hB3).size _ | go_grown⟩

end Go.Proofs.YtkdaefaggbmbnaaDoor
