/-
  Chapter 2's examples, which every law of layer 2 calls at its end, come out true.
-/
import Derived.Test.YtkdaefaggbmbnaaDoorSimple
import Derived.Test.YtkdaefaggbmbnaaDoorText
import Derived.Test.YtkdaefaggbmbnaaDoorValid
namespace Go.Proofs.YtkdaefaggbmbnaaDoor
open Go.ChangeShapes Go.WideShapes Go.ChangeAt Go.RowKit
set_option linter.unusedVariables false
set_option linter.unusedSimpArgs false

/-- What the list of the simplest fraction leads to. -/
def smpF (an ad bn bd : Int) : Int × Int × Int := fromA (smp (both an ad bn bd))

set_option maxRecDepth 100000 in
set_option maxHeartbeats 1000000 in
theorem near_up (ln ld hn hd : Int) (w : World) (h1 : Sm ln) (h2 : 0 ≤ ld) (h2' : ld ≤ 2147483647) (h3 : Sm hn) (h4 : 0 ≤ hd) (h4' : hd ≤ 2147483647)
    (hc : ln * hd ≤ hn * ld) (hl : 0 < ln) (hh : 0 ≤ hn) :
    Calls Tryd.prog 24 #[fr ln ld, fr hn hd] w fun e w' => e = .returned (.tuple #[fr (smpF ln ld hn hd).1 (smpF ln ld hn hd).2.1, .bool (decide ((smpF ln ld hn hd).2.2 = 0))]) ∧ Below w.heap.size w w' := by
  have sl : Sm ld := ⟨by omega, h2'⟩
  have sh : Sm hd := ⟨by omega, h4'⟩
  have hcv : ¬ (0 < cmpV (ln * hd) (hn * ld)) := by unfold cmpV; split <;> (try split) <;> omega
  obtain ⟨cv, hcvE⟩ : ∃ cv, cmpV (ln * hd) (hn * ld) = cv := ⟨_, rfl⟩
  have HC := fun w => cmp_any ln ld hn hd w h1 sl h3 sh
  have HSm := fun w => simplest_any ln ld hn hd w h1 h2 h2' h3 h4 h4'
  rw [hcvE] at HC hcv
  have e0 : fromA (smp (both ln ld hn hd)) = smpF ln ld hn hd := rfl
  rw [e0] at HSm
  clear hcvE e0
  obtain ⟨p, hp⟩ : ∃ p, smpF ln ld hn hd = p := ⟨_, rfl⟩
  rw [hp] at HSm ⊢
  clear hp hc
  go_enter Tryd.func24, Tryd.ntmps24
  go_wp2_with (first
    | (go_at_call 16; refine (HC _).mono ?_; rintro e w1 ⟨rfl, hb⟩; have T0 : Two w1 w.heap.size (.int .i64 ln) (.int .i64 ld) := (((Two.new w _ _ _).alloc _).alloc _).below hb; have T1 : Two w1 (w.heap.size + 1) (.int .i64 hn) (.int .i64 hd) := ((Two.at (Two.new _ _ _ _) (by simp)).alloc _).below hb; have T2 : Two w1 (w.heap.size + 1 + 1) (.int .i64 0) (.int .i64 0) := (Two.at (Two.new _ _ _ _) (by simp)).below hb; obtain ⟨q0, q1, _, _, _⟩ := id T0; obtain ⟨q2, q3, _, _, _⟩ := id T1; have hB : Below w.heap.size w w1 := Below.trans (by go_grown) (hb.mono (by simp; omega)); clear hb)
    | (go_at_call 34; refine (HSm _).mono ?_; rintro e w2 ⟨rfl, hb2⟩; have T3 := T2.below hb2; obtain ⟨r0, r1, g0, g1, gz⟩ := id T3; have hB2 : Below w.heap.size w w2 := hB.trans (hb2.mono hB.size)))
  exact bodyPost_ret (v := .tuple #[fr p.1 p.2.1, .bool (decide (p.2.2 = 0))]) (by simp [results, Tryd.results24, go_sem, r0, r1, gz]) rfl ⟨rfl, by go_grown⟩

theorem near_ex (w : World) : Calls Tryd.prog 24 #[fr 31 10, fr 16 5] w fun e w' => e = .returned (.tuple #[fr 16 5, .bool true]) ∧ Below w.heap.size w w' := by
  have c := near_up 31 10 16 5 w ⟨by omega, by omega⟩ (by omega) (by omega) ⟨by omega, by omega⟩ (by omega) (by omega) (by omega) (by omega) (by omega)
  rw [show smpF 31 10 16 5 = (16, 5, 0) by kernel_rfl] at c
  exact c
theorem make_ex (w : World) : Calls Tryd.prog 23 #[.int .i64 6, .int .i64 (-4)] w fun e w' => e = .returned (.tuple #[fr (-3) 2, .int .i64 0]) ∧ Below w.heap.size w w' := by
  have c := make_any 6 (-4) w (by omega) (by omega) (by omega) (by omega)
  rw [show mkN 6 (-4) = -3 by kernel_rfl, show mkD 6 (-4) = 2 by kernel_rfl, show mkE 6 (-4) = 0 by kernel_rfl] at c
  exact c
theorem make_ex0 (w : World) : Calls Tryd.prog 23 #[.int .i64 1, .int .i64 0] w fun e w' => e = .returned (.tuple #[fr 0 0, .int .i64 11]) ∧ Below w.heap.size w w' := by
  have c := make_any 1 0 w (by omega) (by omega) (by omega) (by omega)
  rw [show mkN 1 0 = 0 by kernel_rfl, show mkD 1 0 = 0 by kernel_rfl, show mkE 1 0 = 11 by kernel_rfl] at c
  exact c
theorem terms_ex (w : World) : Calls Tryd.prog 25 #[fr 355 113] w fun e w' => ∃ g cap, e = .returned (.slice (some ⟨g, 0, none⟩) 3 cap) ∧ w'.cell? ⟨g, 2, none⟩ = some (.int .i64 16) ∧ g < w'.heap.size ∧ Below w.heap.size w w' :=
  (terms_list 355 113 w ⟨by omega, by omega⟩ (by omega) (by omega)).mono fun e w' h => by
    obtain ⟨v, rfl, hr, hb⟩ := h
    rw [show tms 355 113 = [(3, false), (7, false), (16, true)] by kernel_rfl] at hr
    obtain ⟨g, cap, rfl⟩ := ownsRow_succ hr
    exact ⟨g, cap, rfl, hr.cellAt 2 (by decide), (hr.lt g rfl).2, hb⟩
theorem text_ex (w : World) (ht : Tab w) : Calls Tryd.prog 10 #[fr (-3) 2] w fun e w' => e = .returned (.string ⟨#[45, 51, 47, 50]⟩) ∧ Below w.heap.size w w' := by
  have c := text_any (-3) 2 w ⟨by omega, by omega⟩ ⟨by omega, by omega⟩ ht
  have e1 : Lib.itoa (-3) = [45, 51] := by rw [Lib.itoa, if_pos (by omega), Lib.decDigits, dif_pos (by decide)]; rfl
  have e2 : Lib.itoa 2 = [50] := by rw [Lib.itoa, if_neg (by omega), Lib.decDigits, dif_pos (by decide)]; rfl
  rw [show txt (-3) 2 = ⟨#[45, 51, 47, 50]⟩ by rw [txt, if_neg (by omega), e1, e2]; rfl] at c
  exact c
theorem valid_ex (w : World) : Calls Tryd.prog 19 #[fr (-3) 2] w fun e w' => e = .returned (.bool true) ∧ Below w.heap.size w w' := by
  have c := valid_any (-3) 2 w (by omega) (by omega) (by omega) (by omega)
  rw [show validB (-3) 2 = true by kernel_rfl] at c
  exact c

set_option maxRecDepth 100000 in
set_option maxHeartbeats 4000000 in
theorem awake_any (w : World) (ht : Tab w) : Calls Tryd.prog 9 #[] w fun e w' => e = .returned (.bool true) ∧ Below w.heap.size w w' := by
  go_enter Tryd.func9, Tryd.ntmps9
  go_wp2_with fail
  refine (make_ex _).mono ?_
  rintro e w1 ⟨rfl, b1⟩
  have F1 := Two.new w1 (.int .i64 (-3)) (.int .i64 2) 23
  go_wp2_with fail
  refine (make_ex0 _).mono ?_
  rintro e w2 ⟨rfl, b2⟩
  have F2 := F1.below b2
  have B2 : Below w.heap.size w w2 := (b1.alloc b1.size _).trans (b2.mono (by have := b1.size; simp; omega))
  clear F1 b2
  go_wp2_with fail
  refine (near_ex _).mono ?_
  rintro e w3 ⟨rfl, b3⟩
  have F3 := (F2.alloc _).below b3
  have B3 : Below w.heap.size w w3 := (B2.alloc B2.size _).trans (b3.mono (by have := B2.size; simp; omega))
  have G3 := Two.new w3 (.int .i64 16) (.int .i64 5) 23
  clear F2 b3
  go_wp2_with fail
  refine (terms_ex _).mono ?_
  rintro e w4 ⟨g, cap, rfl, c4, g4, b4⟩
  have F4 := (F3.alloc _).below b4
  have G4 := G3.below b4
  have B4 : Below w.heap.size w w4 := (B3.alloc B3.size _).trans (b4.mono (by have := B3.size; simp; omega))
  clear F3 G3 b4
  obtain ⟨x0, x1, _, _, _⟩ := id F4
  obtain ⟨y0, y1, _, _, _⟩ := id G4
  go_wp2_with fail
  refine (text_ex _ (ht.below B4)).mono ?_
  rintro e w5 ⟨rfl, b5⟩
  have F5 := F4.below b5
  have B5 : Below w.heap.size w w5 := B4.trans (b5.mono B4.size)
  obtain ⟨z0, z1, _, _, _⟩ := id F5
  clear x0 x1 y0 y1 c4
  go_wp2_with fail
  refine (valid_ex _).mono ?_
  rintro e w6 ⟨rfl, b6⟩
  go_wp2_with fail
  go_ret
  exact ⟨rfl, B5.trans (b6.mono B5.size)⟩

end Go.Proofs.YtkdaefaggbmbnaaDoor
