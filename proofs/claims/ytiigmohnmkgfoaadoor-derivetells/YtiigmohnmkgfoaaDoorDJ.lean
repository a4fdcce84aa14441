/-
  Chapter 19's examples: they are as it says.
-/
import Derived.Test.YtiigmohnmkgfoaaDoorDI
import Derived.Test.YtiigmohnmkgfoaaDoorDH
namespace Go.Proofs.YtiigmohnmkgfoaaDoor
open Go.ChangeShapes Go.WideShapes Go.ChangeAt Go.RowKit
set_option linter.unusedVariables false
set_option linter.unusedSimpArgs false

theorem mean_ex (w : World) : Calls Tryd.prog 8 #[.int .i64 (-6), .int .i64 4] w fun e w' => e = .returned (.tuple #[fr (-3) 2, .int .i64 0]) ∧ Below w.heap.size w w' := by
  have c := mean_any (-6) 4 w
  simp only [meaV, show meaN (-6) 4 = -3 by kernel_rfl, show meaD (-6) 4 = 2 by kernel_rfl, show meaE (-6) 4 = 0 by kernel_rfl] at c
  exact c
theorem count_ex (w : World) : Calls Tryd.prog 10 #[.int .i64 4, .int .i64 10] w fun e w' => e = .returned (.tuple #[.int .i64 3, .int .i64 0]) ∧ Below w.heap.size w w' := by
  have c := count_any 4 10 w
  simp only [cntT, show cntV 4 10 = 3 by kernel_rfl, show cntE 4 10 = 0 by kernel_rfl] at c
  exact c
theorem total_ex (w : World) : Calls Tryd.prog 17 #[fr 3 2, .int .i64 10] w fun e w' => e = .returned (.tuple #[fr 15 1, .int .i64 0]) ∧ Below w.heap.size w w' := by
  have c := total_any 3 2 10 w (by unfold I64; omega) (by unfold I64; omega)
  simp only [totT, show totN 3 2 10 = 15 by kernel_rfl, show totD 3 2 10 = 1 by kernel_rfl, show totE 3 2 10 = 0 by kernel_rfl] at c
  exact c
theorem input_ex (w : World) : Calls Tryd.prog 12 #[.int .i64 3, .int .i64 (-3), .int .i64 4] w fun e w' => e = .returned (.tuple #[.int .i64 36, .int .i64 0]) ∧ Below w.heap.size w w' := by
  have c := input3_any (-3) 4 w
  simp only [show (if scB 4 1048576 = true then sqrV (-3) 4 else 0) = 36 by kernel_rfl, show (if scB 4 1048576 = true then sqrE (-3) 4 else 47) = 0 by kernel_rfl] at c
  exact c
theorem text_ex (w : World) (ht : Tab w) : Calls Tryd.prog 14 #[.int .i64 1, .int .i64 6, .int .i64 4] w fun e w' => e = .returned (.tuple #[.string ⟨#[109, 101, 97, 110, 32, 51, 47, 50]⟩, .int .i64 0]) ∧ Below w.heap.size w w' := by
  have c := text1_any 6 4 w ht
  simp only [show ftxt meanS 6 4 = ⟨#[109, 101, 97, 110, 32, 51, 47, 50]⟩ by kernel_rfl, show meaE 6 4 = 0 by kernel_rfl] at c
  exact c
set_option maxRecDepth 100000 in
set_option maxHeartbeats 4000000 in
theorem awake_any (w : World) (ht : Tab w) : Calls Tryd.prog 16 #[] w fun e w' => e = .returned (.bool true) ∧ Below w.heap.size w w' := by
  go_enter Tryd.func16, Tryd.ntmps16
  go_wp2_with fail
  refine (mean_ex _).mono ?_
  rintro e w1 ⟨rfl, b1⟩
  have F1 := Two.new w1 (.int .i64 (-3)) (.int .i64 2) 23
  have B1 : Below w.heap.size w (w1.alloc (.cells #[.int .i64 (-3), .int .i64 2] 23)) := b1.alloc b1.size _
  clear b1
  go_wp2_with fail
  refine (count_ex _).mono ?_
  rintro e w2 ⟨rfl, b2⟩
  have F2 := F1.below b2
  have B2 : Below w.heap.size w w2 := B1.trans (b2.mono B1.size)
  clear F1 b2 B1
  go_wp2_with fail
  refine (total_ex _).mono ?_
  rintro e w3 ⟨rfl, b3⟩
  have F3 := (F2.below b3).alloc (.cells #[.int .i64 15, .int .i64 1] 23)
  have G3 := Two.new w3 (.int .i64 15) (.int .i64 1) 23
  have B3' : Below w.heap.size w w3 := B2.trans (b3.mono B2.size)
  have B3 : Below w.heap.size w (w3.alloc (.cells #[.int .i64 15, .int .i64 1] 23)) := B3'.alloc B3'.size _
  clear F2 b3 B2 B3'
  go_wp2_with fail
  refine (input_ex _).mono ?_
  rintro e w4 ⟨rfl, b4⟩
  have F4 := F3.below b4
  have G4 := G3.below b4
  have B4 : Below w.heap.size w w4 := B3.trans (b4.mono B3.size)
  clear F3 G3 b4 B3
  go_wp2_with fail
  refine (text_ex _ (ht.below B4)).mono ?_
  rintro e w5 ⟨rfl, b5⟩
  have F5 := F4.below b5
  have G5 := G4.below b5
  have B5 : Below w.heap.size w w5 := B4.trans (b5.mono B4.size)
  obtain ⟨x0, x1, _, _, _⟩ := id F5
  obtain ⟨y0, y1, _, _, _⟩ := id G5
  clear F4 G4 b5 B4
  go_wp2_with fail
  go_ret
  exact ⟨rfl, B5⟩
end Go.Proofs.YtiigmohnmkgfoaaDoor
