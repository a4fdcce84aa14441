/-
  What the law DeriveTells returns.
-/
import Derived.Test.YtiigmohnmkgfoaaDoorDJ
namespace Go.Proofs.YtiigmohnmkgfoaaDoor
open Go.ChangeShapes Go.WideShapes Go.ChangeAt Go.RowKit
set_option linter.unusedVariables false
set_option linter.unusedSimpArgs false

set_option maxRecDepth 100000 in
set_option maxHeartbeats 4000000 in
theorem tells_gen (k x e s mn md me cv ce iv ie te : Int) (tv : ByteArray) (w : World) (ht : Tab w)
    (KM : ∀ W, Calls Tryd.prog 8 #[.int .i64 e, .int .i64 s] W fun en w' => en = .returned (.tuple #[fr mn md, .int .i64 me]) ∧ Below W.heap.size W w')
    (RM : ∀ W, Calls Tryd.prog 9 #[.int .i64 e, .int .i64 s] W fun en w' => en = .returned (.tuple #[fr mn md, .int .i64 me]) ∧ Below W.heap.size W w')
    (KC : ∀ W, Calls Tryd.prog 10 #[.int .i64 e, .int .i64 s] W fun en w' => en = .returned (.tuple #[.int .i64 cv, .int .i64 ce]) ∧ Below W.heap.size W w')
    (RC : ∀ W, Calls Tryd.prog 11 #[.int .i64 e, .int .i64 s] W fun en w' => en = .returned (.tuple #[.int .i64 cv, .int .i64 ce]) ∧ w' = W)
    (KI : ∀ W, Calls Tryd.prog 12 #[.int .i64 k, .int .i64 x, .int .i64 s] W fun en w' => en = .returned (.tuple #[.int .i64 iv, .int .i64 ie]) ∧ Below W.heap.size W w')
    (RI : ∀ W, Calls Tryd.prog 13 #[.int .i64 k, .int .i64 x, .int .i64 s] W fun en w' => en = .returned (.tuple #[.int .i64 iv, .int .i64 ie]) ∧ w' = W)
    (KT : ∀ W, Tab W → Calls Tryd.prog 14 #[.int .i64 k, .int .i64 e, .int .i64 s] W fun en w' => en = .returned (.tuple #[.string tv, .int .i64 te]) ∧ Below W.heap.size W w')
    (RT' : ∀ W, Tab W → Calls Tryd.prog 15 #[.int .i64 k, .int .i64 e, .int .i64 s] W fun en w' => en = .returned (.tuple #[.string tv, .int .i64 te]) ∧ Below W.heap.size W w') :
    Calls Tryd.prog 3 #[.int .i64 k, .int .i64 x, .int .i64 e, .int .i64 s] w fun en w' => en = .returned (.bool true) ∧ Below w.heap.size w w' := by
  go_enter Tryd.func3, Tryd.ntmps3
  go_wp2_with (first
    | (go_at_call 8; refine (KM _).mono ?_; clear KM; rintro en w1 ⟨rfl, b1⟩; have F1 := Two.new w1 (.int .i64 mn) (.int .i64 md) 23; have B1 : Below w.heap.size w (w1.alloc (.cells #[.int .i64 mn, .int .i64 md] 23)) := b1.alloc b1.size _; clear b1)
    | (go_at_call 9; refine (RM _).mono ?_; clear RM; rintro en w2 ⟨rfl, b2⟩; have F2 := (F1.below b2).alloc (.cells #[.int .i64 mn, .int .i64 md] 23); have B2' : Below w.heap.size w w2 := B1.trans (b2.mono B1.size); have B2 : Below w.heap.size w (w2.alloc (.cells #[.int .i64 mn, .int .i64 md] 23)) := B2'.alloc B2'.size _; obtain ⟨x0, x1, _, _, _⟩ := id F2; clear F1 B1 B2' b2)
    | (go_at_call 10; refine (KC _).mono ?_; clear KC; rintro en w3 ⟨rfl, b3⟩; have B3 : Below w.heap.size w w3 := B2.trans (b3.mono B2.size); clear b3 B2 x0 x1)
    | (go_at_call 11; refine (RC _).mono ?_; clear RC; rintro en wx ⟨rfl, hwx⟩; rw [hwx]; clear hwx wx)
    | (go_at_call 12; refine (KI _).mono ?_; clear KI; rintro en w4 ⟨rfl, b4⟩; have B4 : Below w.heap.size w w4 := B3.trans (b4.mono B3.size); clear b4 B3)
    | (go_at_call 13; refine (RI _).mono ?_; clear RI; rintro en wx ⟨rfl, hwx⟩; rw [hwx]; clear hwx wx)
    | (go_at_call 14; refine (KT _ (ht.below B4)).mono ?_; clear KT; rintro en w5 ⟨rfl, b5⟩; have B5 : Below w.heap.size w w5 := B4.trans (b5.mono B4.size); clear b5 B4)
    | (go_at_call 15; refine (RT' _ (ht.below B5)).mono ?_; clear RT'; rintro en w6 ⟨rfl, b6⟩; have B6 : Below w.heap.size w w6 := B5.trans (b6.mono B5.size); clear b6 B5)
    | (go_at_call 16; refine (awake_any _ (ht.below B6)).mono ?_; rintro en w7 ⟨rfl, b7⟩; have B7 : Below w.heap.size w w7 := B6.trans (b7.mono B6.size); clear b7 B6))
  go_ret
  exact ⟨rfl, B7⟩
theorem tells_walk (k x e s : Int) (w : World) (ht : Tab w) : Calls Tryd.prog 3 #[.int .i64 k, .int .i64 x, .int .i64 e, .int .i64 s] w fun en w' => en = .returned (.bool true) ∧ Below w.heap.size w w' := by
  have KM := fun W => mean_any e s W
  have RM := fun W => rmean_any e s W
  have KC := fun W => count_any e s W
  have RC := fun W => rcount_any e s W
  by_cases h1 : k = 1
  · subst h1
    exact tells_gen _ _ _ _ _ _ _ _ _ _ _ _ _ w ht KM RM KC RC (fun W => input1_any x s W) (fun W => rinput1_any x s W) (fun W h => text1_any e s W h) (fun W h => rtext1_any e s W h)
  by_cases h2 : k = 2
  · subst h2
    exact tells_gen _ _ _ _ _ _ _ _ _ _ _ _ _ w ht KM RM KC RC (fun W => input2_any x s W) (fun W => rinput2_any x s W) (fun W h => text2_any e s W h) (fun W h => rtext2_any e s W h)
  by_cases h3 : k = 3
  · subst h3
    exact tells_gen _ _ _ _ _ _ _ _ _ _ _ _ _ w ht KM RM KC RC (fun W => input3_any x s W) (fun W => rinput3_any x s W) (fun W h => text3_any e s W h) (fun W h => rtext3_any e s W h)
  by_cases h4 : k = 4
  · subst h4
    exact tells_gen _ _ _ _ _ _ _ _ _ _ _ _ _ w ht KM RM KC RC (fun W => input4_any x s W) (fun W => rinput4_any x s W) (fun W h => text4_any e s W) (fun W h => rtextN_any 4 e s W (.inr (by omega)))
  have hk : k < 1 ∨ 4 < k := by omega
  exact tells_gen _ _ _ _ _ _ _ _ _ _ _ _ _ w ht KM RM KC RC (fun W => inputN_any k x s W hk) (fun W => rinputN_any k x s W hk) (fun W h => textN_any k e s W hk) (fun W h => rtextN_any k e s W (by omega))
end Go.Proofs.YtiigmohnmkgfoaaDoor
