/-
  Package trade: the walks of TradeEnds, TradeBalances and TradeTurns.
-/
import Derived.Test.YtcjdfnfaiocdjaaT9
namespace Go.Proofs.Ytcjdfnfaiocdjaa
open Go.ChangeShapes Go.WideShapes Go.ChangeAt Go.RowKit
set_option linter.unusedVariables false
set_option linter.unusedSimpArgs false
set_option maxRecDepth 100000 in
set_option maxHeartbeats 2000000 in
theorem ends_walk (me pe v p f rest told : Int) (w : World) : Calls Try.prog 3 #[.int .i64 me, .int .i64 pe, rg v p f, .int .i64 rest, .int .i64 told] w fun e w' => e = .returned (.bool true) ∧ Below w.heap.size w w' := by
  have K1 := fun w => ends_any v p f me pe rest told w
  have K2 := fun w => rends_any v p f me pe rest told w
  have K3 := fun w => gain_any v p f me pe rest told w
  have K4 := fun w => rgain_any v p f me pe rest told w
  have KA := awake_any
  generalize ends v p f me pe rest told = E at *
  generalize gain v p f me pe rest told = G at *
  obtain ⟨x1, x2, x3⟩ := E
  obtain ⟨y1, y2, y3⟩ := G
  go_enter Try.func3, Try.ntmps3
  go_wp2_with (first
    | (go_at_call 8; refine (K1 _).mono ?_; clear K1; rintro e w1 ⟨rfl, b1⟩; have T1 := (Tri.new w (.int .i64 v) (.int .i64 p) (.int .i64 f) 23).below b1; have B1 : Below w.heap.size w w1 := Below.trans (by go_grown) (b1.mono (by simp)); clear b1; obtain ⟨a0, a1, a2, a3, a4, a5, a6⟩ := _root_.id T1)
    | (go_at_call 9; refine (K2 _).mono ?_; clear K2; rintro e w2 ⟨rfl, b2⟩; have T2 := T1.below b2; have B2 : Below w.heap.size w w2 := B1.trans (b2.mono B1.size); clear b2 a0 a1 a2 a3 a4 a5 a6 T1 B1; obtain ⟨a0, a1, a2, a3, a4, a5, a6⟩ := _root_.id T2)
    | (go_at_call 10; refine (K3 _).mono ?_; clear K3; rintro e w3 ⟨rfl, b3⟩; have T3 := T2.below b3; have B3 : Below w.heap.size w w3 := B2.trans (b3.mono B2.size); clear b3 a0 a1 a2 a3 a4 a5 a6 T2 B2; obtain ⟨a0, a1, a2, a3, a4, a5, a6⟩ := _root_.id T3)
    | (go_at_call 11; refine (K4 _).mono ?_; clear K4; rintro e w4 ⟨rfl, b4⟩; obtain ⟨c0, c1, c2, c3, c4⟩ := (Two.new w3 (.int .u64 y1) (.int .u64 y2) 31).below b4; have B4 : Below w.heap.size w w4 := (B3.alloc B3.size _).trans (b4.mono (by have := B3.size; simp; omega)); clear b4 a0 a1 a2 a3 a4 a5 a6)
    | (go_at_call 12; refine (KA _).mono ?_; clear KA; rintro e w5 ⟨rfl, b5⟩; have B5 : Below w.heap.size w w5 := (B4.alloc B4.size _).trans (b5.mono (by have := B4.size; simp; omega)); clear b5))
  go_ret
  exact ⟨rfl, B5⟩
set_option maxRecDepth 100000 in
set_option maxHeartbeats 2000000 in
theorem balances_walk (me pe v p f rest told : Int) (w : World) : Calls Try.prog 4 #[.int .i64 me, .int .i64 pe, rg v p f, .int .i64 rest, .int .i64 told] w fun e w' => e = .returned (.bool true) ∧ Below w.heap.size w w' := by
  have K1 := fun w => bal_any v p f me pe rest told w
  have K2 := fun w => rbal_any v p f me pe rest told w
  have KA := awake_any
  generalize bal v p f me pe rest told = B at *
  obtain ⟨x1, x2, x3, x4, x5⟩ := B
  go_enter Try.func4, Try.ntmps4
  go_wp2_with (first
    | (go_at_call 13; refine (K1 _).mono ?_; clear K1; rintro e w1 ⟨rfl, b1⟩; have T1 := (Tri.new w (.int .i64 v) (.int .i64 p) (.int .i64 f) 23).below b1; have B1 : Below w.heap.size w w1 := Below.trans (by go_grown) (b1.mono (by simp)); clear b1; obtain ⟨a0, a1, a2, a3, a4, a5, a6⟩ := _root_.id T1)
    | (go_at_call 14; refine (K2 _).mono ?_; clear K2; rintro e w2 ⟨rfl, b2⟩; obtain ⟨c0, c1, c2, c3, c4, c5, c6⟩ := (Tri.new w1 (.int .i64 x1) (.int .i64 x2) (.int .i64 x3) 23).below b2; have B2 : Below w.heap.size w w2 := (B1.alloc B1.size _).trans (b2.mono (by have := B1.size; simp; omega)); clear b2 a0 a1 a2 a3 a4 a5 a6)
    | (go_at_call 12; refine (KA _).mono ?_; clear KA; rintro e w5 ⟨rfl, b5⟩; have B5 : Below w.heap.size w w5 := (B2.alloc B2.size _).trans (b5.mono (by have := B2.size; simp; omega)); clear b5))
  go_ret
  exact ⟨rfl, B5⟩
set_option maxRecDepth 100000 in
set_option maxHeartbeats 2000000 in
theorem turns_walk (me pe v p f rest told : Int) (w : World) : Calls Try.prog 7 #[.int .i64 me, .int .i64 pe, rg v p f, .int .i64 rest, .int .i64 told] w fun e w' => e = .returned (.bool true) ∧ Below w.heap.size w w' := by
  have K1 := fun w => bal_any v p f me pe rest told w
  have K2 := fun w => bal_any v p f pe me told rest w
  have KA := awake_any
  obtain ⟨h1, h2, h3, h4⟩ := bal_turn v p f me pe rest told
  have hn := bal_n v p f me pe rest told
  generalize bal v p f me pe rest told = B at *
  generalize bal v p f pe me told rest = D at *
  obtain ⟨x1, x2, x3, x4, x5⟩ := B
  obtain ⟨y1, y2, y3, y4, y5⟩ := D
  dsimp only at h1 h2 h3 h4 hn
  subst h1 h2 h3 h4
  have hw : IntKind.i64.wrap x4 = x4 := by rw [IntKind.wrap_i64]; omega
  have hw2 : IntKind.i64.wrap (- -x4) = x4 := by rw [IntKind.wrap_i64]; omega
  clear hn
  go_enter Try.func7, Try.ntmps7
  go_wp2_with (first
    | (go_at_call 13; refine (K1 _).mono ?_; clear K1; rintro e w1 ⟨rfl, b1⟩; have T1 := (Tri.new w (.int .i64 v) (.int .i64 p) (.int .i64 f) 23).below b1; have B1 : Below w.heap.size w w1 := Below.trans (by go_grown) (b1.mono (by simp)); clear b1; obtain ⟨a0, a1, a2, a3, a4, a5, a6⟩ := _root_.id T1)
    | (go_at_call 13; refine (K2 _).mono ?_; clear K2; rintro e w2 ⟨rfl, b2⟩; obtain ⟨c0, c1, c2, c3, c4, c5, c6⟩ := (Tri.new w1 (.int .i64 y1) (.int .i64 x2) (.int .i64 y3) 23).below b2; have B2 : Below w.heap.size w w2 := (B1.alloc B1.size _).trans (b2.mono (by have := B1.size; simp; omega)); clear b2 a0 a1 a2 a3 a4 a5 a6)
    | (go_at_call 12; refine (KA _).mono ?_; clear KA; rintro e w5 ⟨rfl, b5⟩; have B5 : Below w.heap.size w w5 := (B2.alloc B2.size _).trans (b5.mono (by have := B2.size; simp; omega)); clear b5))
  go_ret
  exact ⟨rfl, B5⟩
end Go.Proofs.Ytcjdfnfaiocdjaa
