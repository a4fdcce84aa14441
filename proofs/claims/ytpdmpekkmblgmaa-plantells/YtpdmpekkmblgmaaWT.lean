/-
  The law: PlanTells.
-/
import Derived.Test.YtpdmpekkmblgmaaD6
import Derived.Test.YtpdmpekkmblgmaaPD
import Derived.Test.YtpdmpekkmblgmaaWS
import Derived.Test.YtpdmpekkmblgmaaPC
import Derived.Test.YtpdmpekkmblgmaaD1
import Derived.Test.YtpdmpekkmblgmaaP2b
namespace Go.Proofs.Ytpdmpekkmblgmaa
open Go.ChangeShapes Go.WideShapes Go.ChangeAt Go.RowKit Go.Maps Go.Shelf
set_option linter.unusedVariables false
set_option linter.unusedSimpArgs false
attribute [local go_sem] Oper.semAt_some

set_option maxRecDepth 100000 in
set_option maxHeartbeats 4000000 in
theorem tells_walk (n : Int) (a : Option Addr) (k cap : Nat) (l : List LK) (v : Int) (w : World) (hr : RdL w a k cap l) :
    Calls Try.prog 4 #[.int .i64 n, .slice a k cap, .int .i64 v] w fun e w' => e = .returned (.bool true) ∧ Below w.heap.size w w' := by
  have KF := fit_any n a k cap l w hr
  have KRF := fun W (b : Below w.heap.size w W) => rfit_any n a k cap l W (hr.below b)
  have KA := fun W => awake_any W
  cases hf : fit n l with
  | false =>
    rw [hf] at KF KRF
    clear hr
    go_enter Try.func4, Try.ntmps4
    go_wp2_with (first
      | (go_at_call 14; refine KF.mono ?_; clear KF; rintro e w1 ⟨rfl, b1⟩; have KR1 := KRF w1 b1)
      | (go_at_call 15; refine KR1.mono ?_; clear KR1; rintro e w2 ⟨rfl, b2⟩; have B2 := b1.trans (b2.mono b1.size); have KR2 := KRF w2 B2)
      | (go_at_call 15; refine KR2.mono ?_; clear KR2; rintro e w3 ⟨rfl, b3⟩; have B3 := B2.trans (b3.mono B2.size))
      | (go_at_call 13; refine (KA _).mono ?_; clear KA; rintro e w4 ⟨rfl, b4⟩))
    go_ret
    exact ⟨rfl, B3.trans (b4.mono B3.size)⟩
  | true =>
    rw [hf] at KF KRF
    have hap := rises_apart (fit_rises hf)
    have hl := fit_len hf
    rw [hr.size] at hl
    obtain ⟨N, rfl, h1, h2⟩ := few_nat (fit_few hf)
    obtain ⟨d, hd⟩ : ∃ d : Int, ((dg l v : Nat) : Int) = d := ⟨_, rfl⟩
    obtain ⟨x, hx⟩ : ∃ x : Int, (widthL l N N : Int) = x := ⟨_, rfl⟩
    obtain ⟨D, hD⟩ : ∃ D, dst N l v = D := ⟨_, rfl⟩
    have hDl : D.length = N := by rw [← hD]; exact dst_len N l v
    obtain ⟨p, hp⟩ : ∃ p, partsL N l = p := ⟨_, rfl⟩
    have KO : ∀ a4 c4 w4, RdL w4 a4 k c4 l → ∀ W, Below w4.heap.size w4 W → 
        (Calls Try.prog 16 #[.slice a4 k c4, .int .i64 v] W fun e w' => e = .returned (.int .i64 d) ∧ Below W.heap.size W w') ∧
        (Calls Try.prog 17 #[.slice a4 k c4, .int .i64 v] W fun e w' => e = .returned (.int .i64 d) ∧ w' = W) ∧
        (Calls Try.prog 19 #[.int .i64 (N : Int), .slice a4 k c4, .int .i64 v] W fun e w' => ∃ g, e = .returned (.slice (some ⟨g, 0, none⟩) N N) ∧ Row w' (some ⟨g, 0, none⟩) N N D ∧ Below W.heap.size W w') ∧
        (Calls Try.prog 20 #[.int .i64 (N : Int), .slice a4 k c4, .int .i64 v] W fun e w' => ∃ g, e = .returned (.slice (some ⟨g, 0, none⟩) N N) ∧ Row w' (some ⟨g, 0, none⟩) N N D ∧ Below W.heap.size W w') ∧
        (Calls Try.prog 21 #[.int .i64 (N : Int), .slice a4 k c4] W fun e w' => ∃ a' c', e = .returned (.slice a' N c') ∧ Row w' a' N c' p ∧ Below W.heap.size W w') ∧
        (Calls Try.prog 22 #[.int .i64 (N : Int), .slice a4 k c4] W fun e w' => ∃ a' c', e = .returned (.slice a' N c') ∧ Row w' a' N c' p ∧ Below W.heap.size W w') ∧
        (Calls Try.prog 23 #[.int .i64 (N : Int), .slice a4 k c4] W fun e w' => e = .returned (.int .i64 x) ∧ Below W.heap.size W w') ∧
        (Calls Try.prog 24 #[.int .i64 (N : Int), .slice a4 k c4] W fun e w' => e = .returned (.int .i64 x) ∧ Below W.heap.size W w') := by
      intro a4 c4 w4 R W b
      have R4 := R.below b
      have t1 := degree_any a4 k c4 l v W R4 hap
      have t2 := rdegree_any a4 k c4 l v W R4
      have t3 := distances_any N a4 k c4 l v W R4 hf
      have t4 := rdistances_any N a4 k c4 l v W R4 hf
      have t5 := parts_any N a4 k c4 l W R4 hf
      have t6 := rparts_any N a4 k c4 l W R4 hf
      have t7 := width_any N a4 k c4 l W R4 hf
      have t8 := rwidth_any N a4 k c4 l W R4 hf
      rw [hd] at t1 t2
      rw [hD] at t3 t4
      rw [hp] at t5 t6
      rw [hx] at t7 t8
      refine ⟨t1, t2, t3.mono ?_, t4.mono ?_, t5, t6, t7, t8⟩
      · rintro e w' ⟨g, rfl, _, hg, b'⟩
        exact ⟨g, rfl, row_block hg hDl (by omega), b'⟩
      · rintro e w' ⟨g, rfl, _, hg, b'⟩
        exact ⟨g, rfl, row_block hg hDl (by omega), b'⟩
    clear hd hx hD hDl hp hap hf
    go_enter Try.func4, Try.ntmps4
    go_wp2_with (first
      | (go_at_call 14; refine KF.mono ?_; clear KF; rintro e w1 ⟨rfl, b1⟩; have KR1 := KRF w1 b1)
      | (go_at_call 15; refine KR1.mono ?_; clear KR1; rintro e w2 ⟨rfl, b2⟩; have B2 := b1.trans (b2.mono b1.size); have KR2 := KRF w2 B2)
      | (go_at_call 15; refine KR2.mono ?_; clear KR2; rintro e w3 ⟨rfl, b3⟩; have B3 := B2.trans (b3.mono B2.size); have R3 := hr.below B3; clear KRF)
      | ((with_reducible show wpList _ _ _ (Oper.mk _ (Op.call { callee := Callee.builtin Builtin.append, args := _, argTypes := #[23, 23] }) _ _ _ _ :: _) _ _); go_must (refine wpList_copy_lstL rfl _ _ rfl rfl rfl R3 ?_; intro a4 c4 w4 L4 _ b4; have B4 := B3.trans (b4.mono B3.size); have RO := L4.rd (by omega); have RL := hr.below B4; clear R3; have O4 : Below w4.heap.size w4 w4 := Below.refl _ _; have KO1 := KO a4 c4 w4 RO; have KL1 := KO a cap w4 RL; clear KO))
      | (go_at_call 16; refine (KO1 w4 O4).1.mono ?_; rintro e w5 ⟨rfl, b5⟩; have O5 := O4.trans (b5.mono O4.size))
      | (go_at_call 17; refine (KL1 w5 O5).2.1.mono ?_; rintro e w6 ⟨rfl, rfl⟩; have O6 := O5)
      | (go_at_call 19; refine (KO1 w6 O6).2.2.1.mono ?_; rintro e w7 ⟨g7, rfl, Q7, b7⟩; have O7 := O6.trans (b7.mono O6.size))
      | (go_at_call 20; refine (KL1 w7 O7).2.2.2.1.mono ?_; rintro e w8 ⟨g8, rfl, Q8, b8⟩; have O8 := O7.trans (b8.mono O7.size); have KQ8 := ints_any _ _ _ _ _ _ _ _ w8 (Q7.below b8) Q8)
      | (go_at_call 18; refine KQ8.mono ?_; clear KQ8; rintro e w9 ⟨⟨r9, rfl, q9, b9⟩⟩; have e9 : r9 = true := q9.2 rfl; subst e9; clear q9; have O9 := O8.trans (b9.mono O8.size))
      | (go_at_call 21; refine (KO1 w9 O9).2.2.2.2.1.mono ?_; rintro e w10 ⟨g10, m10, rfl, Q10, b10⟩; have O10 := O9.trans (b10.mono O9.size))
      | (go_at_call 22; refine (KL1 w10 O10).2.2.2.2.2.1.mono ?_; rintro e w11 ⟨g11, m11, rfl, Q11, b11⟩; have O11 := O10.trans (b11.mono O10.size); have KQ11 := ints_any _ _ _ _ _ _ _ _ w11 (Q10.below b11) Q11)
      | (go_at_call 18; refine KQ11.mono ?_; clear KQ11; rintro e w12 ⟨⟨r12, rfl, q12, b12⟩⟩; have e12 : r12 = true := q12.2 rfl; subst e12; clear q12; have O12 := O11.trans (b12.mono O11.size))
      | (go_at_call 23; refine (KO1 w12 O12).2.2.2.2.2.2.1.mono ?_; rintro e w13 ⟨rfl, b13⟩; have O13 := O12.trans (b13.mono O12.size))
      | (go_at_call 24; refine (KL1 w13 O13).2.2.2.2.2.2.2.mono ?_; rintro e w14 ⟨rfl, b14⟩; have O14 := O13.trans (b14.mono O13.size))
      | (go_at_call 10; refine (same_any a4 k c4 l a k cap l w14 (RO.below O14) (RL.below O14)).mono ?_; rintro e w15 ⟨⟨r15, rfl, q15, b15⟩⟩; have e15 : r15 = true := q15.2 rfl; subst e15; clear q15; have O15 := O14.trans (b15.mono O14.size))
      | (go_at_call 13; refine (KA _).mono ?_; clear KA; rintro e wz ⟨rfl, bz⟩))
    go_ret
    exact ⟨rfl, B4.trans ((O15.trans (bz.mono O15.size)).mono B4.size)⟩
end Go.Proofs.Ytpdmpekkmblgmaa
