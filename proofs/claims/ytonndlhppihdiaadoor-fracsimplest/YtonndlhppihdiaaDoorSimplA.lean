/-
  The law FracSimplest, walked by scenarios.
-/
import Derived.Test.YtonndlhppihdiaaDoorEnv
namespace Go.Proofs.YtonndlhppihdiaaDoor
open Go.ChangeShapes Go.WideShapes Go.ChangeAt Go.RowKit
set_option linter.unusedVariables false
set_option linter.unusedSimpArgs false
set_option maxRecDepth 100000 in
set_option maxHeartbeats 2000000 in
theorem simpl_a (an ad bn bd n d : Int) (w : World) (ht : Tab w)
    (VA : ∀ W, Calls Tryd.prog 12 #[fr an ad] W fun e w' => e = .returned (.bool false) ∧ Below W.heap.size W w') :
    Calls Tryd.prog 8 #[fr an ad, fr bn bd, .int .i64 n, .int .i64 d] w fun e w' => e = .returned (.bool true) ∧ Below w.heap.size w w' := by
  have J := ((Env.start ht).push an ad).push bn bd
  rw [World.size_alloc] at J
  go_enter Tryd.func8, Tryd.ntmps8
  go_wp2_with fail
  refine (VA _).mono ?_
  rintro e w1 ⟨rfl, hb⟩
  replace J := J.below hb
  clear hb
  obtain ⟨a0, b0, _, _, z0⟩ := id (J.two (w.heap.size + 1, bn, bd) (by simp))
  obtain ⟨a1, b1, _, _, z1⟩ := id (J.two (w.heap.size, an, ad) (by simp))
  go_wp2_with fail
  refine (awake_any _ J.tab).mono ?_
  rintro e w2 ⟨rfl, hb⟩
  replace J := J.below hb
  clear hb
  clear a0 b0 z0 a1 b1 z1
  obtain ⟨a0, b0, _, _, z0⟩ := id (J.two (w.heap.size + 1, bn, bd) (by simp))
  obtain ⟨a1, b1, _, _, z1⟩ := id (J.two (w.heap.size, an, ad) (by simp))
  go_wp2_with fail
  go_ret
  exact ⟨rfl, J.old⟩

set_option maxRecDepth 100000 in
set_option maxHeartbeats 2000000 in
theorem simpl_b (an ad bn bd n d : Int) (w : World) (ht : Tab w)
    (VA : ∀ W, Calls Tryd.prog 12 #[fr an ad] W fun e w' => e = .returned (.bool true) ∧ Below W.heap.size W w')
    (VB : ∀ W, Calls Tryd.prog 12 #[fr bn bd] W fun e w' => e = .returned (.bool false) ∧ Below W.heap.size W w') :
    Calls Tryd.prog 8 #[fr an ad, fr bn bd, .int .i64 n, .int .i64 d] w fun e w' => e = .returned (.bool true) ∧ Below w.heap.size w w' := by
  have J := ((Env.start ht).push an ad).push bn bd
  rw [World.size_alloc] at J
  go_enter Tryd.func8, Tryd.ntmps8
  go_wp2_with fail
  refine (VA _).mono ?_
  rintro e w1 ⟨rfl, hb⟩
  replace J := J.below hb
  clear hb
  obtain ⟨a0, b0, _, _, z0⟩ := id (J.two (w.heap.size + 1, bn, bd) (by simp))
  obtain ⟨a1, b1, _, _, z1⟩ := id (J.two (w.heap.size, an, ad) (by simp))
  go_wp2_with fail
  refine (VB _).mono ?_
  rintro e w2 ⟨rfl, hb⟩
  replace J := J.below hb
  clear hb
  clear a0 b0 z0 a1 b1 z1
  obtain ⟨a0, b0, _, _, z0⟩ := id (J.two (w.heap.size + 1, bn, bd) (by simp))
  obtain ⟨a1, b1, _, _, z1⟩ := id (J.two (w.heap.size, an, ad) (by simp))
  go_wp2_with fail
  refine (awake_any _ J.tab).mono ?_
  rintro e w3 ⟨rfl, hb⟩
  replace J := J.below hb
  clear hb
  clear a0 b0 z0 a1 b1 z1
  obtain ⟨a0, b0, _, _, z0⟩ := id (J.two (w.heap.size + 1, bn, bd) (by simp))
  obtain ⟨a1, b1, _, _, z1⟩ := id (J.two (w.heap.size, an, ad) (by simp))
  go_wp2_with fail
  go_ret
  exact ⟨rfl, J.old⟩

set_option maxRecDepth 100000 in
set_option maxHeartbeats 2000000 in
theorem simpl_c (an ad bn bd n d c0 : Int) (w : World) (ht : Tab w)
    (h0 : 0 < c0)
    (VA : ∀ W, Calls Tryd.prog 12 #[fr an ad] W fun e w' => e = .returned (.bool true) ∧ Below W.heap.size W w')
    (VB : ∀ W, Calls Tryd.prog 12 #[fr bn bd] W fun e w' => e = .returned (.bool true) ∧ Below W.heap.size W w')
    (C0 : ∀ W, Calls Tryd.prog 22 #[fr an ad, fr bn bd] W fun e w' => e = .returned (.int .i64 c0) ∧ Below W.heap.size W w') :
    Calls Tryd.prog 8 #[fr an ad, fr bn bd, .int .i64 n, .int .i64 d] w fun e w' => e = .returned (.bool true) ∧ Below w.heap.size w w' := by
  have J := ((Env.start ht).push an ad).push bn bd
  rw [World.size_alloc] at J
  go_enter Tryd.func8, Tryd.ntmps8
  go_wp2_with fail
  refine (VA _).mono ?_
  rintro e w1 ⟨rfl, hb⟩
  replace J := J.below hb
  clear hb
  obtain ⟨a0, b0, _, _, z0⟩ := id (J.two (w.heap.size + 1, bn, bd) (by simp))
  obtain ⟨a1, b1, _, _, z1⟩ := id (J.two (w.heap.size, an, ad) (by simp))
  go_wp2_with fail
  refine (VB _).mono ?_
  rintro e w2 ⟨rfl, hb⟩
  replace J := J.below hb
  clear hb
  clear a0 b0 z0 a1 b1 z1
  obtain ⟨a0, b0, _, _, z0⟩ := id (J.two (w.heap.size + 1, bn, bd) (by simp))
  obtain ⟨a1, b1, _, _, z1⟩ := id (J.two (w.heap.size, an, ad) (by simp))
  go_wp2_with fail
  refine (C0 _).mono ?_
  rintro e w3 ⟨rfl, hb⟩
  replace J := J.below hb
  clear hb
  clear a0 b0 z0 a1 b1 z1
  obtain ⟨a0, b0, _, _, z0⟩ := id (J.two (w.heap.size + 1, bn, bd) (by simp))
  obtain ⟨a1, b1, _, _, z1⟩ := id (J.two (w.heap.size, an, ad) (by simp))
  go_wp2_with fail
  refine (awake_any _ J.tab).mono ?_
  rintro e w4 ⟨rfl, hb⟩
  replace J := J.below hb
  clear hb
  clear a0 b0 z0 a1 b1 z1
  obtain ⟨a0, b0, _, _, z0⟩ := id (J.two (w.heap.size + 1, bn, bd) (by simp))
  obtain ⟨a1, b1, _, _, z1⟩ := id (J.two (w.heap.size, an, ad) (by simp))
  go_wp2_with fail
  go_ret
  exact ⟨rfl, J.old⟩

set_option maxRecDepth 100000 in
set_option maxHeartbeats 2000000 in
theorem simpl_d1 (an ad bn bd n d p q gn gd ge c0 c1 c2 : Int) (w : World) (ht : Tab w)
    (h0 : ¬ 0 < c0) (h1 : ¬ c1 < 0) (h2 : ¬ 0 < c2)
    (VA : ∀ W, Calls Tryd.prog 12 #[fr an ad] W fun e w' => e = .returned (.bool true) ∧ Below W.heap.size W w')
    (VB : ∀ W, Calls Tryd.prog 12 #[fr bn bd] W fun e w' => e = .returned (.bool true) ∧ Below W.heap.size W w')
    (C0 : ∀ W, Calls Tryd.prog 22 #[fr an ad, fr bn bd] W fun e w' => e = .returned (.int .i64 c0) ∧ Below W.heap.size W w')
    (P : ∀ W, Tab W → Calls Tryd.prog 34 #[fr an ad, fr bn bd] W fun e w' => e = .returned (.tuple #[fr p q, .bool true]) ∧ Below W.heap.size W w')
    (VF : ∀ W, Calls Tryd.prog 12 #[fr p q] W fun e w' => e = .returned (.bool true) ∧ Below W.heap.size W w')
    (C1 : ∀ W, Calls Tryd.prog 22 #[fr p q, fr an ad] W fun e w' => e = .returned (.int .i64 c1) ∧ Below W.heap.size W w')
    (C2 : ∀ W, Calls Tryd.prog 22 #[fr p q, fr bn bd] W fun e w' => e = .returned (.int .i64 c2) ∧ Below W.heap.size W w')
    (MK : ∀ W, Calls Tryd.prog 9 #[.int .i64 n, .int .i64 d] W fun e w' => e = .returned (.tuple #[fr gn gd, .int .i64 ge]) ∧ Below W.heap.size W w')
    (h3 : (ge != 0) = true) :
    Calls Tryd.prog 8 #[fr an ad, fr bn bd, .int .i64 n, .int .i64 d] w fun e w' => e = .returned (.bool true) ∧ Below w.heap.size w w' := by
  have J := ((Env.start ht).push an ad).push bn bd
  rw [World.size_alloc] at J
  go_enter Tryd.func8, Tryd.ntmps8
  go_wp2_with fail
  refine (VA _).mono ?_
  rintro e w1 ⟨rfl, hb⟩
  replace J := J.below hb
  clear hb
  obtain ⟨a0, b0, _, _, z0⟩ := id (J.two (w.heap.size + 1, bn, bd) (by simp))
  obtain ⟨a1, b1, _, _, z1⟩ := id (J.two (w.heap.size, an, ad) (by simp))
  go_wp2_with fail
  refine (VB _).mono ?_
  rintro e w2 ⟨rfl, hb⟩
  replace J := J.below hb
  clear hb
  clear a0 b0 z0 a1 b1 z1
  obtain ⟨a0, b0, _, _, z0⟩ := id (J.two (w.heap.size + 1, bn, bd) (by simp))
  obtain ⟨a1, b1, _, _, z1⟩ := id (J.two (w.heap.size, an, ad) (by simp))
  go_wp2_with fail
  refine (C0 _).mono ?_
  rintro e w3 ⟨rfl, hb⟩
  replace J := J.below hb
  clear hb
  clear a0 b0 z0 a1 b1 z1
  obtain ⟨a0, b0, _, _, z0⟩ := id (J.two (w.heap.size + 1, bn, bd) (by simp))
  obtain ⟨a1, b1, _, _, z1⟩ := id (J.two (w.heap.size, an, ad) (by simp))
  go_wp2_with fail
  refine (P _ J.tab).mono ?_
  rintro e w4 ⟨rfl, hb⟩
  replace J := (J.below hb).push p q
  clear hb
  clear a0 b0 z0 a1 b1 z1
  obtain ⟨a0, b0, _, _, z0⟩ := id (J.two (w4.heap.size, p, q) (by simp))
  obtain ⟨a1, b1, _, _, z1⟩ := id (J.two (w.heap.size + 1, bn, bd) (by simp))
  obtain ⟨a2, b2, _, _, z2⟩ := id (J.two (w.heap.size, an, ad) (by simp))
  go_wp2_with fail
  refine (VF _).mono ?_
  rintro e w5 ⟨rfl, hb⟩
  replace J := J.below hb
  clear hb
  clear a0 b0 z0 a1 b1 z1 a2 b2 z2
  obtain ⟨a0, b0, _, _, z0⟩ := id (J.two (w4.heap.size, p, q) (by simp))
  obtain ⟨a1, b1, _, _, z1⟩ := id (J.two (w.heap.size + 1, bn, bd) (by simp))
  obtain ⟨a2, b2, _, _, z2⟩ := id (J.two (w.heap.size, an, ad) (by simp))
  go_wp2_with fail
  refine (C1 _).mono ?_
  rintro e w6 ⟨rfl, hb⟩
  replace J := J.below hb
  clear hb
  clear a0 b0 z0 a1 b1 z1 a2 b2 z2
  obtain ⟨a0, b0, _, _, z0⟩ := id (J.two (w4.heap.size, p, q) (by simp))
  obtain ⟨a1, b1, _, _, z1⟩ := id (J.two (w.heap.size + 1, bn, bd) (by simp))
  obtain ⟨a2, b2, _, _, z2⟩ := id (J.two (w.heap.size, an, ad) (by simp))
  go_wp2_with fail
  refine (C2 _).mono ?_
  rintro e w7 ⟨rfl, hb⟩
  replace J := J.below hb
  clear hb
  clear a0 b0 z0 a1 b1 z1 a2 b2 z2
  obtain ⟨a0, b0, _, _, z0⟩ := id (J.two (w4.heap.size, p, q) (by simp))
  obtain ⟨a1, b1, _, _, z1⟩ := id (J.two (w.heap.size + 1, bn, bd) (by simp))
  obtain ⟨a2, b2, _, _, z2⟩ := id (J.two (w.heap.size, an, ad) (by simp))
  go_wp2_with fail
  refine (MK _).mono ?_
  rintro e w8 ⟨rfl, hb⟩
  replace J := (J.below hb).push gn gd
  clear hb
  clear a0 b0 z0 a1 b1 z1 a2 b2 z2
  obtain ⟨a0, b0, _, _, z0⟩ := id (J.two (w8.heap.size, gn, gd) (by simp))
  obtain ⟨a1, b1, _, _, z1⟩ := id (J.two (w4.heap.size, p, q) (by simp))
  obtain ⟨a2, b2, _, _, z2⟩ := id (J.two (w.heap.size + 1, bn, bd) (by simp))
  obtain ⟨a3, b3, _, _, z3⟩ := id (J.two (w.heap.size, an, ad) (by simp))
  go_wp2_with fail
  refine (awake_any _ J.tab).mono ?_
  rintro e w9 ⟨rfl, hb⟩
  replace J := J.below hb
  clear hb
  clear a0 b0 z0 a1 b1 z1 a2 b2 z2 a3 b3 z3
  obtain ⟨a0, b0, _, _, z0⟩ := id (J.two (w8.heap.size, gn, gd) (by simp))
  obtain ⟨a1, b1, _, _, z1⟩ := id (J.two (w4.heap.size, p, q) (by simp))
  obtain ⟨a2, b2, _, _, z2⟩ := id (J.two (w.heap.size + 1, bn, bd) (by simp))
  obtain ⟨a3, b3, _, _, z3⟩ := id (J.two (w.heap.size, an, ad) (by simp))
  go_wp2_with fail
  go_ret
  exact ⟨rfl, J.old⟩

set_option maxRecDepth 100000 in
set_option maxHeartbeats 2000000 in
theorem simpl_d2 (an ad bn bd n d p q gn gd c0 c1 c2 c3 : Int) (w : World) (ht : Tab w)
    (h0 : ¬ 0 < c0) (h1 : ¬ c1 < 0) (h2 : ¬ 0 < c2)
    (VA : ∀ W, Calls Tryd.prog 12 #[fr an ad] W fun e w' => e = .returned (.bool true) ∧ Below W.heap.size W w')
    (VB : ∀ W, Calls Tryd.prog 12 #[fr bn bd] W fun e w' => e = .returned (.bool true) ∧ Below W.heap.size W w')
    (C0 : ∀ W, Calls Tryd.prog 22 #[fr an ad, fr bn bd] W fun e w' => e = .returned (.int .i64 c0) ∧ Below W.heap.size W w')
    (P : ∀ W, Tab W → Calls Tryd.prog 34 #[fr an ad, fr bn bd] W fun e w' => e = .returned (.tuple #[fr p q, .bool true]) ∧ Below W.heap.size W w')
    (VF : ∀ W, Calls Tryd.prog 12 #[fr p q] W fun e w' => e = .returned (.bool true) ∧ Below W.heap.size W w')
    (C1 : ∀ W, Calls Tryd.prog 22 #[fr p q, fr an ad] W fun e w' => e = .returned (.int .i64 c1) ∧ Below W.heap.size W w')
    (C2 : ∀ W, Calls Tryd.prog 22 #[fr p q, fr bn bd] W fun e w' => e = .returned (.int .i64 c2) ∧ Below W.heap.size W w')
    (MK : ∀ W, Calls Tryd.prog 9 #[.int .i64 n, .int .i64 d] W fun e w' => e = .returned (.tuple #[fr gn gd, .int .i64 0]) ∧ Below W.heap.size W w')
    (h3 : c3 < 0)
    (C3 : ∀ W, Calls Tryd.prog 22 #[fr gn gd, fr an ad] W fun e w' => e = .returned (.int .i64 c3) ∧ Below W.heap.size W w') :
    Calls Tryd.prog 8 #[fr an ad, fr bn bd, .int .i64 n, .int .i64 d] w fun e w' => e = .returned (.bool true) ∧ Below w.heap.size w w' := by
  have J := ((Env.start ht).push an ad).push bn bd
  rw [World.size_alloc] at J
  go_enter Tryd.func8, Tryd.ntmps8
  go_wp2_with fail
  refine (VA _).mono ?_
  rintro e w1 ⟨rfl, hb⟩
  replace J := J.below hb
  clear hb
  obtain ⟨a0, b0, _, _, z0⟩ := id (J.two (w.heap.size + 1, bn, bd) (by simp))
  obtain ⟨a1, b1, _, _, z1⟩ := id (J.two (w.heap.size, an, ad) (by simp))
  go_wp2_with fail
  refine (VB _).mono ?_
  rintro e w2 ⟨rfl, hb⟩
  replace J := J.below hb
  clear hb
  clear a0 b0 z0 a1 b1 z1
  obtain ⟨a0, b0, _, _, z0⟩ := id (J.two (w.heap.size + 1, bn, bd) (by simp))
  obtain ⟨a1, b1, _, _, z1⟩ := id (J.two (w.heap.size, an, ad) (by simp))
  go_wp2_with fail
  refine (C0 _).mono ?_
  rintro e w3 ⟨rfl, hb⟩
  replace J := J.below hb
  clear hb
  clear a0 b0 z0 a1 b1 z1
  obtain ⟨a0, b0, _, _, z0⟩ := id (J.two (w.heap.size + 1, bn, bd) (by simp))
  obtain ⟨a1, b1, _, _, z1⟩ := id (J.two (w.heap.size, an, ad) (by simp))
  go_wp2_with fail
  refine (P _ J.tab).mono ?_
  rintro e w4 ⟨rfl, hb⟩
  replace J := (J.below hb).push p q
  clear hb
  clear a0 b0 z0 a1 b1 z1
  obtain ⟨a0, b0, _, _, z0⟩ := id (J.two (w4.heap.size, p, q) (by simp))
  obtain ⟨a1, b1, _, _, z1⟩ := id (J.two (w.heap.size + 1, bn, bd) (by simp))
  obtain ⟨a2, b2, _, _, z2⟩ := id (J.two (w.heap.size, an, ad) (by simp))
  go_wp2_with fail
  refine (VF _).mono ?_
  rintro e w5 ⟨rfl, hb⟩
  replace J := J.below hb
  clear hb
  clear a0 b0 z0 a1 b1 z1 a2 b2 z2
  obtain ⟨a0, b0, _, _, z0⟩ := id (J.two (w4.heap.size, p, q) (by simp))
  obtain ⟨a1, b1, _, _, z1⟩ := id (J.two (w.heap.size + 1, bn, bd) (by simp))
  obtain ⟨a2, b2, _, _, z2⟩ := id (J.two (w.heap.size, an, ad) (by simp))
  go_wp2_with fail
  refine (C1 _).mono ?_
  rintro e w6 ⟨rfl, hb⟩
  replace J := J.below hb
  clear hb
  clear a0 b0 z0 a1 b1 z1 a2 b2 z2
  obtain ⟨a0, b0, _, _, z0⟩ := id (J.two (w4.heap.size, p, q) (by simp))
  obtain ⟨a1, b1, _, _, z1⟩ := id (J.two (w.heap.size + 1, bn, bd) (by simp))
  obtain ⟨a2, b2, _, _, z2⟩ := id (J.two (w.heap.size, an, ad) (by simp))
  go_wp2_with fail
  refine (C2 _).mono ?_
  rintro e w7 ⟨rfl, hb⟩
  replace J := J.below hb
  clear hb
  clear a0 b0 z0 a1 b1 z1 a2 b2 z2
  obtain ⟨a0, b0, _, _, z0⟩ := id (J.two (w4.heap.size, p, q) (by simp))
  obtain ⟨a1, b1, _, _, z1⟩ := id (J.two (w.heap.size + 1, bn, bd) (by simp))
  obtain ⟨a2, b2, _, _, z2⟩ := id (J.two (w.heap.size, an, ad) (by simp))
  go_wp2_with fail
  refine (MK _).mono ?_
  rintro e w8 ⟨rfl, hb⟩
  replace J := (J.below hb).push gn gd
  clear hb
  clear a0 b0 z0 a1 b1 z1 a2 b2 z2
  obtain ⟨a0, b0, _, _, z0⟩ := id (J.two (w8.heap.size, gn, gd) (by simp))
  obtain ⟨a1, b1, _, _, z1⟩ := id (J.two (w4.heap.size, p, q) (by simp))
  obtain ⟨a2, b2, _, _, z2⟩ := id (J.two (w.heap.size + 1, bn, bd) (by simp))
  obtain ⟨a3, b3, _, _, z3⟩ := id (J.two (w.heap.size, an, ad) (by simp))
  go_wp2_with fail
  refine (C3 _).mono ?_
  rintro e w9 ⟨rfl, hb⟩
  replace J := J.below hb
  clear hb
  clear a0 b0 z0 a1 b1 z1 a2 b2 z2 a3 b3 z3
  obtain ⟨a0, b0, _, _, z0⟩ := id (J.two (w8.heap.size, gn, gd) (by simp))
  obtain ⟨a1, b1, _, _, z1⟩ := id (J.two (w4.heap.size, p, q) (by simp))
  obtain ⟨a2, b2, _, _, z2⟩ := id (J.two (w.heap.size + 1, bn, bd) (by simp))
  obtain ⟨a3, b3, _, _, z3⟩ := id (J.two (w.heap.size, an, ad) (by simp))
  go_wp2_with fail
  refine (awake_any _ J.tab).mono ?_
  rintro e w10 ⟨rfl, hb⟩
  replace J := J.below hb
  clear hb
  clear a0 b0 z0 a1 b1 z1 a2 b2 z2 a3 b3 z3
  obtain ⟨a0, b0, _, _, z0⟩ := id (J.two (w8.heap.size, gn, gd) (by simp))
  obtain ⟨a1, b1, _, _, z1⟩ := id (J.two (w4.heap.size, p, q) (by simp))
  obtain ⟨a2, b2, _, _, z2⟩ := id (J.two (w.heap.size + 1, bn, bd) (by simp))
  obtain ⟨a3, b3, _, _, z3⟩ := id (J.two (w.heap.size, an, ad) (by simp))
  go_wp2_with fail
  go_ret
  exact ⟨rfl, J.old⟩

set_option maxRecDepth 100000 in
set_option maxHeartbeats 2000000 in
theorem simpl_d3 (an ad bn bd n d p q gn gd c0 c1 c2 c3 c4 : Int) (w : World) (ht : Tab w)
    (h0 : ¬ 0 < c0) (h1 : ¬ c1 < 0) (h2 : ¬ 0 < c2)
    (VA : ∀ W, Calls Tryd.prog 12 #[fr an ad] W fun e w' => e = .returned (.bool true) ∧ Below W.heap.size W w')
    (VB : ∀ W, Calls Tryd.prog 12 #[fr bn bd] W fun e w' => e = .returned (.bool true) ∧ Below W.heap.size W w')
    (C0 : ∀ W, Calls Tryd.prog 22 #[fr an ad, fr bn bd] W fun e w' => e = .returned (.int .i64 c0) ∧ Below W.heap.size W w')
    (P : ∀ W, Tab W → Calls Tryd.prog 34 #[fr an ad, fr bn bd] W fun e w' => e = .returned (.tuple #[fr p q, .bool true]) ∧ Below W.heap.size W w')
    (VF : ∀ W, Calls Tryd.prog 12 #[fr p q] W fun e w' => e = .returned (.bool true) ∧ Below W.heap.size W w')
    (C1 : ∀ W, Calls Tryd.prog 22 #[fr p q, fr an ad] W fun e w' => e = .returned (.int .i64 c1) ∧ Below W.heap.size W w')
    (C2 : ∀ W, Calls Tryd.prog 22 #[fr p q, fr bn bd] W fun e w' => e = .returned (.int .i64 c2) ∧ Below W.heap.size W w')
    (MK : ∀ W, Calls Tryd.prog 9 #[.int .i64 n, .int .i64 d] W fun e w' => e = .returned (.tuple #[fr gn gd, .int .i64 0]) ∧ Below W.heap.size W w')
    (h3 : ¬ c3 < 0) (h4 : 0 < c4)
    (C3 : ∀ W, Calls Tryd.prog 22 #[fr gn gd, fr an ad] W fun e w' => e = .returned (.int .i64 c3) ∧ Below W.heap.size W w')
    (C4 : ∀ W, Calls Tryd.prog 22 #[fr gn gd, fr bn bd] W fun e w' => e = .returned (.int .i64 c4) ∧ Below W.heap.size W w') :
    Calls Tryd.prog 8 #[fr an ad, fr bn bd, .int .i64 n, .int .i64 d] w fun e w' => e = .returned (.bool true) ∧ Below w.heap.size w w' := by
  have J := ((Env.start ht).push an ad).push bn bd
  rw [World.size_alloc] at J
  go_enter Tryd.func8, Tryd.ntmps8
  go_wp2_with fail
  refine (VA _).mono ?_
  rintro e w1 ⟨rfl, hb⟩
  replace J := J.below hb
  clear hb
  obtain ⟨a0, b0, _, _, z0⟩ := id (J.two (w.heap.size + 1, bn, bd) (by simp))
  obtain ⟨a1, b1, _, _, z1⟩ := id (J.two (w.heap.size, an, ad) (by simp))
  go_wp2_with fail
  refine (VB _).mono ?_
  rintro e w2 ⟨rfl, hb⟩
  replace J := J.below hb
  clear hb
  clear a0 b0 z0 a1 b1 z1
  obtain ⟨a0, b0, _, _, z0⟩ := id (J.two (w.heap.size + 1, bn, bd) (by simp))
  obtain ⟨a1, b1, _, _, z1⟩ := id (J.two (w.heap.size, an, ad) (by simp))
  go_wp2_with fail
  refine (C0 _).mono ?_
  rintro e w3 ⟨rfl, hb⟩
  replace J := J.below hb
  clear hb
  clear a0 b0 z0 a1 b1 z1
  obtain ⟨a0, b0, _, _, z0⟩ := id (J.two (w.heap.size + 1, bn, bd) (by simp))
  obtain ⟨a1, b1, _, _, z1⟩ := id (J.two (w.heap.size, an, ad) (by simp))
  go_wp2_with fail
  refine (P _ J.tab).mono ?_
  rintro e w4 ⟨rfl, hb⟩
  replace J := (J.below hb).push p q
  clear hb
  clear a0 b0 z0 a1 b1 z1
  obtain ⟨a0, b0, _, _, z0⟩ := id (J.two (w4.heap.size, p, q) (by simp))
  obtain ⟨a1, b1, _, _, z1⟩ := id (J.two (w.heap.size + 1, bn, bd) (by simp))
  obtain ⟨a2, b2, _, _, z2⟩ := id (J.two (w.heap.size, an, ad) (by simp))
  go_wp2_with fail
  refine (VF _).mono ?_
  rintro e w5 ⟨rfl, hb⟩
  replace J := J.below hb
  clear hb
  clear a0 b0 z0 a1 b1 z1 a2 b2 z2
  obtain ⟨a0, b0, _, _, z0⟩ := id (J.two (w4.heap.size, p, q) (by simp))
  obtain ⟨a1, b1, _, _, z1⟩ := id (J.two (w.heap.size + 1, bn, bd) (by simp))
  obtain ⟨a2, b2, _, _, z2⟩ := id (J.two (w.heap.size, an, ad) (by simp))
  go_wp2_with fail
  refine (C1 _).mono ?_
  rintro e w6 ⟨rfl, hb⟩
  replace J := J.below hb
  clear hb
  clear a0 b0 z0 a1 b1 z1 a2 b2 z2
  obtain ⟨a0, b0, _, _, z0⟩ := id (J.two (w4.heap.size, p, q) (by simp))
  obtain ⟨a1, b1, _, _, z1⟩ := id (J.two (w.heap.size + 1, bn, bd) (by simp))
  obtain ⟨a2, b2, _, _, z2⟩ := id (J.two (w.heap.size, an, ad) (by simp))
  go_wp2_with fail
  refine (C2 _).mono ?_
  rintro e w7 ⟨rfl, hb⟩
  replace J := J.below hb
  clear hb
  clear a0 b0 z0 a1 b1 z1 a2 b2 z2
  obtain ⟨a0, b0, _, _, z0⟩ := id (J.two (w4.heap.size, p, q) (by simp))
  obtain ⟨a1, b1, _, _, z1⟩ := id (J.two (w.heap.size + 1, bn, bd) (by simp))
  obtain ⟨a2, b2, _, _, z2⟩ := id (J.two (w.heap.size, an, ad) (by simp))
  go_wp2_with fail
  refine (MK _).mono ?_
  rintro e w8 ⟨rfl, hb⟩
  replace J := (J.below hb).push gn gd
  clear hb
  clear a0 b0 z0 a1 b1 z1 a2 b2 z2
  obtain ⟨a0, b0, _, _, z0⟩ := id (J.two (w8.heap.size, gn, gd) (by simp))
  obtain ⟨a1, b1, _, _, z1⟩ := id (J.two (w4.heap.size, p, q) (by simp))
  obtain ⟨a2, b2, _, _, z2⟩ := id (J.two (w.heap.size + 1, bn, bd) (by simp))
  obtain ⟨a3, b3, _, _, z3⟩ := id (J.two (w.heap.size, an, ad) (by simp))
  go_wp2_with fail
  refine (C3 _).mono ?_
  rintro e w9 ⟨rfl, hb⟩
  replace J := J.below hb
  clear hb
  clear a0 b0 z0 a1 b1 z1 a2 b2 z2 a3 b3 z3
  obtain ⟨a0, b0, _, _, z0⟩ := id (J.two (w8.heap.size, gn, gd) (by simp))
  obtain ⟨a1, b1, _, _, z1⟩ := id (J.two (w4.heap.size, p, q) (by simp))
  obtain ⟨a2, b2, _, _, z2⟩ := id (J.two (w.heap.size + 1, bn, bd) (by simp))
  obtain ⟨a3, b3, _, _, z3⟩ := id (J.two (w.heap.size, an, ad) (by simp))
  go_wp2_with fail
  refine (C4 _).mono ?_
  rintro e w10 ⟨rfl, hb⟩
  replace J := J.below hb
  clear hb
  clear a0 b0 z0 a1 b1 z1 a2 b2 z2 a3 b3 z3
  obtain ⟨a0, b0, _, _, z0⟩ := id (J.two (w8.heap.size, gn, gd) (by simp))
  obtain ⟨a1, b1, _, _, z1⟩ := id (J.two (w4.heap.size, p, q) (by simp))
  obtain ⟨a2, b2, _, _, z2⟩ := id (J.two (w.heap.size + 1, bn, bd) (by simp))
  obtain ⟨a3, b3, _, _, z3⟩ := id (J.two (w.heap.size, an, ad) (by simp))
  go_wp2_with fail
  refine (awake_any _ J.tab).mono ?_
  rintro e w11 ⟨rfl, hb⟩
  replace J := J.below hb
  clear hb
  clear a0 b0 z0 a1 b1 z1 a2 b2 z2 a3 b3 z3
  obtain ⟨a0, b0, _, _, z0⟩ := id (J.two (w8.heap.size, gn, gd) (by simp))
  obtain ⟨a1, b1, _, _, z1⟩ := id (J.two (w4.heap.size, p, q) (by simp))
  obtain ⟨a2, b2, _, _, z2⟩ := id (J.two (w.heap.size + 1, bn, bd) (by simp))
  obtain ⟨a3, b3, _, _, z3⟩ := id (J.two (w.heap.size, an, ad) (by simp))
  go_wp2_with fail
  go_ret
  exact ⟨rfl, J.old⟩

set_option maxRecDepth 100000 in
set_option maxHeartbeats 2000000 in
theorem simpl_d4 (an ad bn bd n d p q gn gd c0 c1 c2 c3 c4 : Int) (w : World) (ht : Tab w)
    (h0 : ¬ 0 < c0) (h1 : ¬ c1 < 0) (h2 : ¬ 0 < c2)
    (VA : ∀ W, Calls Tryd.prog 12 #[fr an ad] W fun e w' => e = .returned (.bool true) ∧ Below W.heap.size W w')
    (VB : ∀ W, Calls Tryd.prog 12 #[fr bn bd] W fun e w' => e = .returned (.bool true) ∧ Below W.heap.size W w')
    (C0 : ∀ W, Calls Tryd.prog 22 #[fr an ad, fr bn bd] W fun e w' => e = .returned (.int .i64 c0) ∧ Below W.heap.size W w')
    (P : ∀ W, Tab W → Calls Tryd.prog 34 #[fr an ad, fr bn bd] W fun e w' => e = .returned (.tuple #[fr p q, .bool true]) ∧ Below W.heap.size W w')
    (VF : ∀ W, Calls Tryd.prog 12 #[fr p q] W fun e w' => e = .returned (.bool true) ∧ Below W.heap.size W w')
    (C1 : ∀ W, Calls Tryd.prog 22 #[fr p q, fr an ad] W fun e w' => e = .returned (.int .i64 c1) ∧ Below W.heap.size W w')
    (C2 : ∀ W, Calls Tryd.prog 22 #[fr p q, fr bn bd] W fun e w' => e = .returned (.int .i64 c2) ∧ Below W.heap.size W w')
    (MK : ∀ W, Calls Tryd.prog 9 #[.int .i64 n, .int .i64 d] W fun e w' => e = .returned (.tuple #[fr gn gd, .int .i64 0]) ∧ Below W.heap.size W w')
    (h3 : ¬ c3 < 0) (h4 : ¬ 0 < c4) (h5 : q < gd)
    (C3 : ∀ W, Calls Tryd.prog 22 #[fr gn gd, fr an ad] W fun e w' => e = .returned (.int .i64 c3) ∧ Below W.heap.size W w')
    (C4 : ∀ W, Calls Tryd.prog 22 #[fr gn gd, fr bn bd] W fun e w' => e = .returned (.int .i64 c4) ∧ Below W.heap.size W w') :
    Calls Tryd.prog 8 #[fr an ad, fr bn bd, .int .i64 n, .int .i64 d] w fun e w' => e = .returned (.bool true) ∧ Below w.heap.size w w' := by
  have J := ((Env.start ht).push an ad).push bn bd
  rw [World.size_alloc] at J
  go_enter Tryd.func8, Tryd.ntmps8
  go_wp2_with fail
  refine (VA _).mono ?_
  rintro e w1 ⟨rfl, hb⟩
  replace J := J.below hb
  clear hb
  obtain ⟨a0, b0, _, _, z0⟩ := id (J.two (w.heap.size + 1, bn, bd) (by simp))
  obtain ⟨a1, b1, _, _, z1⟩ := id (J.two (w.heap.size, an, ad) (by simp))
  go_wp2_with fail
  refine (VB _).mono ?_
  rintro e w2 ⟨rfl, hb⟩
  replace J := J.below hb
  clear hb
  clear a0 b0 z0 a1 b1 z1
  obtain ⟨a0, b0, _, _, z0⟩ := id (J.two (w.heap.size + 1, bn, bd) (by simp))
  obtain ⟨a1, b1, _, _, z1⟩ := id (J.two (w.heap.size, an, ad) (by simp))
  go_wp2_with fail
  refine (C0 _).mono ?_
  rintro e w3 ⟨rfl, hb⟩
  replace J := J.below hb
  clear hb
  clear a0 b0 z0 a1 b1 z1
  obtain ⟨a0, b0, _, _, z0⟩ := id (J.two (w.heap.size + 1, bn, bd) (by simp))
  obtain ⟨a1, b1, _, _, z1⟩ := id (J.two (w.heap.size, an, ad) (by simp))
  go_wp2_with fail
  refine (P _ J.tab).mono ?_
  rintro e w4 ⟨rfl, hb⟩
  replace J := (J.below hb).push p q
  clear hb
  clear a0 b0 z0 a1 b1 z1
  obtain ⟨a0, b0, _, _, z0⟩ := id (J.two (w4.heap.size, p, q) (by simp))
  obtain ⟨a1, b1, _, _, z1⟩ := id (J.two (w.heap.size + 1, bn, bd) (by simp))
  obtain ⟨a2, b2, _, _, z2⟩ := id (J.two (w.heap.size, an, ad) (by simp))
  go_wp2_with fail
  refine (VF _).mono ?_
  rintro e w5 ⟨rfl, hb⟩
  replace J := J.below hb
  clear hb
  clear a0 b0 z0 a1 b1 z1 a2 b2 z2
  obtain ⟨a0, b0, _, _, z0⟩ := id (J.two (w4.heap.size, p, q) (by simp))
  obtain ⟨a1, b1, _, _, z1⟩ := id (J.two (w.heap.size + 1, bn, bd) (by simp))
  obtain ⟨a2, b2, _, _, z2⟩ := id (J.two (w.heap.size, an, ad) (by simp))
  go_wp2_with fail
  refine (C1 _).mono ?_
  rintro e w6 ⟨rfl, hb⟩
  replace J := J.below hb
  clear hb
  clear a0 b0 z0 a1 b1 z1 a2 b2 z2
  obtain ⟨a0, b0, _, _, z0⟩ := id (J.two (w4.heap.size, p, q) (by simp))
  obtain ⟨a1, b1, _, _, z1⟩ := id (J.two (w.heap.size + 1, bn, bd) (by simp))
  obtain ⟨a2, b2, _, _, z2⟩ := id (J.two (w.heap.size, an, ad) (by simp))
  go_wp2_with fail
  refine (C2 _).mono ?_
  rintro e w7 ⟨rfl, hb⟩
  replace J := J.below hb
  clear hb
  clear a0 b0 z0 a1 b1 z1 a2 b2 z2
  obtain ⟨a0, b0, _, _, z0⟩ := id (J.two (w4.heap.size, p, q) (by simp))
  obtain ⟨a1, b1, _, _, z1⟩ := id (J.two (w.heap.size + 1, bn, bd) (by simp))
  obtain ⟨a2, b2, _, _, z2⟩ := id (J.two (w.heap.size, an, ad) (by simp))
  go_wp2_with fail
  refine (MK _).mono ?_
  rintro e w8 ⟨rfl, hb⟩
  replace J := (J.below hb).push gn gd
  clear hb
  clear a0 b0 z0 a1 b1 z1 a2 b2 z2
  obtain ⟨a0, b0, _, _, z0⟩ := id (J.two (w8.heap.size, gn, gd) (by simp))
  obtain ⟨a1, b1, _, _, z1⟩ := id (J.two (w4.heap.size, p, q) (by simp))
  obtain ⟨a2, b2, _, _, z2⟩ := id (J.two (w.heap.size + 1, bn, bd) (by simp))
  obtain ⟨a3, b3, _, _, z3⟩ := id (J.two (w.heap.size, an, ad) (by simp))
  go_wp2_with fail
  refine (C3 _).mono ?_
  rintro e w9 ⟨rfl, hb⟩
  replace J := J.below hb
  clear hb
  clear a0 b0 z0 a1 b1 z1 a2 b2 z2 a3 b3 z3
  obtain ⟨a0, b0, _, _, z0⟩ := id (J.two (w8.heap.size, gn, gd) (by simp))
  obtain ⟨a1, b1, _, _, z1⟩ := id (J.two (w4.heap.size, p, q) (by simp))
  obtain ⟨a2, b2, _, _, z2⟩ := id (J.two (w.heap.size + 1, bn, bd) (by simp))
  obtain ⟨a3, b3, _, _, z3⟩ := id (J.two (w.heap.size, an, ad) (by simp))
  go_wp2_with fail
  refine (C4 _).mono ?_
  rintro e w10 ⟨rfl, hb⟩
  replace J := J.below hb
  clear hb
  clear a0 b0 z0 a1 b1 z1 a2 b2 z2 a3 b3 z3
  obtain ⟨a0, b0, _, _, z0⟩ := id (J.two (w8.heap.size, gn, gd) (by simp))
  obtain ⟨a1, b1, _, _, z1⟩ := id (J.two (w4.heap.size, p, q) (by simp))
  obtain ⟨a2, b2, _, _, z2⟩ := id (J.two (w.heap.size + 1, bn, bd) (by simp))
  obtain ⟨a3, b3, _, _, z3⟩ := id (J.two (w.heap.size, an, ad) (by simp))
  go_wp2_with fail
  refine (awake_any _ J.tab).mono ?_
  rintro e w11 ⟨rfl, hb⟩
  replace J := J.below hb
  clear hb
  clear a0 b0 z0 a1 b1 z1 a2 b2 z2 a3 b3 z3
  obtain ⟨a0, b0, _, _, z0⟩ := id (J.two (w8.heap.size, gn, gd) (by simp))
  obtain ⟨a1, b1, _, _, z1⟩ := id (J.two (w4.heap.size, p, q) (by simp))
  obtain ⟨a2, b2, _, _, z2⟩ := id (J.two (w.heap.size + 1, bn, bd) (by simp))
  obtain ⟨a3, b3, _, _, z3⟩ := id (J.two (w.heap.size, an, ad) (by simp))
  go_wp2_with fail
  go_ret
  exact ⟨rfl, J.old⟩

end Go.Proofs.YtonndlhppihdiaaDoor
