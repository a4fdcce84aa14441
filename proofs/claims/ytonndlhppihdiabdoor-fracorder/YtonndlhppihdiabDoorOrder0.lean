/-
  The law FracOrder, walked: some of its ways (0).
-/
import Derived.Test.YtonndlhppihdiabDoorEnv
namespace Go.Proofs.YtonndlhppihdiabDoor
open Go.ChangeShapes Go.WideShapes Go.ChangeAt Go.RowKit
set_option linter.unusedVariables false
set_option linter.unusedSimpArgs false

set_option maxRecDepth 100000 in
set_option maxHeartbeats 4000000 in
theorem order_p_num_n_d_s (an ad bn bd cn cd y z dn dd de sn sd se tn td te : Int) (w : World) (ht : Tab w)
    (hq : (an == bn) = false)
    (Va : Hid (∀ W, Calls Tryd.prog 8 #[fr an ad] W fun e w' => e = .returned (.bool true) ∧ Below W.heap.size W w'))
    (Vb : Hid (∀ W, Calls Tryd.prog 8 #[fr bn bd] W fun e w' => e = .returned (.bool true) ∧ Below W.heap.size W w'))
    (Vc : Hid (∀ W, Calls Tryd.prog 8 #[fr cn cd] W fun e w' => e = .returned (.bool true) ∧ Below W.heap.size W w'))
    (C1 : Hid (∀ W, Calls Tryd.prog 16 #[fr an ad, fr bn bd] W fun e w' => e = .returned (.int .i64 1) ∧ Below W.heap.size W w'))
    (C2 : Hid (∀ W, Calls Tryd.prog 16 #[fr bn bd, fr an ad] W fun e w' => e = .returned (.int .i64 (-1)) ∧ Below W.heap.size W w'))
    (S : Hid (∀ W, Calls Tryd.prog 13 #[fr an ad, fr bn bd] W fun e w' => e = .returned (.tuple #[fr dn dd, .int .i64 0]) ∧ Below W.heap.size W w'))
    (hd : 0 < dn)
    (A1 : Hid (∀ W, Calls Tryd.prog 12 #[fr an ad, fr cn cd] W fun e w' => e = .returned (.tuple #[fr sn sd, .int .i64 se]) ∧ Below W.heap.size W w'))
    (A2 : Hid (∀ W, Calls Tryd.prog 12 #[fr bn bd, fr cn cd] W fun e w' => e = .returned (.tuple #[fr tn td, .int .i64 te]) ∧ Below W.heap.size W w'))
    (hse : (se != 0) = true)
    :
    Calls Tryd.prog 5 #[fr an ad, fr bn bd, fr cn cd] w fun e w' => e = .returned (.bool true) ∧ Below w.heap.size w w' := by
  have J := (((Env.start ht).push an ad).push bn bd).push cn cd
  simp only [World.size_alloc] at J
  go_enter Tryd.func5, Tryd.ntmps5
  go_wp2_with fail
  refine (Va.out _).mono ?_
  rintro e w1 ⟨rfl, hb⟩
  replace J := J.below hb
  clear hb
  obtain ⟨c1_0, d1_0, _, _, z1_0⟩ := id (J.two (w.heap.size + 1 + 1, cn, cd) (by simp))
  obtain ⟨c1_1, d1_1, _, _, z1_1⟩ := id (J.two (w.heap.size + 1, bn, bd) (by simp))
  obtain ⟨c1_2, d1_2, _, _, z1_2⟩ := id (J.two (w.heap.size, an, ad) (by simp))
  go_wp2_with fail
  refine (Vb.out _).mono ?_
  rintro e w2 ⟨rfl, hb⟩
  replace J := J.below hb
  clear hb
  clear c1_0 d1_0 z1_0 c1_1 d1_1 z1_1 c1_2 d1_2 z1_2
  obtain ⟨c2_0, d2_0, _, _, z2_0⟩ := id (J.two (w.heap.size + 1 + 1, cn, cd) (by simp))
  obtain ⟨c2_1, d2_1, _, _, z2_1⟩ := id (J.two (w.heap.size + 1, bn, bd) (by simp))
  obtain ⟨c2_2, d2_2, _, _, z2_2⟩ := id (J.two (w.heap.size, an, ad) (by simp))
  go_wp2_with fail
  refine (Vc.out _).mono ?_
  rintro e w3 ⟨rfl, hb⟩
  replace J := J.below hb
  clear hb
  clear c2_0 d2_0 z2_0 c2_1 d2_1 z2_1 c2_2 d2_2 z2_2
  obtain ⟨c3_0, d3_0, _, _, z3_0⟩ := id (J.two (w.heap.size + 1 + 1, cn, cd) (by simp))
  obtain ⟨c3_1, d3_1, _, _, z3_1⟩ := id (J.two (w.heap.size + 1, bn, bd) (by simp))
  obtain ⟨c3_2, d3_2, _, _, z3_2⟩ := id (J.two (w.heap.size, an, ad) (by simp))
  go_wp2_with fail
  refine (C1.out _).mono ?_
  rintro e w4 ⟨rfl, hb⟩
  replace J := J.below hb
  clear hb
  clear c3_0 d3_0 z3_0 c3_1 d3_1 z3_1 c3_2 d3_2 z3_2
  obtain ⟨c4_0, d4_0, _, _, z4_0⟩ := id (J.two (w.heap.size + 1 + 1, cn, cd) (by simp))
  obtain ⟨c4_1, d4_1, _, _, z4_1⟩ := id (J.two (w.heap.size + 1, bn, bd) (by simp))
  obtain ⟨c4_2, d4_2, _, _, z4_2⟩ := id (J.two (w.heap.size, an, ad) (by simp))
  go_wp2_with fail
  refine (C2.out _).mono ?_
  rintro e w5 ⟨rfl, hb⟩
  replace J := J.below hb
  clear hb
  clear c4_0 d4_0 z4_0 c4_1 d4_1 z4_1 c4_2 d4_2 z4_2
  obtain ⟨c5_0, d5_0, _, _, z5_0⟩ := id (J.two (w.heap.size + 1 + 1, cn, cd) (by simp))
  obtain ⟨c5_1, d5_1, _, _, z5_1⟩ := id (J.two (w.heap.size + 1, bn, bd) (by simp))
  obtain ⟨c5_2, d5_2, _, _, z5_2⟩ := id (J.two (w.heap.size, an, ad) (by simp))
  go_wp2_with fail
  refine (S.out _).mono ?_
  rintro e w6 ⟨rfl, hb⟩
  replace J := J.below hb
  clear hb
  clear c5_0 d5_0 z5_0 c5_1 d5_1 z5_1 c5_2 d5_2 z5_2
  replace J := J.push dn dd
  obtain ⟨c6_0, d6_0, _, _, z6_0⟩ := id (J.two (w6.heap.size, dn, dd) (by simp))
  obtain ⟨c6_1, d6_1, _, _, z6_1⟩ := id (J.two (w.heap.size + 1 + 1, cn, cd) (by simp))
  obtain ⟨c6_2, d6_2, _, _, z6_2⟩ := id (J.two (w.heap.size + 1, bn, bd) (by simp))
  obtain ⟨c6_3, d6_3, _, _, z6_3⟩ := id (J.two (w.heap.size, an, ad) (by simp))
  go_wp2_with fail
  refine (A1.out _).mono ?_
  rintro e w7 ⟨rfl, hb⟩
  replace J := J.below hb
  clear hb
  clear c6_0 d6_0 z6_0 c6_1 d6_1 z6_1 c6_2 d6_2 z6_2 c6_3 d6_3 z6_3
  replace J := J.push sn sd
  obtain ⟨c7_0, d7_0, _, _, z7_0⟩ := id (J.two (w7.heap.size, sn, sd) (by simp))
  obtain ⟨c7_1, d7_1, _, _, z7_1⟩ := id (J.two (w6.heap.size, dn, dd) (by simp))
  obtain ⟨c7_2, d7_2, _, _, z7_2⟩ := id (J.two (w.heap.size + 1 + 1, cn, cd) (by simp))
  obtain ⟨c7_3, d7_3, _, _, z7_3⟩ := id (J.two (w.heap.size + 1, bn, bd) (by simp))
  obtain ⟨c7_4, d7_4, _, _, z7_4⟩ := id (J.two (w.heap.size, an, ad) (by simp))
  go_wp2_with fail
  refine (A2.out _).mono ?_
  rintro e w8 ⟨rfl, hb⟩
  replace J := J.below hb
  clear hb
  clear c7_0 d7_0 z7_0 c7_1 d7_1 z7_1 c7_2 d7_2 z7_2 c7_3 d7_3 z7_3 c7_4 d7_4 z7_4
  replace J := J.push tn td
  obtain ⟨c8_0, d8_0, _, _, z8_0⟩ := id (J.two (w8.heap.size, tn, td) (by simp))
  obtain ⟨c8_1, d8_1, _, _, z8_1⟩ := id (J.two (w7.heap.size, sn, sd) (by simp))
  obtain ⟨c8_2, d8_2, _, _, z8_2⟩ := id (J.two (w6.heap.size, dn, dd) (by simp))
  obtain ⟨c8_3, d8_3, _, _, z8_3⟩ := id (J.two (w.heap.size + 1 + 1, cn, cd) (by simp))
  obtain ⟨c8_4, d8_4, _, _, z8_4⟩ := id (J.two (w.heap.size + 1, bn, bd) (by simp))
  obtain ⟨c8_5, d8_5, _, _, z8_5⟩ := id (J.two (w.heap.size, an, ad) (by simp))
  go_wp2_with fail
  refine (awake_any _ J.tab).mono ?_
  rintro e w9 ⟨rfl, hb⟩
  replace J := J.below hb
  go_wp2_with fail
  go_ret
  exact ⟨rfl, J.old⟩

set_option maxRecDepth 100000 in
set_option maxHeartbeats 4000000 in
theorem order_p_num_n_e_t (an ad bn bd cn cd y z dn dd de sn sd se tn td te : Int) (w : World) (ht : Tab w)
    (hq : (an == bn) = false)
    (Va : Hid (∀ W, Calls Tryd.prog 8 #[fr an ad] W fun e w' => e = .returned (.bool true) ∧ Below W.heap.size W w'))
    (Vb : Hid (∀ W, Calls Tryd.prog 8 #[fr bn bd] W fun e w' => e = .returned (.bool true) ∧ Below W.heap.size W w'))
    (Vc : Hid (∀ W, Calls Tryd.prog 8 #[fr cn cd] W fun e w' => e = .returned (.bool true) ∧ Below W.heap.size W w'))
    (C1 : Hid (∀ W, Calls Tryd.prog 16 #[fr an ad, fr bn bd] W fun e w' => e = .returned (.int .i64 1) ∧ Below W.heap.size W w'))
    (C2 : Hid (∀ W, Calls Tryd.prog 16 #[fr bn bd, fr an ad] W fun e w' => e = .returned (.int .i64 (-1)) ∧ Below W.heap.size W w'))
    (S : Hid (∀ W, Calls Tryd.prog 13 #[fr an ad, fr bn bd] W fun e w' => e = .returned (.tuple #[fr dn dd, .int .i64 de]) ∧ Below W.heap.size W w'))
    (hde : (de == 0) = false)
    (A1 : Hid (∀ W, Calls Tryd.prog 12 #[fr an ad, fr cn cd] W fun e w' => e = .returned (.tuple #[fr sn sd, .int .i64 0]) ∧ Below W.heap.size W w'))
    (A2 : Hid (∀ W, Calls Tryd.prog 12 #[fr bn bd, fr cn cd] W fun e w' => e = .returned (.tuple #[fr tn td, .int .i64 te]) ∧ Below W.heap.size W w'))
    (hte : (te != 0) = true)
    :
    Calls Tryd.prog 5 #[fr an ad, fr bn bd, fr cn cd] w fun e w' => e = .returned (.bool true) ∧ Below w.heap.size w w' := by
  have J := (((Env.start ht).push an ad).push bn bd).push cn cd
  simp only [World.size_alloc] at J
  go_enter Tryd.func5, Tryd.ntmps5
  go_wp2_with fail
  refine (Va.out _).mono ?_
  rintro e w1 ⟨rfl, hb⟩
  replace J := J.below hb
  clear hb
  obtain ⟨c1_0, d1_0, _, _, z1_0⟩ := id (J.two (w.heap.size + 1 + 1, cn, cd) (by simp))
  obtain ⟨c1_1, d1_1, _, _, z1_1⟩ := id (J.two (w.heap.size + 1, bn, bd) (by simp))
  obtain ⟨c1_2, d1_2, _, _, z1_2⟩ := id (J.two (w.heap.size, an, ad) (by simp))
  go_wp2_with fail
  refine (Vb.out _).mono ?_
  rintro e w2 ⟨rfl, hb⟩
  replace J := J.below hb
  clear hb
  clear c1_0 d1_0 z1_0 c1_1 d1_1 z1_1 c1_2 d1_2 z1_2
  obtain ⟨c2_0, d2_0, _, _, z2_0⟩ := id (J.two (w.heap.size + 1 + 1, cn, cd) (by simp))
  obtain ⟨c2_1, d2_1, _, _, z2_1⟩ := id (J.two (w.heap.size + 1, bn, bd) (by simp))
  obtain ⟨c2_2, d2_2, _, _, z2_2⟩ := id (J.two (w.heap.size, an, ad) (by simp))
  go_wp2_with fail
  refine (Vc.out _).mono ?_
  rintro e w3 ⟨rfl, hb⟩
  replace J := J.below hb
  clear hb
  clear c2_0 d2_0 z2_0 c2_1 d2_1 z2_1 c2_2 d2_2 z2_2
  obtain ⟨c3_0, d3_0, _, _, z3_0⟩ := id (J.two (w.heap.size + 1 + 1, cn, cd) (by simp))
  obtain ⟨c3_1, d3_1, _, _, z3_1⟩ := id (J.two (w.heap.size + 1, bn, bd) (by simp))
  obtain ⟨c3_2, d3_2, _, _, z3_2⟩ := id (J.two (w.heap.size, an, ad) (by simp))
  go_wp2_with fail
  refine (C1.out _).mono ?_
  rintro e w4 ⟨rfl, hb⟩
  replace J := J.below hb
  clear hb
  clear c3_0 d3_0 z3_0 c3_1 d3_1 z3_1 c3_2 d3_2 z3_2
  obtain ⟨c4_0, d4_0, _, _, z4_0⟩ := id (J.two (w.heap.size + 1 + 1, cn, cd) (by simp))
  obtain ⟨c4_1, d4_1, _, _, z4_1⟩ := id (J.two (w.heap.size + 1, bn, bd) (by simp))
  obtain ⟨c4_2, d4_2, _, _, z4_2⟩ := id (J.two (w.heap.size, an, ad) (by simp))
  go_wp2_with fail
  refine (C2.out _).mono ?_
  rintro e w5 ⟨rfl, hb⟩
  replace J := J.below hb
  clear hb
  clear c4_0 d4_0 z4_0 c4_1 d4_1 z4_1 c4_2 d4_2 z4_2
  obtain ⟨c5_0, d5_0, _, _, z5_0⟩ := id (J.two (w.heap.size + 1 + 1, cn, cd) (by simp))
  obtain ⟨c5_1, d5_1, _, _, z5_1⟩ := id (J.two (w.heap.size + 1, bn, bd) (by simp))
  obtain ⟨c5_2, d5_2, _, _, z5_2⟩ := id (J.two (w.heap.size, an, ad) (by simp))
  go_wp2_with fail
  refine (S.out _).mono ?_
  rintro e w6 ⟨rfl, hb⟩
  replace J := J.below hb
  clear hb
  clear c5_0 d5_0 z5_0 c5_1 d5_1 z5_1 c5_2 d5_2 z5_2
  replace J := J.push dn dd
  obtain ⟨c6_0, d6_0, _, _, z6_0⟩ := id (J.two (w6.heap.size, dn, dd) (by simp))
  obtain ⟨c6_1, d6_1, _, _, z6_1⟩ := id (J.two (w.heap.size + 1 + 1, cn, cd) (by simp))
  obtain ⟨c6_2, d6_2, _, _, z6_2⟩ := id (J.two (w.heap.size + 1, bn, bd) (by simp))
  obtain ⟨c6_3, d6_3, _, _, z6_3⟩ := id (J.two (w.heap.size, an, ad) (by simp))
  go_wp2_with fail
  refine (A1.out _).mono ?_
  rintro e w7 ⟨rfl, hb⟩
  replace J := J.below hb
  clear hb
  clear c6_0 d6_0 z6_0 c6_1 d6_1 z6_1 c6_2 d6_2 z6_2 c6_3 d6_3 z6_3
  replace J := J.push sn sd
  obtain ⟨c7_0, d7_0, _, _, z7_0⟩ := id (J.two (w7.heap.size, sn, sd) (by simp))
  obtain ⟨c7_1, d7_1, _, _, z7_1⟩ := id (J.two (w6.heap.size, dn, dd) (by simp))
  obtain ⟨c7_2, d7_2, _, _, z7_2⟩ := id (J.two (w.heap.size + 1 + 1, cn, cd) (by simp))
  obtain ⟨c7_3, d7_3, _, _, z7_3⟩ := id (J.two (w.heap.size + 1, bn, bd) (by simp))
  obtain ⟨c7_4, d7_4, _, _, z7_4⟩ := id (J.two (w.heap.size, an, ad) (by simp))
  go_wp2_with fail
  refine (A2.out _).mono ?_
  rintro e w8 ⟨rfl, hb⟩
  replace J := J.below hb
  clear hb
  clear c7_0 d7_0 z7_0 c7_1 d7_1 z7_1 c7_2 d7_2 z7_2 c7_3 d7_3 z7_3 c7_4 d7_4 z7_4
  replace J := J.push tn td
  obtain ⟨c8_0, d8_0, _, _, z8_0⟩ := id (J.two (w8.heap.size, tn, td) (by simp))
  obtain ⟨c8_1, d8_1, _, _, z8_1⟩ := id (J.two (w7.heap.size, sn, sd) (by simp))
  obtain ⟨c8_2, d8_2, _, _, z8_2⟩ := id (J.two (w6.heap.size, dn, dd) (by simp))
  obtain ⟨c8_3, d8_3, _, _, z8_3⟩ := id (J.two (w.heap.size + 1 + 1, cn, cd) (by simp))
  obtain ⟨c8_4, d8_4, _, _, z8_4⟩ := id (J.two (w.heap.size + 1, bn, bd) (by simp))
  obtain ⟨c8_5, d8_5, _, _, z8_5⟩ := id (J.two (w.heap.size, an, ad) (by simp))
  go_wp2_with fail
  refine (awake_any _ J.tab).mono ?_
  rintro e w9 ⟨rfl, hb⟩
  replace J := J.below hb
  go_wp2_with fail
  go_ret
  exact ⟨rfl, J.old⟩

set_option maxRecDepth 100000 in
set_option maxHeartbeats 4000000 in
theorem order_p_den_n_d_ok (an ad bn bd cn cd y z dn dd de sn sd se tn td te : Int) (w : World) (ht : Tab w)
    (hq : (ad == bd) = false)
    (Va : Hid (∀ W, Calls Tryd.prog 8 #[fr an ad] W fun e w' => e = .returned (.bool true) ∧ Below W.heap.size W w'))
    (Vb : Hid (∀ W, Calls Tryd.prog 8 #[fr an bd] W fun e w' => e = .returned (.bool true) ∧ Below W.heap.size W w'))
    (Vc : Hid (∀ W, Calls Tryd.prog 8 #[fr cn cd] W fun e w' => e = .returned (.bool true) ∧ Below W.heap.size W w'))
    (C1 : Hid (∀ W, Calls Tryd.prog 16 #[fr an ad, fr an bd] W fun e w' => e = .returned (.int .i64 1) ∧ Below W.heap.size W w'))
    (C2 : Hid (∀ W, Calls Tryd.prog 16 #[fr an bd, fr an ad] W fun e w' => e = .returned (.int .i64 (-1)) ∧ Below W.heap.size W w'))
    (S : Hid (∀ W, Calls Tryd.prog 13 #[fr an ad, fr an bd] W fun e w' => e = .returned (.tuple #[fr dn dd, .int .i64 0]) ∧ Below W.heap.size W w'))
    (hd : 0 < dn)
    (A1 : Hid (∀ W, Calls Tryd.prog 12 #[fr an ad, fr cn cd] W fun e w' => e = .returned (.tuple #[fr sn sd, .int .i64 0]) ∧ Below W.heap.size W w'))
    (A2 : Hid (∀ W, Calls Tryd.prog 12 #[fr an bd, fr cn cd] W fun e w' => e = .returned (.tuple #[fr tn td, .int .i64 0]) ∧ Below W.heap.size W w'))
    (C5 : Hid (∀ W, Calls Tryd.prog 16 #[fr sn sd, fr tn td] W fun e w' => e = .returned (.int .i64 1) ∧ Below W.heap.size W w'))
    :
    Calls Tryd.prog 5 #[fr an ad, fr an bd, fr cn cd] w fun e w' => e = .returned (.bool true) ∧ Below w.heap.size w w' := by
  have J := (((Env.start ht).push an ad).push an bd).push cn cd
  simp only [World.size_alloc] at J
  go_enter Tryd.func5, Tryd.ntmps5
  go_wp2_with fail
  refine (Va.out _).mono ?_
  rintro e w1 ⟨rfl, hb⟩
  replace J := J.below hb
  clear hb
  obtain ⟨c1_0, d1_0, _, _, z1_0⟩ := id (J.two (w.heap.size + 1 + 1, cn, cd) (by simp))
  obtain ⟨c1_1, d1_1, _, _, z1_1⟩ := id (J.two (w.heap.size + 1, an, bd) (by simp))
  obtain ⟨c1_2, d1_2, _, _, z1_2⟩ := id (J.two (w.heap.size, an, ad) (by simp))
  go_wp2_with fail
  refine (Vb.out _).mono ?_
  rintro e w2 ⟨rfl, hb⟩
  replace J := J.below hb
  clear hb
  clear c1_0 d1_0 z1_0 c1_1 d1_1 z1_1 c1_2 d1_2 z1_2
  obtain ⟨c2_0, d2_0, _, _, z2_0⟩ := id (J.two (w.heap.size + 1 + 1, cn, cd) (by simp))
  obtain ⟨c2_1, d2_1, _, _, z2_1⟩ := id (J.two (w.heap.size + 1, an, bd) (by simp))
  obtain ⟨c2_2, d2_2, _, _, z2_2⟩ := id (J.two (w.heap.size, an, ad) (by simp))
  go_wp2_with fail
  refine (Vc.out _).mono ?_
  rintro e w3 ⟨rfl, hb⟩
  replace J := J.below hb
  clear hb
  clear c2_0 d2_0 z2_0 c2_1 d2_1 z2_1 c2_2 d2_2 z2_2
  obtain ⟨c3_0, d3_0, _, _, z3_0⟩ := id (J.two (w.heap.size + 1 + 1, cn, cd) (by simp))
  obtain ⟨c3_1, d3_1, _, _, z3_1⟩ := id (J.two (w.heap.size + 1, an, bd) (by simp))
  obtain ⟨c3_2, d3_2, _, _, z3_2⟩ := id (J.two (w.heap.size, an, ad) (by simp))
  go_wp2_with fail
  refine (C1.out _).mono ?_
  rintro e w4 ⟨rfl, hb⟩
  replace J := J.below hb
  clear hb
  clear c3_0 d3_0 z3_0 c3_1 d3_1 z3_1 c3_2 d3_2 z3_2
  obtain ⟨c4_0, d4_0, _, _, z4_0⟩ := id (J.two (w.heap.size + 1 + 1, cn, cd) (by simp))
  obtain ⟨c4_1, d4_1, _, _, z4_1⟩ := id (J.two (w.heap.size + 1, an, bd) (by simp))
  obtain ⟨c4_2, d4_2, _, _, z4_2⟩ := id (J.two (w.heap.size, an, ad) (by simp))
  go_wp2_with fail
  refine (C2.out _).mono ?_
  rintro e w5 ⟨rfl, hb⟩
  replace J := J.below hb
  clear hb
  clear c4_0 d4_0 z4_0 c4_1 d4_1 z4_1 c4_2 d4_2 z4_2
  obtain ⟨c5_0, d5_0, _, _, z5_0⟩ := id (J.two (w.heap.size + 1 + 1, cn, cd) (by simp))
  obtain ⟨c5_1, d5_1, _, _, z5_1⟩ := id (J.two (w.heap.size + 1, an, bd) (by simp))
  obtain ⟨c5_2, d5_2, _, _, z5_2⟩ := id (J.two (w.heap.size, an, ad) (by simp))
  go_wp2_with fail
  refine (S.out _).mono ?_
  rintro e w6 ⟨rfl, hb⟩
  replace J := J.below hb
  clear hb
  clear c5_0 d5_0 z5_0 c5_1 d5_1 z5_1 c5_2 d5_2 z5_2
  replace J := J.push dn dd
  obtain ⟨c6_0, d6_0, _, _, z6_0⟩ := id (J.two (w6.heap.size, dn, dd) (by simp))
  obtain ⟨c6_1, d6_1, _, _, z6_1⟩ := id (J.two (w.heap.size + 1 + 1, cn, cd) (by simp))
  obtain ⟨c6_2, d6_2, _, _, z6_2⟩ := id (J.two (w.heap.size + 1, an, bd) (by simp))
  obtain ⟨c6_3, d6_3, _, _, z6_3⟩ := id (J.two (w.heap.size, an, ad) (by simp))
  go_wp2_with fail
  refine (A1.out _).mono ?_
  rintro e w7 ⟨rfl, hb⟩
  replace J := J.below hb
  clear hb
  clear c6_0 d6_0 z6_0 c6_1 d6_1 z6_1 c6_2 d6_2 z6_2 c6_3 d6_3 z6_3
  replace J := J.push sn sd
  obtain ⟨c7_0, d7_0, _, _, z7_0⟩ := id (J.two (w7.heap.size, sn, sd) (by simp))
  obtain ⟨c7_1, d7_1, _, _, z7_1⟩ := id (J.two (w6.heap.size, dn, dd) (by simp))
  obtain ⟨c7_2, d7_2, _, _, z7_2⟩ := id (J.two (w.heap.size + 1 + 1, cn, cd) (by simp))
  obtain ⟨c7_3, d7_3, _, _, z7_3⟩ := id (J.two (w.heap.size + 1, an, bd) (by simp))
  obtain ⟨c7_4, d7_4, _, _, z7_4⟩ := id (J.two (w.heap.size, an, ad) (by simp))
  go_wp2_with fail
  refine (A2.out _).mono ?_
  rintro e w8 ⟨rfl, hb⟩
  replace J := J.below hb
  clear hb
  clear c7_0 d7_0 z7_0 c7_1 d7_1 z7_1 c7_2 d7_2 z7_2 c7_3 d7_3 z7_3 c7_4 d7_4 z7_4
  replace J := J.push tn td
  obtain ⟨c8_0, d8_0, _, _, z8_0⟩ := id (J.two (w8.heap.size, tn, td) (by simp))
  obtain ⟨c8_1, d8_1, _, _, z8_1⟩ := id (J.two (w7.heap.size, sn, sd) (by simp))
  obtain ⟨c8_2, d8_2, _, _, z8_2⟩ := id (J.two (w6.heap.size, dn, dd) (by simp))
  obtain ⟨c8_3, d8_3, _, _, z8_3⟩ := id (J.two (w.heap.size + 1 + 1, cn, cd) (by simp))
  obtain ⟨c8_4, d8_4, _, _, z8_4⟩ := id (J.two (w.heap.size + 1, an, bd) (by simp))
  obtain ⟨c8_5, d8_5, _, _, z8_5⟩ := id (J.two (w.heap.size, an, ad) (by simp))
  go_wp2_with fail
  refine (C5.out _).mono ?_
  rintro e w9 ⟨rfl, hb⟩
  replace J := J.below hb
  clear hb
  clear c8_0 d8_0 z8_0 c8_1 d8_1 z8_1 c8_2 d8_2 z8_2 c8_3 d8_3 z8_3 c8_4 d8_4 z8_4 c8_5 d8_5 z8_5
  obtain ⟨c9_0, d9_0, _, _, z9_0⟩ := id (J.two (w8.heap.size, tn, td) (by simp))
  obtain ⟨c9_1, d9_1, _, _, z9_1⟩ := id (J.two (w7.heap.size, sn, sd) (by simp))
  obtain ⟨c9_2, d9_2, _, _, z9_2⟩ := id (J.two (w6.heap.size, dn, dd) (by simp))
  obtain ⟨c9_3, d9_3, _, _, z9_3⟩ := id (J.two (w.heap.size + 1 + 1, cn, cd) (by simp))
  obtain ⟨c9_4, d9_4, _, _, z9_4⟩ := id (J.two (w.heap.size + 1, an, bd) (by simp))
  obtain ⟨c9_5, d9_5, _, _, z9_5⟩ := id (J.two (w.heap.size, an, ad) (by simp))
  go_wp2_with fail
  refine (awake_any _ J.tab).mono ?_
  rintro e w10 ⟨rfl, hb⟩
  replace J := J.below hb
  go_wp2_with fail
  go_ret
  exact ⟨rfl, J.old⟩

set_option maxRecDepth 100000 in
set_option maxHeartbeats 4000000 in
theorem order_z_same_gt_d_s (an ad bn bd cn cd y z dn dd de sn sd se tn td te : Int) (w : World) (ht : Tab w)
    (Va : Hid (∀ W, Calls Tryd.prog 8 #[fr an ad] W fun e w' => e = .returned (.bool true) ∧ Below W.heap.size W w'))
    (Vc : Hid (∀ W, Calls Tryd.prog 8 #[fr cn cd] W fun e w' => e = .returned (.bool true) ∧ Below W.heap.size W w'))
    (C1 : Hid (∀ W, Calls Tryd.prog 16 #[fr an ad, fr an ad] W fun e w' => e = .returned (.int .i64 0) ∧ Below W.heap.size W w'))
    (C3 : Hid (∀ W, Calls Tryd.prog 16 #[fr an ad, fr cn cd] W fun e w' => e = .returned (.int .i64 y) ∧ Below W.heap.size W w'))
    (hy : 0 < y)
    (S : Hid (∀ W, Calls Tryd.prog 13 #[fr an ad, fr an ad] W fun e w' => e = .returned (.tuple #[fr 0 dd, .int .i64 0]) ∧ Below W.heap.size W w'))
    (A1 : Hid (∀ W, Calls Tryd.prog 12 #[fr an ad, fr cn cd] W fun e w' => e = .returned (.tuple #[fr sn sd, .int .i64 se]) ∧ Below W.heap.size W w'))
    (hse : (se != 0) = true)
    :
    Calls Tryd.prog 5 #[fr an ad, fr an ad, fr cn cd] w fun e w' => e = .returned (.bool true) ∧ Below w.heap.size w w' := by
  have J := (((Env.start ht).push an ad).push an ad).push cn cd
  simp only [World.size_alloc] at J
  go_enter Tryd.func5, Tryd.ntmps5
  go_wp2_with fail
  refine (Va.out _).mono ?_
  rintro e w1 ⟨rfl, hb⟩
  replace J := J.below hb
  clear hb
  obtain ⟨c1_0, d1_0, _, _, z1_0⟩ := id (J.two (w.heap.size + 1 + 1, cn, cd) (by simp))
  obtain ⟨c1_1, d1_1, _, _, z1_1⟩ := id (J.two (w.heap.size + 1, an, ad) (by simp))
  obtain ⟨c1_2, d1_2, _, _, z1_2⟩ := id (J.two (w.heap.size, an, ad) (by simp))
  go_wp2_with fail
  refine (Va.out _).mono ?_
  rintro e w2 ⟨rfl, hb⟩
  replace J := J.below hb
  clear hb
  clear c1_0 d1_0 z1_0 c1_1 d1_1 z1_1 c1_2 d1_2 z1_2
  obtain ⟨c2_0, d2_0, _, _, z2_0⟩ := id (J.two (w.heap.size + 1 + 1, cn, cd) (by simp))
  obtain ⟨c2_1, d2_1, _, _, z2_1⟩ := id (J.two (w.heap.size + 1, an, ad) (by simp))
  obtain ⟨c2_2, d2_2, _, _, z2_2⟩ := id (J.two (w.heap.size, an, ad) (by simp))
  go_wp2_with fail
  refine (Vc.out _).mono ?_
  rintro e w3 ⟨rfl, hb⟩
  replace J := J.below hb
  clear hb
  clear c2_0 d2_0 z2_0 c2_1 d2_1 z2_1 c2_2 d2_2 z2_2
  obtain ⟨c3_0, d3_0, _, _, z3_0⟩ := id (J.two (w.heap.size + 1 + 1, cn, cd) (by simp))
  obtain ⟨c3_1, d3_1, _, _, z3_1⟩ := id (J.two (w.heap.size + 1, an, ad) (by simp))
  obtain ⟨c3_2, d3_2, _, _, z3_2⟩ := id (J.two (w.heap.size, an, ad) (by simp))
  go_wp2_with fail
  refine (C1.out _).mono ?_
  rintro e w4 ⟨rfl, hb⟩
  replace J := J.below hb
  clear hb
  clear c3_0 d3_0 z3_0 c3_1 d3_1 z3_1 c3_2 d3_2 z3_2
  obtain ⟨c4_0, d4_0, _, _, z4_0⟩ := id (J.two (w.heap.size + 1 + 1, cn, cd) (by simp))
  obtain ⟨c4_1, d4_1, _, _, z4_1⟩ := id (J.two (w.heap.size + 1, an, ad) (by simp))
  obtain ⟨c4_2, d4_2, _, _, z4_2⟩ := id (J.two (w.heap.size, an, ad) (by simp))
  go_wp2_with fail
  refine (C1.out _).mono ?_
  rintro e w5 ⟨rfl, hb⟩
  replace J := J.below hb
  clear hb
  clear c4_0 d4_0 z4_0 c4_1 d4_1 z4_1 c4_2 d4_2 z4_2
  obtain ⟨c5_0, d5_0, _, _, z5_0⟩ := id (J.two (w.heap.size + 1 + 1, cn, cd) (by simp))
  obtain ⟨c5_1, d5_1, _, _, z5_1⟩ := id (J.two (w.heap.size + 1, an, ad) (by simp))
  obtain ⟨c5_2, d5_2, _, _, z5_2⟩ := id (J.two (w.heap.size, an, ad) (by simp))
  go_wp2_with fail
  refine (C3.out _).mono ?_
  rintro e w6 ⟨rfl, hb⟩
  replace J := J.below hb
  clear hb
  clear c5_0 d5_0 z5_0 c5_1 d5_1 z5_1 c5_2 d5_2 z5_2
  obtain ⟨c6_0, d6_0, _, _, z6_0⟩ := id (J.two (w.heap.size + 1 + 1, cn, cd) (by simp))
  obtain ⟨c6_1, d6_1, _, _, z6_1⟩ := id (J.two (w.heap.size + 1, an, ad) (by simp))
  obtain ⟨c6_2, d6_2, _, _, z6_2⟩ := id (J.two (w.heap.size, an, ad) (by simp))
  go_wp2_with fail
  refine (S.out _).mono ?_
  rintro e w7 ⟨rfl, hb⟩
  replace J := J.below hb
  clear hb
  clear c6_0 d6_0 z6_0 c6_1 d6_1 z6_1 c6_2 d6_2 z6_2
  replace J := J.push 0 dd
  obtain ⟨c7_0, d7_0, _, _, z7_0⟩ := id (J.two (w7.heap.size, 0, dd) (by simp))
  obtain ⟨c7_1, d7_1, _, _, z7_1⟩ := id (J.two (w.heap.size + 1 + 1, cn, cd) (by simp))
  obtain ⟨c7_2, d7_2, _, _, z7_2⟩ := id (J.two (w.heap.size + 1, an, ad) (by simp))
  obtain ⟨c7_3, d7_3, _, _, z7_3⟩ := id (J.two (w.heap.size, an, ad) (by simp))
  go_wp2_with fail
  refine (A1.out _).mono ?_
  rintro e w8 ⟨rfl, hb⟩
  replace J := J.below hb
  clear hb
  clear c7_0 d7_0 z7_0 c7_1 d7_1 z7_1 c7_2 d7_2 z7_2 c7_3 d7_3 z7_3
  replace J := J.push sn sd
  obtain ⟨c8_0, d8_0, _, _, z8_0⟩ := id (J.two (w8.heap.size, sn, sd) (by simp))
  obtain ⟨c8_1, d8_1, _, _, z8_1⟩ := id (J.two (w7.heap.size, 0, dd) (by simp))
  obtain ⟨c8_2, d8_2, _, _, z8_2⟩ := id (J.two (w.heap.size + 1 + 1, cn, cd) (by simp))
  obtain ⟨c8_3, d8_3, _, _, z8_3⟩ := id (J.two (w.heap.size + 1, an, ad) (by simp))
  obtain ⟨c8_4, d8_4, _, _, z8_4⟩ := id (J.two (w.heap.size, an, ad) (by simp))
  go_wp2_with fail
  refine (A1.out _).mono ?_
  rintro e w9 ⟨rfl, hb⟩
  replace J := J.below hb
  clear hb
  clear c8_0 d8_0 z8_0 c8_1 d8_1 z8_1 c8_2 d8_2 z8_2 c8_3 d8_3 z8_3 c8_4 d8_4 z8_4
  replace J := J.push sn sd
  obtain ⟨c9_0, d9_0, _, _, z9_0⟩ := id (J.two (w9.heap.size, sn, sd) (by simp))
  obtain ⟨c9_1, d9_1, _, _, z9_1⟩ := id (J.two (w8.heap.size, sn, sd) (by simp))
  obtain ⟨c9_2, d9_2, _, _, z9_2⟩ := id (J.two (w7.heap.size, 0, dd) (by simp))
  obtain ⟨c9_3, d9_3, _, _, z9_3⟩ := id (J.two (w.heap.size + 1 + 1, cn, cd) (by simp))
  obtain ⟨c9_4, d9_4, _, _, z9_4⟩ := id (J.two (w.heap.size + 1, an, ad) (by simp))
  obtain ⟨c9_5, d9_5, _, _, z9_5⟩ := id (J.two (w.heap.size, an, ad) (by simp))
  go_wp2_with fail
  refine (awake_any _ J.tab).mono ?_
  rintro e w10 ⟨rfl, hb⟩
  replace J := J.below hb
  go_wp2_with fail
  go_ret
  exact ⟨rfl, J.old⟩

set_option maxRecDepth 100000 in
set_option maxHeartbeats 4000000 in
theorem order_z_same_le_d_s (an ad bn bd cn cd y z dn dd de sn sd se tn td te : Int) (w : World) (ht : Tab w)
    (Va : Hid (∀ W, Calls Tryd.prog 8 #[fr an ad] W fun e w' => e = .returned (.bool true) ∧ Below W.heap.size W w'))
    (Vc : Hid (∀ W, Calls Tryd.prog 8 #[fr cn cd] W fun e w' => e = .returned (.bool true) ∧ Below W.heap.size W w'))
    (C1 : Hid (∀ W, Calls Tryd.prog 16 #[fr an ad, fr an ad] W fun e w' => e = .returned (.int .i64 0) ∧ Below W.heap.size W w'))
    (C3 : Hid (∀ W, Calls Tryd.prog 16 #[fr an ad, fr cn cd] W fun e w' => e = .returned (.int .i64 y) ∧ Below W.heap.size W w'))
    (hy : y ≤ 0)
    (S : Hid (∀ W, Calls Tryd.prog 13 #[fr an ad, fr an ad] W fun e w' => e = .returned (.tuple #[fr 0 dd, .int .i64 0]) ∧ Below W.heap.size W w'))
    (A1 : Hid (∀ W, Calls Tryd.prog 12 #[fr an ad, fr cn cd] W fun e w' => e = .returned (.tuple #[fr sn sd, .int .i64 se]) ∧ Below W.heap.size W w'))
    (hse : (se != 0) = true)
    :
    Calls Tryd.prog 5 #[fr an ad, fr an ad, fr cn cd] w fun e w' => e = .returned (.bool true) ∧ Below w.heap.size w w' := by
  have J := (((Env.start ht).push an ad).push an ad).push cn cd
  simp only [World.size_alloc] at J
  go_enter Tryd.func5, Tryd.ntmps5
  go_wp2_with fail
  refine (Va.out _).mono ?_
  rintro e w1 ⟨rfl, hb⟩
  replace J := J.below hb
  clear hb
  obtain ⟨c1_0, d1_0, _, _, z1_0⟩ := id (J.two (w.heap.size + 1 + 1, cn, cd) (by simp))
  obtain ⟨c1_1, d1_1, _, _, z1_1⟩ := id (J.two (w.heap.size + 1, an, ad) (by simp))
  obtain ⟨c1_2, d1_2, _, _, z1_2⟩ := id (J.two (w.heap.size, an, ad) (by simp))
  go_wp2_with fail
  refine (Va.out _).mono ?_
  rintro e w2 ⟨rfl, hb⟩
  replace J := J.below hb
  clear hb
  clear c1_0 d1_0 z1_0 c1_1 d1_1 z1_1 c1_2 d1_2 z1_2
  obtain ⟨c2_0, d2_0, _, _, z2_0⟩ := id (J.two (w.heap.size + 1 + 1, cn, cd) (by simp))
  obtain ⟨c2_1, d2_1, _, _, z2_1⟩ := id (J.two (w.heap.size + 1, an, ad) (by simp))
  obtain ⟨c2_2, d2_2, _, _, z2_2⟩ := id (J.two (w.heap.size, an, ad) (by simp))
  go_wp2_with fail
  refine (Vc.out _).mono ?_
  rintro e w3 ⟨rfl, hb⟩
  replace J := J.below hb
  clear hb
  clear c2_0 d2_0 z2_0 c2_1 d2_1 z2_1 c2_2 d2_2 z2_2
  obtain ⟨c3_0, d3_0, _, _, z3_0⟩ := id (J.two (w.heap.size + 1 + 1, cn, cd) (by simp))
  obtain ⟨c3_1, d3_1, _, _, z3_1⟩ := id (J.two (w.heap.size + 1, an, ad) (by simp))
  obtain ⟨c3_2, d3_2, _, _, z3_2⟩ := id (J.two (w.heap.size, an, ad) (by simp))
  go_wp2_with fail
  refine (C1.out _).mono ?_
  rintro e w4 ⟨rfl, hb⟩
  replace J := J.below hb
  clear hb
  clear c3_0 d3_0 z3_0 c3_1 d3_1 z3_1 c3_2 d3_2 z3_2
  obtain ⟨c4_0, d4_0, _, _, z4_0⟩ := id (J.two (w.heap.size + 1 + 1, cn, cd) (by simp))
  obtain ⟨c4_1, d4_1, _, _, z4_1⟩ := id (J.two (w.heap.size + 1, an, ad) (by simp))
  obtain ⟨c4_2, d4_2, _, _, z4_2⟩ := id (J.two (w.heap.size, an, ad) (by simp))
  go_wp2_with fail
  refine (C1.out _).mono ?_
  rintro e w5 ⟨rfl, hb⟩
  replace J := J.below hb
  clear hb
  clear c4_0 d4_0 z4_0 c4_1 d4_1 z4_1 c4_2 d4_2 z4_2
  obtain ⟨c5_0, d5_0, _, _, z5_0⟩ := id (J.two (w.heap.size + 1 + 1, cn, cd) (by simp))
  obtain ⟨c5_1, d5_1, _, _, z5_1⟩ := id (J.two (w.heap.size + 1, an, ad) (by simp))
  obtain ⟨c5_2, d5_2, _, _, z5_2⟩ := id (J.two (w.heap.size, an, ad) (by simp))
  go_wp2_with fail
  refine (C3.out _).mono ?_
  rintro e w6 ⟨rfl, hb⟩
  replace J := J.below hb
  clear hb
  clear c5_0 d5_0 z5_0 c5_1 d5_1 z5_1 c5_2 d5_2 z5_2
  obtain ⟨c6_0, d6_0, _, _, z6_0⟩ := id (J.two (w.heap.size + 1 + 1, cn, cd) (by simp))
  obtain ⟨c6_1, d6_1, _, _, z6_1⟩ := id (J.two (w.heap.size + 1, an, ad) (by simp))
  obtain ⟨c6_2, d6_2, _, _, z6_2⟩ := id (J.two (w.heap.size, an, ad) (by simp))
  go_wp2_with fail
  refine (C3.out _).mono ?_
  rintro e w7 ⟨rfl, hb⟩
  replace J := J.below hb
  clear hb
  clear c6_0 d6_0 z6_0 c6_1 d6_1 z6_1 c6_2 d6_2 z6_2
  obtain ⟨c7_0, d7_0, _, _, z7_0⟩ := id (J.two (w.heap.size + 1 + 1, cn, cd) (by simp))
  obtain ⟨c7_1, d7_1, _, _, z7_1⟩ := id (J.two (w.heap.size + 1, an, ad) (by simp))
  obtain ⟨c7_2, d7_2, _, _, z7_2⟩ := id (J.two (w.heap.size, an, ad) (by simp))
  go_wp2_with fail
  refine (S.out _).mono ?_
  rintro e w8 ⟨rfl, hb⟩
  replace J := J.below hb
  clear hb
  clear c7_0 d7_0 z7_0 c7_1 d7_1 z7_1 c7_2 d7_2 z7_2
  replace J := J.push 0 dd
  obtain ⟨c8_0, d8_0, _, _, z8_0⟩ := id (J.two (w8.heap.size, 0, dd) (by simp))
  obtain ⟨c8_1, d8_1, _, _, z8_1⟩ := id (J.two (w.heap.size + 1 + 1, cn, cd) (by simp))
  obtain ⟨c8_2, d8_2, _, _, z8_2⟩ := id (J.two (w.heap.size + 1, an, ad) (by simp))
  obtain ⟨c8_3, d8_3, _, _, z8_3⟩ := id (J.two (w.heap.size, an, ad) (by simp))
  go_wp2_with fail
  refine (A1.out _).mono ?_
  rintro e w9 ⟨rfl, hb⟩
  replace J := J.below hb
  clear hb
  clear c8_0 d8_0 z8_0 c8_1 d8_1 z8_1 c8_2 d8_2 z8_2 c8_3 d8_3 z8_3
  replace J := J.push sn sd
  obtain ⟨c9_0, d9_0, _, _, z9_0⟩ := id (J.two (w9.heap.size, sn, sd) (by simp))
  obtain ⟨c9_1, d9_1, _, _, z9_1⟩ := id (J.two (w8.heap.size, 0, dd) (by simp))
  obtain ⟨c9_2, d9_2, _, _, z9_2⟩ := id (J.two (w.heap.size + 1 + 1, cn, cd) (by simp))
  obtain ⟨c9_3, d9_3, _, _, z9_3⟩ := id (J.two (w.heap.size + 1, an, ad) (by simp))
  obtain ⟨c9_4, d9_4, _, _, z9_4⟩ := id (J.two (w.heap.size, an, ad) (by simp))
  go_wp2_with fail
  refine (A1.out _).mono ?_
  rintro e w10 ⟨rfl, hb⟩
  replace J := J.below hb
  clear hb
  clear c9_0 d9_0 z9_0 c9_1 d9_1 z9_1 c9_2 d9_2 z9_2 c9_3 d9_3 z9_3 c9_4 d9_4 z9_4
  replace J := J.push sn sd
  obtain ⟨c10_0, d10_0, _, _, z10_0⟩ := id (J.two (w10.heap.size, sn, sd) (by simp))
  obtain ⟨c10_1, d10_1, _, _, z10_1⟩ := id (J.two (w9.heap.size, sn, sd) (by simp))
  obtain ⟨c10_2, d10_2, _, _, z10_2⟩ := id (J.two (w8.heap.size, 0, dd) (by simp))
  obtain ⟨c10_3, d10_3, _, _, z10_3⟩ := id (J.two (w.heap.size + 1 + 1, cn, cd) (by simp))
  obtain ⟨c10_4, d10_4, _, _, z10_4⟩ := id (J.two (w.heap.size + 1, an, ad) (by simp))
  obtain ⟨c10_5, d10_5, _, _, z10_5⟩ := id (J.two (w.heap.size, an, ad) (by simp))
  go_wp2_with fail
  refine (awake_any _ J.tab).mono ?_
  rintro e w11 ⟨rfl, hb⟩
  replace J := J.below hb
  go_wp2_with fail
  go_ret
  exact ⟨rfl, J.old⟩

set_option maxRecDepth 100000 in
set_option maxHeartbeats 4000000 in
theorem order_m_num_gt_d_s (an ad bn bd cn cd y z dn dd de sn sd se tn td te : Int) (w : World) (ht : Tab w)
    (hq : (an == bn) = false)
    (Va : Hid (∀ W, Calls Tryd.prog 8 #[fr an ad] W fun e w' => e = .returned (.bool true) ∧ Below W.heap.size W w'))
    (Vb : Hid (∀ W, Calls Tryd.prog 8 #[fr bn bd] W fun e w' => e = .returned (.bool true) ∧ Below W.heap.size W w'))
    (Vc : Hid (∀ W, Calls Tryd.prog 8 #[fr cn cd] W fun e w' => e = .returned (.bool true) ∧ Below W.heap.size W w'))
    (C1 : Hid (∀ W, Calls Tryd.prog 16 #[fr an ad, fr bn bd] W fun e w' => e = .returned (.int .i64 (-1)) ∧ Below W.heap.size W w'))
    (C2 : Hid (∀ W, Calls Tryd.prog 16 #[fr bn bd, fr an ad] W fun e w' => e = .returned (.int .i64 1) ∧ Below W.heap.size W w'))
    (C3 : Hid (∀ W, Calls Tryd.prog 16 #[fr bn bd, fr cn cd] W fun e w' => e = .returned (.int .i64 y) ∧ Below W.heap.size W w'))
    (hy : 0 < y)
    (S : Hid (∀ W, Calls Tryd.prog 13 #[fr an ad, fr bn bd] W fun e w' => e = .returned (.tuple #[fr dn dd, .int .i64 0]) ∧ Below W.heap.size W w'))
    (hd : dn < 0)
    (A1 : Hid (∀ W, Calls Tryd.prog 12 #[fr an ad, fr cn cd] W fun e w' => e = .returned (.tuple #[fr sn sd, .int .i64 se]) ∧ Below W.heap.size W w'))
    (A2 : Hid (∀ W, Calls Tryd.prog 12 #[fr bn bd, fr cn cd] W fun e w' => e = .returned (.tuple #[fr tn td, .int .i64 te]) ∧ Below W.heap.size W w'))
    (hse : (se != 0) = true)
    :
    Calls Tryd.prog 5 #[fr an ad, fr bn bd, fr cn cd] w fun e w' => e = .returned (.bool true) ∧ Below w.heap.size w w' := by
  have J := (((Env.start ht).push an ad).push bn bd).push cn cd
  simp only [World.size_alloc] at J
  go_enter Tryd.func5, Tryd.ntmps5
  go_wp2_with fail
  refine (Va.out _).mono ?_
  rintro e w1 ⟨rfl, hb⟩
  replace J := J.below hb
  clear hb
  obtain ⟨c1_0, d1_0, _, _, z1_0⟩ := id (J.two (w.heap.size + 1 + 1, cn, cd) (by simp))
  obtain ⟨c1_1, d1_1, _, _, z1_1⟩ := id (J.two (w.heap.size + 1, bn, bd) (by simp))
  obtain ⟨c1_2, d1_2, _, _, z1_2⟩ := id (J.two (w.heap.size, an, ad) (by simp))
  go_wp2_with fail
  refine (Vb.out _).mono ?_
  rintro e w2 ⟨rfl, hb⟩
  replace J := J.below hb
  clear hb
  clear c1_0 d1_0 z1_0 c1_1 d1_1 z1_1 c1_2 d1_2 z1_2
  obtain ⟨c2_0, d2_0, _, _, z2_0⟩ := id (J.two (w.heap.size + 1 + 1, cn, cd) (by simp))
  obtain ⟨c2_1, d2_1, _, _, z2_1⟩ := id (J.two (w.heap.size + 1, bn, bd) (by simp))
  obtain ⟨c2_2, d2_2, _, _, z2_2⟩ := id (J.two (w.heap.size, an, ad) (by simp))
  go_wp2_with fail
  refine (Vc.out _).mono ?_
  rintro e w3 ⟨rfl, hb⟩
  replace J := J.below hb
  clear hb
  clear c2_0 d2_0 z2_0 c2_1 d2_1 z2_1 c2_2 d2_2 z2_2
  obtain ⟨c3_0, d3_0, _, _, z3_0⟩ := id (J.two (w.heap.size + 1 + 1, cn, cd) (by simp))
  obtain ⟨c3_1, d3_1, _, _, z3_1⟩ := id (J.two (w.heap.size + 1, bn, bd) (by simp))
  obtain ⟨c3_2, d3_2, _, _, z3_2⟩ := id (J.two (w.heap.size, an, ad) (by simp))
  go_wp2_with fail
  refine (C1.out _).mono ?_
  rintro e w4 ⟨rfl, hb⟩
  replace J := J.below hb
  clear hb
  clear c3_0 d3_0 z3_0 c3_1 d3_1 z3_1 c3_2 d3_2 z3_2
  obtain ⟨c4_0, d4_0, _, _, z4_0⟩ := id (J.two (w.heap.size + 1 + 1, cn, cd) (by simp))
  obtain ⟨c4_1, d4_1, _, _, z4_1⟩ := id (J.two (w.heap.size + 1, bn, bd) (by simp))
  obtain ⟨c4_2, d4_2, _, _, z4_2⟩ := id (J.two (w.heap.size, an, ad) (by simp))
  go_wp2_with fail
  refine (C2.out _).mono ?_
  rintro e w5 ⟨rfl, hb⟩
  replace J := J.below hb
  clear hb
  clear c4_0 d4_0 z4_0 c4_1 d4_1 z4_1 c4_2 d4_2 z4_2
  obtain ⟨c5_0, d5_0, _, _, z5_0⟩ := id (J.two (w.heap.size + 1 + 1, cn, cd) (by simp))
  obtain ⟨c5_1, d5_1, _, _, z5_1⟩ := id (J.two (w.heap.size + 1, bn, bd) (by simp))
  obtain ⟨c5_2, d5_2, _, _, z5_2⟩ := id (J.two (w.heap.size, an, ad) (by simp))
  go_wp2_with fail
  refine (C3.out _).mono ?_
  rintro e w6 ⟨rfl, hb⟩
  replace J := J.below hb
  clear hb
  clear c5_0 d5_0 z5_0 c5_1 d5_1 z5_1 c5_2 d5_2 z5_2
  obtain ⟨c6_0, d6_0, _, _, z6_0⟩ := id (J.two (w.heap.size + 1 + 1, cn, cd) (by simp))
  obtain ⟨c6_1, d6_1, _, _, z6_1⟩ := id (J.two (w.heap.size + 1, bn, bd) (by simp))
  obtain ⟨c6_2, d6_2, _, _, z6_2⟩ := id (J.two (w.heap.size, an, ad) (by simp))
  go_wp2_with fail
  refine (S.out _).mono ?_
  rintro e w7 ⟨rfl, hb⟩
  replace J := J.below hb
  clear hb
  clear c6_0 d6_0 z6_0 c6_1 d6_1 z6_1 c6_2 d6_2 z6_2
  replace J := J.push dn dd
  obtain ⟨c7_0, d7_0, _, _, z7_0⟩ := id (J.two (w7.heap.size, dn, dd) (by simp))
  obtain ⟨c7_1, d7_1, _, _, z7_1⟩ := id (J.two (w.heap.size + 1 + 1, cn, cd) (by simp))
  obtain ⟨c7_2, d7_2, _, _, z7_2⟩ := id (J.two (w.heap.size + 1, bn, bd) (by simp))
  obtain ⟨c7_3, d7_3, _, _, z7_3⟩ := id (J.two (w.heap.size, an, ad) (by simp))
  go_wp2_with fail
  refine (A1.out _).mono ?_
  rintro e w8 ⟨rfl, hb⟩
  replace J := J.below hb
  clear hb
  clear c7_0 d7_0 z7_0 c7_1 d7_1 z7_1 c7_2 d7_2 z7_2 c7_3 d7_3 z7_3
  replace J := J.push sn sd
  obtain ⟨c8_0, d8_0, _, _, z8_0⟩ := id (J.two (w8.heap.size, sn, sd) (by simp))
  obtain ⟨c8_1, d8_1, _, _, z8_1⟩ := id (J.two (w7.heap.size, dn, dd) (by simp))
  obtain ⟨c8_2, d8_2, _, _, z8_2⟩ := id (J.two (w.heap.size + 1 + 1, cn, cd) (by simp))
  obtain ⟨c8_3, d8_3, _, _, z8_3⟩ := id (J.two (w.heap.size + 1, bn, bd) (by simp))
  obtain ⟨c8_4, d8_4, _, _, z8_4⟩ := id (J.two (w.heap.size, an, ad) (by simp))
  go_wp2_with fail
  refine (A2.out _).mono ?_
  rintro e w9 ⟨rfl, hb⟩
  replace J := J.below hb
  clear hb
  clear c8_0 d8_0 z8_0 c8_1 d8_1 z8_1 c8_2 d8_2 z8_2 c8_3 d8_3 z8_3 c8_4 d8_4 z8_4
  replace J := J.push tn td
  obtain ⟨c9_0, d9_0, _, _, z9_0⟩ := id (J.two (w9.heap.size, tn, td) (by simp))
  obtain ⟨c9_1, d9_1, _, _, z9_1⟩ := id (J.two (w8.heap.size, sn, sd) (by simp))
  obtain ⟨c9_2, d9_2, _, _, z9_2⟩ := id (J.two (w7.heap.size, dn, dd) (by simp))
  obtain ⟨c9_3, d9_3, _, _, z9_3⟩ := id (J.two (w.heap.size + 1 + 1, cn, cd) (by simp))
  obtain ⟨c9_4, d9_4, _, _, z9_4⟩ := id (J.two (w.heap.size + 1, bn, bd) (by simp))
  obtain ⟨c9_5, d9_5, _, _, z9_5⟩ := id (J.two (w.heap.size, an, ad) (by simp))
  go_wp2_with fail
  refine (awake_any _ J.tab).mono ?_
  rintro e w10 ⟨rfl, hb⟩
  replace J := J.below hb
  go_wp2_with fail
  go_ret
  exact ⟨rfl, J.old⟩

set_option maxRecDepth 100000 in
set_option maxHeartbeats 4000000 in
theorem order_m_num_gt_e_t (an ad bn bd cn cd y z dn dd de sn sd se tn td te : Int) (w : World) (ht : Tab w)
    (hq : (an == bn) = false)
    (Va : Hid (∀ W, Calls Tryd.prog 8 #[fr an ad] W fun e w' => e = .returned (.bool true) ∧ Below W.heap.size W w'))
    (Vb : Hid (∀ W, Calls Tryd.prog 8 #[fr bn bd] W fun e w' => e = .returned (.bool true) ∧ Below W.heap.size W w'))
    (Vc : Hid (∀ W, Calls Tryd.prog 8 #[fr cn cd] W fun e w' => e = .returned (.bool true) ∧ Below W.heap.size W w'))
    (C1 : Hid (∀ W, Calls Tryd.prog 16 #[fr an ad, fr bn bd] W fun e w' => e = .returned (.int .i64 (-1)) ∧ Below W.heap.size W w'))
    (C2 : Hid (∀ W, Calls Tryd.prog 16 #[fr bn bd, fr an ad] W fun e w' => e = .returned (.int .i64 1) ∧ Below W.heap.size W w'))
    (C3 : Hid (∀ W, Calls Tryd.prog 16 #[fr bn bd, fr cn cd] W fun e w' => e = .returned (.int .i64 y) ∧ Below W.heap.size W w'))
    (hy : 0 < y)
    (S : Hid (∀ W, Calls Tryd.prog 13 #[fr an ad, fr bn bd] W fun e w' => e = .returned (.tuple #[fr dn dd, .int .i64 de]) ∧ Below W.heap.size W w'))
    (hde : (de == 0) = false)
    (A1 : Hid (∀ W, Calls Tryd.prog 12 #[fr an ad, fr cn cd] W fun e w' => e = .returned (.tuple #[fr sn sd, .int .i64 0]) ∧ Below W.heap.size W w'))
    (A2 : Hid (∀ W, Calls Tryd.prog 12 #[fr bn bd, fr cn cd] W fun e w' => e = .returned (.tuple #[fr tn td, .int .i64 te]) ∧ Below W.heap.size W w'))
    (hte : (te != 0) = true)
    :
    Calls Tryd.prog 5 #[fr an ad, fr bn bd, fr cn cd] w fun e w' => e = .returned (.bool true) ∧ Below w.heap.size w w' := by
  have J := (((Env.start ht).push an ad).push bn bd).push cn cd
  simp only [World.size_alloc] at J
  go_enter Tryd.func5, Tryd.ntmps5
  go_wp2_with fail
  refine (Va.out _).mono ?_
  rintro e w1 ⟨rfl, hb⟩
  replace J := J.below hb
  clear hb
  obtain ⟨c1_0, d1_0, _, _, z1_0⟩ := id (J.two (w.heap.size + 1 + 1, cn, cd) (by simp))
  obtain ⟨c1_1, d1_1, _, _, z1_1⟩ := id (J.two (w.heap.size + 1, bn, bd) (by simp))
  obtain ⟨c1_2, d1_2, _, _, z1_2⟩ := id (J.two (w.heap.size, an, ad) (by simp))
  go_wp2_with fail
  refine (Vb.out _).mono ?_
  rintro e w2 ⟨rfl, hb⟩
  replace J := J.below hb
  clear hb
  clear c1_0 d1_0 z1_0 c1_1 d1_1 z1_1 c1_2 d1_2 z1_2
  obtain ⟨c2_0, d2_0, _, _, z2_0⟩ := id (J.two (w.heap.size + 1 + 1, cn, cd) (by simp))
  obtain ⟨c2_1, d2_1, _, _, z2_1⟩ := id (J.two (w.heap.size + 1, bn, bd) (by simp))
  obtain ⟨c2_2, d2_2, _, _, z2_2⟩ := id (J.two (w.heap.size, an, ad) (by simp))
  go_wp2_with fail
  refine (Vc.out _).mono ?_
  rintro e w3 ⟨rfl, hb⟩
  replace J := J.below hb
  clear hb
  clear c2_0 d2_0 z2_0 c2_1 d2_1 z2_1 c2_2 d2_2 z2_2
  obtain ⟨c3_0, d3_0, _, _, z3_0⟩ := id (J.two (w.heap.size + 1 + 1, cn, cd) (by simp))
  obtain ⟨c3_1, d3_1, _, _, z3_1⟩ := id (J.two (w.heap.size + 1, bn, bd) (by simp))
  obtain ⟨c3_2, d3_2, _, _, z3_2⟩ := id (J.two (w.heap.size, an, ad) (by simp))
  go_wp2_with fail
  refine (C1.out _).mono ?_
  rintro e w4 ⟨rfl, hb⟩
  replace J := J.below hb
  clear hb
  clear c3_0 d3_0 z3_0 c3_1 d3_1 z3_1 c3_2 d3_2 z3_2
  obtain ⟨c4_0, d4_0, _, _, z4_0⟩ := id (J.two (w.heap.size + 1 + 1, cn, cd) (by simp))
  obtain ⟨c4_1, d4_1, _, _, z4_1⟩ := id (J.two (w.heap.size + 1, bn, bd) (by simp))
  obtain ⟨c4_2, d4_2, _, _, z4_2⟩ := id (J.two (w.heap.size, an, ad) (by simp))
  go_wp2_with fail
  refine (C2.out _).mono ?_
  rintro e w5 ⟨rfl, hb⟩
  replace J := J.below hb
  clear hb
  clear c4_0 d4_0 z4_0 c4_1 d4_1 z4_1 c4_2 d4_2 z4_2
  obtain ⟨c5_0, d5_0, _, _, z5_0⟩ := id (J.two (w.heap.size + 1 + 1, cn, cd) (by simp))
  obtain ⟨c5_1, d5_1, _, _, z5_1⟩ := id (J.two (w.heap.size + 1, bn, bd) (by simp))
  obtain ⟨c5_2, d5_2, _, _, z5_2⟩ := id (J.two (w.heap.size, an, ad) (by simp))
  go_wp2_with fail
  refine (C3.out _).mono ?_
  rintro e w6 ⟨rfl, hb⟩
  replace J := J.below hb
  clear hb
  clear c5_0 d5_0 z5_0 c5_1 d5_1 z5_1 c5_2 d5_2 z5_2
  obtain ⟨c6_0, d6_0, _, _, z6_0⟩ := id (J.two (w.heap.size + 1 + 1, cn, cd) (by simp))
  obtain ⟨c6_1, d6_1, _, _, z6_1⟩ := id (J.two (w.heap.size + 1, bn, bd) (by simp))
  obtain ⟨c6_2, d6_2, _, _, z6_2⟩ := id (J.two (w.heap.size, an, ad) (by simp))
  go_wp2_with fail
  refine (S.out _).mono ?_
  rintro e w7 ⟨rfl, hb⟩
  replace J := J.below hb
  clear hb
  clear c6_0 d6_0 z6_0 c6_1 d6_1 z6_1 c6_2 d6_2 z6_2
  replace J := J.push dn dd
  obtain ⟨c7_0, d7_0, _, _, z7_0⟩ := id (J.two (w7.heap.size, dn, dd) (by simp))
  obtain ⟨c7_1, d7_1, _, _, z7_1⟩ := id (J.two (w.heap.size + 1 + 1, cn, cd) (by simp))
  obtain ⟨c7_2, d7_2, _, _, z7_2⟩ := id (J.two (w.heap.size + 1, bn, bd) (by simp))
  obtain ⟨c7_3, d7_3, _, _, z7_3⟩ := id (J.two (w.heap.size, an, ad) (by simp))
  go_wp2_with fail
  refine (A1.out _).mono ?_
  rintro e w8 ⟨rfl, hb⟩
  replace J := J.below hb
  clear hb
  clear c7_0 d7_0 z7_0 c7_1 d7_1 z7_1 c7_2 d7_2 z7_2 c7_3 d7_3 z7_3
  replace J := J.push sn sd
  obtain ⟨c8_0, d8_0, _, _, z8_0⟩ := id (J.two (w8.heap.size, sn, sd) (by simp))
  obtain ⟨c8_1, d8_1, _, _, z8_1⟩ := id (J.two (w7.heap.size, dn, dd) (by simp))
  obtain ⟨c8_2, d8_2, _, _, z8_2⟩ := id (J.two (w.heap.size + 1 + 1, cn, cd) (by simp))
  obtain ⟨c8_3, d8_3, _, _, z8_3⟩ := id (J.two (w.heap.size + 1, bn, bd) (by simp))
  obtain ⟨c8_4, d8_4, _, _, z8_4⟩ := id (J.two (w.heap.size, an, ad) (by simp))
  go_wp2_with fail
  refine (A2.out _).mono ?_
  rintro e w9 ⟨rfl, hb⟩
  replace J := J.below hb
  clear hb
  clear c8_0 d8_0 z8_0 c8_1 d8_1 z8_1 c8_2 d8_2 z8_2 c8_3 d8_3 z8_3 c8_4 d8_4 z8_4
  replace J := J.push tn td
  obtain ⟨c9_0, d9_0, _, _, z9_0⟩ := id (J.two (w9.heap.size, tn, td) (by simp))
  obtain ⟨c9_1, d9_1, _, _, z9_1⟩ := id (J.two (w8.heap.size, sn, sd) (by simp))
  obtain ⟨c9_2, d9_2, _, _, z9_2⟩ := id (J.two (w7.heap.size, dn, dd) (by simp))
  obtain ⟨c9_3, d9_3, _, _, z9_3⟩ := id (J.two (w.heap.size + 1 + 1, cn, cd) (by simp))
  obtain ⟨c9_4, d9_4, _, _, z9_4⟩ := id (J.two (w.heap.size + 1, bn, bd) (by simp))
  obtain ⟨c9_5, d9_5, _, _, z9_5⟩ := id (J.two (w.heap.size, an, ad) (by simp))
  go_wp2_with fail
  refine (awake_any _ J.tab).mono ?_
  rintro e w10 ⟨rfl, hb⟩
  replace J := J.below hb
  go_wp2_with fail
  go_ret
  exact ⟨rfl, J.old⟩

set_option maxRecDepth 100000 in
set_option maxHeartbeats 4000000 in
theorem order_m_num_le_d_ok (an ad bn bd cn cd y z dn dd de sn sd se tn td te : Int) (w : World) (ht : Tab w)
    (hq : (an == bn) = false)
    (Va : Hid (∀ W, Calls Tryd.prog 8 #[fr an ad] W fun e w' => e = .returned (.bool true) ∧ Below W.heap.size W w'))
    (Vb : Hid (∀ W, Calls Tryd.prog 8 #[fr bn bd] W fun e w' => e = .returned (.bool true) ∧ Below W.heap.size W w'))
    (Vc : Hid (∀ W, Calls Tryd.prog 8 #[fr cn cd] W fun e w' => e = .returned (.bool true) ∧ Below W.heap.size W w'))
    (C1 : Hid (∀ W, Calls Tryd.prog 16 #[fr an ad, fr bn bd] W fun e w' => e = .returned (.int .i64 (-1)) ∧ Below W.heap.size W w'))
    (C2 : Hid (∀ W, Calls Tryd.prog 16 #[fr bn bd, fr an ad] W fun e w' => e = .returned (.int .i64 1) ∧ Below W.heap.size W w'))
    (C3 : Hid (∀ W, Calls Tryd.prog 16 #[fr bn bd, fr cn cd] W fun e w' => e = .returned (.int .i64 y) ∧ Below W.heap.size W w'))
    (hy : y ≤ 0)
    (C4 : Hid (∀ W, Calls Tryd.prog 16 #[fr an ad, fr cn cd] W fun e w' => e = .returned (.int .i64 z) ∧ Below W.heap.size W w'))
    (hz : z ≤ 0)
    (S : Hid (∀ W, Calls Tryd.prog 13 #[fr an ad, fr bn bd] W fun e w' => e = .returned (.tuple #[fr dn dd, .int .i64 0]) ∧ Below W.heap.size W w'))
    (hd : dn < 0)
    (A1 : Hid (∀ W, Calls Tryd.prog 12 #[fr an ad, fr cn cd] W fun e w' => e = .returned (.tuple #[fr sn sd, .int .i64 0]) ∧ Below W.heap.size W w'))
    (A2 : Hid (∀ W, Calls Tryd.prog 12 #[fr bn bd, fr cn cd] W fun e w' => e = .returned (.tuple #[fr tn td, .int .i64 0]) ∧ Below W.heap.size W w'))
    (C5 : Hid (∀ W, Calls Tryd.prog 16 #[fr sn sd, fr tn td] W fun e w' => e = .returned (.int .i64 (-1)) ∧ Below W.heap.size W w'))
    :
    Calls Tryd.prog 5 #[fr an ad, fr bn bd, fr cn cd] w fun e w' => e = .returned (.bool true) ∧ Below w.heap.size w w' := by
  have J := (((Env.start ht).push an ad).push bn bd).push cn cd
  simp only [World.size_alloc] at J
  go_enter Tryd.func5, Tryd.ntmps5
  go_wp2_with fail
  refine (Va.out _).mono ?_
  rintro e w1 ⟨rfl, hb⟩
  replace J := J.below hb
  clear hb
  obtain ⟨c1_0, d1_0, _, _, z1_0⟩ := id (J.two (w.heap.size + 1 + 1, cn, cd) (by simp))
  obtain ⟨c1_1, d1_1, _, _, z1_1⟩ := id (J.two (w.heap.size + 1, bn, bd) (by simp))
  obtain ⟨c1_2, d1_2, _, _, z1_2⟩ := id (J.two (w.heap.size, an, ad) (by simp))
  go_wp2_with fail
  refine (Vb.out _).mono ?_
  rintro e w2 ⟨rfl, hb⟩
  replace J := J.below hb
  clear hb
  clear c1_0 d1_0 z1_0 c1_1 d1_1 z1_1 c1_2 d1_2 z1_2
  obtain ⟨c2_0, d2_0, _, _, z2_0⟩ := id (J.two (w.heap.size + 1 + 1, cn, cd) (by simp))
  obtain ⟨c2_1, d2_1, _, _, z2_1⟩ := id (J.two (w.heap.size + 1, bn, bd) (by simp))
  obtain ⟨c2_2, d2_2, _, _, z2_2⟩ := id (J.two (w.heap.size, an, ad) (by simp))
  go_wp2_with fail
  refine (Vc.out _).mono ?_
  rintro e w3 ⟨rfl, hb⟩
  replace J := J.below hb
  clear hb
  clear c2_0 d2_0 z2_0 c2_1 d2_1 z2_1 c2_2 d2_2 z2_2
  obtain ⟨c3_0, d3_0, _, _, z3_0⟩ := id (J.two (w.heap.size + 1 + 1, cn, cd) (by simp))
  obtain ⟨c3_1, d3_1, _, _, z3_1⟩ := id (J.two (w.heap.size + 1, bn, bd) (by simp))
  obtain ⟨c3_2, d3_2, _, _, z3_2⟩ := id (J.two (w.heap.size, an, ad) (by simp))
  go_wp2_with fail
  refine (C1.out _).mono ?_
  rintro e w4 ⟨rfl, hb⟩
  replace J := J.below hb
  clear hb
  clear c3_0 d3_0 z3_0 c3_1 d3_1 z3_1 c3_2 d3_2 z3_2
  obtain ⟨c4_0, d4_0, _, _, z4_0⟩ := id (J.two (w.heap.size + 1 + 1, cn, cd) (by simp))
  obtain ⟨c4_1, d4_1, _, _, z4_1⟩ := id (J.two (w.heap.size + 1, bn, bd) (by simp))
  obtain ⟨c4_2, d4_2, _, _, z4_2⟩ := id (J.two (w.heap.size, an, ad) (by simp))
  go_wp2_with fail
  refine (C2.out _).mono ?_
  rintro e w5 ⟨rfl, hb⟩
  replace J := J.below hb
  clear hb
  clear c4_0 d4_0 z4_0 c4_1 d4_1 z4_1 c4_2 d4_2 z4_2
  obtain ⟨c5_0, d5_0, _, _, z5_0⟩ := id (J.two (w.heap.size + 1 + 1, cn, cd) (by simp))
  obtain ⟨c5_1, d5_1, _, _, z5_1⟩ := id (J.two (w.heap.size + 1, bn, bd) (by simp))
  obtain ⟨c5_2, d5_2, _, _, z5_2⟩ := id (J.two (w.heap.size, an, ad) (by simp))
  go_wp2_with fail
  refine (C3.out _).mono ?_
  rintro e w6 ⟨rfl, hb⟩
  replace J := J.below hb
  clear hb
  clear c5_0 d5_0 z5_0 c5_1 d5_1 z5_1 c5_2 d5_2 z5_2
  obtain ⟨c6_0, d6_0, _, _, z6_0⟩ := id (J.two (w.heap.size + 1 + 1, cn, cd) (by simp))
  obtain ⟨c6_1, d6_1, _, _, z6_1⟩ := id (J.two (w.heap.size + 1, bn, bd) (by simp))
  obtain ⟨c6_2, d6_2, _, _, z6_2⟩ := id (J.two (w.heap.size, an, ad) (by simp))
  go_wp2_with fail
  refine (C4.out _).mono ?_
  rintro e w7 ⟨rfl, hb⟩
  replace J := J.below hb
  clear hb
  clear c6_0 d6_0 z6_0 c6_1 d6_1 z6_1 c6_2 d6_2 z6_2
  obtain ⟨c7_0, d7_0, _, _, z7_0⟩ := id (J.two (w.heap.size + 1 + 1, cn, cd) (by simp))
  obtain ⟨c7_1, d7_1, _, _, z7_1⟩ := id (J.two (w.heap.size + 1, bn, bd) (by simp))
  obtain ⟨c7_2, d7_2, _, _, z7_2⟩ := id (J.two (w.heap.size, an, ad) (by simp))
  go_wp2_with fail
  refine (S.out _).mono ?_
  rintro e w8 ⟨rfl, hb⟩
  replace J := J.below hb
  clear hb
  clear c7_0 d7_0 z7_0 c7_1 d7_1 z7_1 c7_2 d7_2 z7_2
  replace J := J.push dn dd
  obtain ⟨c8_0, d8_0, _, _, z8_0⟩ := id (J.two (w8.heap.size, dn, dd) (by simp))
  obtain ⟨c8_1, d8_1, _, _, z8_1⟩ := id (J.two (w.heap.size + 1 + 1, cn, cd) (by simp))
  obtain ⟨c8_2, d8_2, _, _, z8_2⟩ := id (J.two (w.heap.size + 1, bn, bd) (by simp))
  obtain ⟨c8_3, d8_3, _, _, z8_3⟩ := id (J.two (w.heap.size, an, ad) (by simp))
  go_wp2_with fail
  refine (A1.out _).mono ?_
  rintro e w9 ⟨rfl, hb⟩
  replace J := J.below hb
  clear hb
  clear c8_0 d8_0 z8_0 c8_1 d8_1 z8_1 c8_2 d8_2 z8_2 c8_3 d8_3 z8_3
  replace J := J.push sn sd
  obtain ⟨c9_0, d9_0, _, _, z9_0⟩ := id (J.two (w9.heap.size, sn, sd) (by simp))
  obtain ⟨c9_1, d9_1, _, _, z9_1⟩ := id (J.two (w8.heap.size, dn, dd) (by simp))
  obtain ⟨c9_2, d9_2, _, _, z9_2⟩ := id (J.two (w.heap.size + 1 + 1, cn, cd) (by simp))
  obtain ⟨c9_3, d9_3, _, _, z9_3⟩ := id (J.two (w.heap.size + 1, bn, bd) (by simp))
  obtain ⟨c9_4, d9_4, _, _, z9_4⟩ := id (J.two (w.heap.size, an, ad) (by simp))
  go_wp2_with fail
  refine (A2.out _).mono ?_
  rintro e w10 ⟨rfl, hb⟩
  replace J := J.below hb
  clear hb
  clear c9_0 d9_0 z9_0 c9_1 d9_1 z9_1 c9_2 d9_2 z9_2 c9_3 d9_3 z9_3 c9_4 d9_4 z9_4
  replace J := J.push tn td
  obtain ⟨c10_0, d10_0, _, _, z10_0⟩ := id (J.two (w10.heap.size, tn, td) (by simp))
  obtain ⟨c10_1, d10_1, _, _, z10_1⟩ := id (J.two (w9.heap.size, sn, sd) (by simp))
  obtain ⟨c10_2, d10_2, _, _, z10_2⟩ := id (J.two (w8.heap.size, dn, dd) (by simp))
  obtain ⟨c10_3, d10_3, _, _, z10_3⟩ := id (J.two (w.heap.size + 1 + 1, cn, cd) (by simp))
  obtain ⟨c10_4, d10_4, _, _, z10_4⟩ := id (J.two (w.heap.size + 1, bn, bd) (by simp))
  obtain ⟨c10_5, d10_5, _, _, z10_5⟩ := id (J.two (w.heap.size, an, ad) (by simp))
  go_wp2_with fail
  refine (C5.out _).mono ?_
  rintro e w11 ⟨rfl, hb⟩
  replace J := J.below hb
  clear hb
  clear c10_0 d10_0 z10_0 c10_1 d10_1 z10_1 c10_2 d10_2 z10_2 c10_3 d10_3 z10_3 c10_4 d10_4 z10_4 c10_5 d10_5 z10_5
  obtain ⟨c11_0, d11_0, _, _, z11_0⟩ := id (J.two (w10.heap.size, tn, td) (by simp))
  obtain ⟨c11_1, d11_1, _, _, z11_1⟩ := id (J.two (w9.heap.size, sn, sd) (by simp))
  obtain ⟨c11_2, d11_2, _, _, z11_2⟩ := id (J.two (w8.heap.size, dn, dd) (by simp))
  obtain ⟨c11_3, d11_3, _, _, z11_3⟩ := id (J.two (w.heap.size + 1 + 1, cn, cd) (by simp))
  obtain ⟨c11_4, d11_4, _, _, z11_4⟩ := id (J.two (w.heap.size + 1, bn, bd) (by simp))
  obtain ⟨c11_5, d11_5, _, _, z11_5⟩ := id (J.two (w.heap.size, an, ad) (by simp))
  go_wp2_with fail
  refine (awake_any _ J.tab).mono ?_
  rintro e w12 ⟨rfl, hb⟩
  replace J := J.below hb
  go_wp2_with fail
  go_ret
  exact ⟨rfl, J.old⟩

set_option maxRecDepth 100000 in
set_option maxHeartbeats 4000000 in
theorem order_m_den_gt_d_s (an ad bn bd cn cd y z dn dd de sn sd se tn td te : Int) (w : World) (ht : Tab w)
    (hq : (ad == bd) = false)
    (Va : Hid (∀ W, Calls Tryd.prog 8 #[fr an ad] W fun e w' => e = .returned (.bool true) ∧ Below W.heap.size W w'))
    (Vb : Hid (∀ W, Calls Tryd.prog 8 #[fr an bd] W fun e w' => e = .returned (.bool true) ∧ Below W.heap.size W w'))
    (Vc : Hid (∀ W, Calls Tryd.prog 8 #[fr cn cd] W fun e w' => e = .returned (.bool true) ∧ Below W.heap.size W w'))
    (C1 : Hid (∀ W, Calls Tryd.prog 16 #[fr an ad, fr an bd] W fun e w' => e = .returned (.int .i64 (-1)) ∧ Below W.heap.size W w'))
    (C2 : Hid (∀ W, Calls Tryd.prog 16 #[fr an bd, fr an ad] W fun e w' => e = .returned (.int .i64 1) ∧ Below W.heap.size W w'))
    (C3 : Hid (∀ W, Calls Tryd.prog 16 #[fr an bd, fr cn cd] W fun e w' => e = .returned (.int .i64 y) ∧ Below W.heap.size W w'))
    (hy : 0 < y)
    (S : Hid (∀ W, Calls Tryd.prog 13 #[fr an ad, fr an bd] W fun e w' => e = .returned (.tuple #[fr dn dd, .int .i64 0]) ∧ Below W.heap.size W w'))
    (hd : dn < 0)
    (A1 : Hid (∀ W, Calls Tryd.prog 12 #[fr an ad, fr cn cd] W fun e w' => e = .returned (.tuple #[fr sn sd, .int .i64 se]) ∧ Below W.heap.size W w'))
    (A2 : Hid (∀ W, Calls Tryd.prog 12 #[fr an bd, fr cn cd] W fun e w' => e = .returned (.tuple #[fr tn td, .int .i64 te]) ∧ Below W.heap.size W w'))
    (hse : (se != 0) = true)
    :
    Calls Tryd.prog 5 #[fr an ad, fr an bd, fr cn cd] w fun e w' => e = .returned (.bool true) ∧ Below w.heap.size w w' := by
  have J := (((Env.start ht).push an ad).push an bd).push cn cd
  simp only [World.size_alloc] at J
  go_enter Tryd.func5, Tryd.ntmps5
  go_wp2_with fail
  refine (Va.out _).mono ?_
  rintro e w1 ⟨rfl, hb⟩
  replace J := J.below hb
  clear hb
  obtain ⟨c1_0, d1_0, _, _, z1_0⟩ := id (J.two (w.heap.size + 1 + 1, cn, cd) (by simp))
  obtain ⟨c1_1, d1_1, _, _, z1_1⟩ := id (J.two (w.heap.size + 1, an, bd) (by simp))
  obtain ⟨c1_2, d1_2, _, _, z1_2⟩ := id (J.two (w.heap.size, an, ad) (by simp))
  go_wp2_with fail
  refine (Vb.out _).mono ?_
  rintro e w2 ⟨rfl, hb⟩
  replace J := J.below hb
  clear hb
  clear c1_0 d1_0 z1_0 c1_1 d1_1 z1_1 c1_2 d1_2 z1_2
  obtain ⟨c2_0, d2_0, _, _, z2_0⟩ := id (J.two (w.heap.size + 1 + 1, cn, cd) (by simp))
  obtain ⟨c2_1, d2_1, _, _, z2_1⟩ := id (J.two (w.heap.size + 1, an, bd) (by simp))
  obtain ⟨c2_2, d2_2, _, _, z2_2⟩ := id (J.two (w.heap.size, an, ad) (by simp))
  go_wp2_with fail
  refine (Vc.out _).mono ?_
  rintro e w3 ⟨rfl, hb⟩
  replace J := J.below hb
  clear hb
  clear c2_0 d2_0 z2_0 c2_1 d2_1 z2_1 c2_2 d2_2 z2_2
  obtain ⟨c3_0, d3_0, _, _, z3_0⟩ := id (J.two (w.heap.size + 1 + 1, cn, cd) (by simp))
  obtain ⟨c3_1, d3_1, _, _, z3_1⟩ := id (J.two (w.heap.size + 1, an, bd) (by simp))
  obtain ⟨c3_2, d3_2, _, _, z3_2⟩ := id (J.two (w.heap.size, an, ad) (by simp))
  go_wp2_with fail
  refine (C1.out _).mono ?_
  rintro e w4 ⟨rfl, hb⟩
  replace J := J.below hb
  clear hb
  clear c3_0 d3_0 z3_0 c3_1 d3_1 z3_1 c3_2 d3_2 z3_2
  obtain ⟨c4_0, d4_0, _, _, z4_0⟩ := id (J.two (w.heap.size + 1 + 1, cn, cd) (by simp))
  obtain ⟨c4_1, d4_1, _, _, z4_1⟩ := id (J.two (w.heap.size + 1, an, bd) (by simp))
  obtain ⟨c4_2, d4_2, _, _, z4_2⟩ := id (J.two (w.heap.size, an, ad) (by simp))
  go_wp2_with fail
  refine (C2.out _).mono ?_
  rintro e w5 ⟨rfl, hb⟩
  replace J := J.below hb
  clear hb
  clear c4_0 d4_0 z4_0 c4_1 d4_1 z4_1 c4_2 d4_2 z4_2
  obtain ⟨c5_0, d5_0, _, _, z5_0⟩ := id (J.two (w.heap.size + 1 + 1, cn, cd) (by simp))
  obtain ⟨c5_1, d5_1, _, _, z5_1⟩ := id (J.two (w.heap.size + 1, an, bd) (by simp))
  obtain ⟨c5_2, d5_2, _, _, z5_2⟩ := id (J.two (w.heap.size, an, ad) (by simp))
  go_wp2_with fail
  refine (C3.out _).mono ?_
  rintro e w6 ⟨rfl, hb⟩
  replace J := J.below hb
  clear hb
  clear c5_0 d5_0 z5_0 c5_1 d5_1 z5_1 c5_2 d5_2 z5_2
  obtain ⟨c6_0, d6_0, _, _, z6_0⟩ := id (J.two (w.heap.size + 1 + 1, cn, cd) (by simp))
  obtain ⟨c6_1, d6_1, _, _, z6_1⟩ := id (J.two (w.heap.size + 1, an, bd) (by simp))
  obtain ⟨c6_2, d6_2, _, _, z6_2⟩ := id (J.two (w.heap.size, an, ad) (by simp))
  go_wp2_with fail
  refine (S.out _).mono ?_
  rintro e w7 ⟨rfl, hb⟩
  replace J := J.below hb
  clear hb
  clear c6_0 d6_0 z6_0 c6_1 d6_1 z6_1 c6_2 d6_2 z6_2
  replace J := J.push dn dd
  obtain ⟨c7_0, d7_0, _, _, z7_0⟩ := id (J.two (w7.heap.size, dn, dd) (by simp))
  obtain ⟨c7_1, d7_1, _, _, z7_1⟩ := id (J.two (w.heap.size + 1 + 1, cn, cd) (by simp))
  obtain ⟨c7_2, d7_2, _, _, z7_2⟩ := id (J.two (w.heap.size + 1, an, bd) (by simp))
  obtain ⟨c7_3, d7_3, _, _, z7_3⟩ := id (J.two (w.heap.size, an, ad) (by simp))
  go_wp2_with fail
  refine (A1.out _).mono ?_
  rintro e w8 ⟨rfl, hb⟩
  replace J := J.below hb
  clear hb
  clear c7_0 d7_0 z7_0 c7_1 d7_1 z7_1 c7_2 d7_2 z7_2 c7_3 d7_3 z7_3
  replace J := J.push sn sd
  obtain ⟨c8_0, d8_0, _, _, z8_0⟩ := id (J.two (w8.heap.size, sn, sd) (by simp))
  obtain ⟨c8_1, d8_1, _, _, z8_1⟩ := id (J.two (w7.heap.size, dn, dd) (by simp))
  obtain ⟨c8_2, d8_2, _, _, z8_2⟩ := id (J.two (w.heap.size + 1 + 1, cn, cd) (by simp))
  obtain ⟨c8_3, d8_3, _, _, z8_3⟩ := id (J.two (w.heap.size + 1, an, bd) (by simp))
  obtain ⟨c8_4, d8_4, _, _, z8_4⟩ := id (J.two (w.heap.size, an, ad) (by simp))
  go_wp2_with fail
  refine (A2.out _).mono ?_
  rintro e w9 ⟨rfl, hb⟩
  replace J := J.below hb
  clear hb
  clear c8_0 d8_0 z8_0 c8_1 d8_1 z8_1 c8_2 d8_2 z8_2 c8_3 d8_3 z8_3 c8_4 d8_4 z8_4
  replace J := J.push tn td
  obtain ⟨c9_0, d9_0, _, _, z9_0⟩ := id (J.two (w9.heap.size, tn, td) (by simp))
  obtain ⟨c9_1, d9_1, _, _, z9_1⟩ := id (J.two (w8.heap.size, sn, sd) (by simp))
  obtain ⟨c9_2, d9_2, _, _, z9_2⟩ := id (J.two (w7.heap.size, dn, dd) (by simp))
  obtain ⟨c9_3, d9_3, _, _, z9_3⟩ := id (J.two (w.heap.size + 1 + 1, cn, cd) (by simp))
  obtain ⟨c9_4, d9_4, _, _, z9_4⟩ := id (J.two (w.heap.size + 1, an, bd) (by simp))
  obtain ⟨c9_5, d9_5, _, _, z9_5⟩ := id (J.two (w.heap.size, an, ad) (by simp))
  go_wp2_with fail
  refine (awake_any _ J.tab).mono ?_
  rintro e w10 ⟨rfl, hb⟩
  replace J := J.below hb
  go_wp2_with fail
  go_ret
  exact ⟨rfl, J.old⟩

set_option maxRecDepth 100000 in
set_option maxHeartbeats 4000000 in
theorem order_m_den_gt_e_t (an ad bn bd cn cd y z dn dd de sn sd se tn td te : Int) (w : World) (ht : Tab w)
    (hq : (ad == bd) = false)
    (Va : Hid (∀ W, Calls Tryd.prog 8 #[fr an ad] W fun e w' => e = .returned (.bool true) ∧ Below W.heap.size W w'))
    (Vb : Hid (∀ W, Calls Tryd.prog 8 #[fr an bd] W fun e w' => e = .returned (.bool true) ∧ Below W.heap.size W w'))
    (Vc : Hid (∀ W, Calls Tryd.prog 8 #[fr cn cd] W fun e w' => e = .returned (.bool true) ∧ Below W.heap.size W w'))
    (C1 : Hid (∀ W, Calls Tryd.prog 16 #[fr an ad, fr an bd] W fun e w' => e = .returned (.int .i64 (-1)) ∧ Below W.heap.size W w'))
    (C2 : Hid (∀ W, Calls Tryd.prog 16 #[fr an bd, fr an ad] W fun e w' => e = .returned (.int .i64 1) ∧ Below W.heap.size W w'))
    (C3 : Hid (∀ W, Calls Tryd.prog 16 #[fr an bd, fr cn cd] W fun e w' => e = .returned (.int .i64 y) ∧ Below W.heap.size W w'))
    (hy : 0 < y)
    (S : Hid (∀ W, Calls Tryd.prog 13 #[fr an ad, fr an bd] W fun e w' => e = .returned (.tuple #[fr dn dd, .int .i64 de]) ∧ Below W.heap.size W w'))
    (hde : (de == 0) = false)
    (A1 : Hid (∀ W, Calls Tryd.prog 12 #[fr an ad, fr cn cd] W fun e w' => e = .returned (.tuple #[fr sn sd, .int .i64 0]) ∧ Below W.heap.size W w'))
    (A2 : Hid (∀ W, Calls Tryd.prog 12 #[fr an bd, fr cn cd] W fun e w' => e = .returned (.tuple #[fr tn td, .int .i64 te]) ∧ Below W.heap.size W w'))
    (hte : (te != 0) = true)
    :
    Calls Tryd.prog 5 #[fr an ad, fr an bd, fr cn cd] w fun e w' => e = .returned (.bool true) ∧ Below w.heap.size w w' := by
  have J := (((Env.start ht).push an ad).push an bd).push cn cd
  simp only [World.size_alloc] at J
  go_enter Tryd.func5, Tryd.ntmps5
  go_wp2_with fail
  refine (Va.out _).mono ?_
  rintro e w1 ⟨rfl, hb⟩
  replace J := J.below hb
  clear hb
  obtain ⟨c1_0, d1_0, _, _, z1_0⟩ := id (J.two (w.heap.size + 1 + 1, cn, cd) (by simp))
  obtain ⟨c1_1, d1_1, _, _, z1_1⟩ := id (J.two (w.heap.size + 1, an, bd) (by simp))
  obtain ⟨c1_2, d1_2, _, _, z1_2⟩ := id (J.two (w.heap.size, an, ad) (by simp))
  go_wp2_with fail
  refine (Vb.out _).mono ?_
  rintro e w2 ⟨rfl, hb⟩
  replace J := J.below hb
  clear hb
  clear c1_0 d1_0 z1_0 c1_1 d1_1 z1_1 c1_2 d1_2 z1_2
  obtain ⟨c2_0, d2_0, _, _, z2_0⟩ := id (J.two (w.heap.size + 1 + 1, cn, cd) (by simp))
  obtain ⟨c2_1, d2_1, _, _, z2_1⟩ := id (J.two (w.heap.size + 1, an, bd) (by simp))
  obtain ⟨c2_2, d2_2, _, _, z2_2⟩ := id (J.two (w.heap.size, an, ad) (by simp))
  go_wp2_with fail
  refine (Vc.out _).mono ?_
  rintro e w3 ⟨rfl, hb⟩
  replace J := J.below hb
  clear hb
  clear c2_0 d2_0 z2_0 c2_1 d2_1 z2_1 c2_2 d2_2 z2_2
  obtain ⟨c3_0, d3_0, _, _, z3_0⟩ := id (J.two (w.heap.size + 1 + 1, cn, cd) (by simp))
  obtain ⟨c3_1, d3_1, _, _, z3_1⟩ := id (J.two (w.heap.size + 1, an, bd) (by simp))
  obtain ⟨c3_2, d3_2, _, _, z3_2⟩ := id (J.two (w.heap.size, an, ad) (by simp))
  go_wp2_with fail
  refine (C1.out _).mono ?_
  rintro e w4 ⟨rfl, hb⟩
  replace J := J.below hb
  clear hb
  clear c3_0 d3_0 z3_0 c3_1 d3_1 z3_1 c3_2 d3_2 z3_2
  obtain ⟨c4_0, d4_0, _, _, z4_0⟩ := id (J.two (w.heap.size + 1 + 1, cn, cd) (by simp))
  obtain ⟨c4_1, d4_1, _, _, z4_1⟩ := id (J.two (w.heap.size + 1, an, bd) (by simp))
  obtain ⟨c4_2, d4_2, _, _, z4_2⟩ := id (J.two (w.heap.size, an, ad) (by simp))
  go_wp2_with fail
  refine (C2.out _).mono ?_
  rintro e w5 ⟨rfl, hb⟩
  replace J := J.below hb
  clear hb
  clear c4_0 d4_0 z4_0 c4_1 d4_1 z4_1 c4_2 d4_2 z4_2
  obtain ⟨c5_0, d5_0, _, _, z5_0⟩ := id (J.two (w.heap.size + 1 + 1, cn, cd) (by simp))
  obtain ⟨c5_1, d5_1, _, _, z5_1⟩ := id (J.two (w.heap.size + 1, an, bd) (by simp))
  obtain ⟨c5_2, d5_2, _, _, z5_2⟩ := id (J.two (w.heap.size, an, ad) (by simp))
  go_wp2_with fail
  refine (C3.out _).mono ?_
  rintro e w6 ⟨rfl, hb⟩
  replace J := J.below hb
  clear hb
  clear c5_0 d5_0 z5_0 c5_1 d5_1 z5_1 c5_2 d5_2 z5_2
  obtain ⟨c6_0, d6_0, _, _, z6_0⟩ := id (J.two (w.heap.size + 1 + 1, cn, cd) (by simp))
  obtain ⟨c6_1, d6_1, _, _, z6_1⟩ := id (J.two (w.heap.size + 1, an, bd) (by simp))
  obtain ⟨c6_2, d6_2, _, _, z6_2⟩ := id (J.two (w.heap.size, an, ad) (by simp))
  go_wp2_with fail
  refine (S.out _).mono ?_
  rintro e w7 ⟨rfl, hb⟩
  replace J := J.below hb
  clear hb
  clear c6_0 d6_0 z6_0 c6_1 d6_1 z6_1 c6_2 d6_2 z6_2
  replace J := J.push dn dd
  obtain ⟨c7_0, d7_0, _, _, z7_0⟩ := id (J.two (w7.heap.size, dn, dd) (by simp))
  obtain ⟨c7_1, d7_1, _, _, z7_1⟩ := id (J.two (w.heap.size + 1 + 1, cn, cd) (by simp))
  obtain ⟨c7_2, d7_2, _, _, z7_2⟩ := id (J.two (w.heap.size + 1, an, bd) (by simp))
  obtain ⟨c7_3, d7_3, _, _, z7_3⟩ := id (J.two (w.heap.size, an, ad) (by simp))
  go_wp2_with fail
  refine (A1.out _).mono ?_
  rintro e w8 ⟨rfl, hb⟩
  replace J := J.below hb
  clear hb
  clear c7_0 d7_0 z7_0 c7_1 d7_1 z7_1 c7_2 d7_2 z7_2 c7_3 d7_3 z7_3
  replace J := J.push sn sd
  obtain ⟨c8_0, d8_0, _, _, z8_0⟩ := id (J.two (w8.heap.size, sn, sd) (by simp))
  obtain ⟨c8_1, d8_1, _, _, z8_1⟩ := id (J.two (w7.heap.size, dn, dd) (by simp))
  obtain ⟨c8_2, d8_2, _, _, z8_2⟩ := id (J.two (w.heap.size + 1 + 1, cn, cd) (by simp))
  obtain ⟨c8_3, d8_3, _, _, z8_3⟩ := id (J.two (w.heap.size + 1, an, bd) (by simp))
  obtain ⟨c8_4, d8_4, _, _, z8_4⟩ := id (J.two (w.heap.size, an, ad) (by simp))
  go_wp2_with fail
  refine (A2.out _).mono ?_
  rintro e w9 ⟨rfl, hb⟩
  replace J := J.below hb
  clear hb
  clear c8_0 d8_0 z8_0 c8_1 d8_1 z8_1 c8_2 d8_2 z8_2 c8_3 d8_3 z8_3 c8_4 d8_4 z8_4
  replace J := J.push tn td
  obtain ⟨c9_0, d9_0, _, _, z9_0⟩ := id (J.two (w9.heap.size, tn, td) (by simp))
  obtain ⟨c9_1, d9_1, _, _, z9_1⟩ := id (J.two (w8.heap.size, sn, sd) (by simp))
  obtain ⟨c9_2, d9_2, _, _, z9_2⟩ := id (J.two (w7.heap.size, dn, dd) (by simp))
  obtain ⟨c9_3, d9_3, _, _, z9_3⟩ := id (J.two (w.heap.size + 1 + 1, cn, cd) (by simp))
  obtain ⟨c9_4, d9_4, _, _, z9_4⟩ := id (J.two (w.heap.size + 1, an, bd) (by simp))
  obtain ⟨c9_5, d9_5, _, _, z9_5⟩ := id (J.two (w.heap.size, an, ad) (by simp))
  go_wp2_with fail
  refine (awake_any _ J.tab).mono ?_
  rintro e w10 ⟨rfl, hb⟩
  replace J := J.below hb
  go_wp2_with fail
  go_ret
  exact ⟨rfl, J.old⟩

set_option maxRecDepth 100000 in
set_option maxHeartbeats 4000000 in
theorem order_m_den_le_d_ok (an ad bn bd cn cd y z dn dd de sn sd se tn td te : Int) (w : World) (ht : Tab w)
    (hq : (ad == bd) = false)
    (Va : Hid (∀ W, Calls Tryd.prog 8 #[fr an ad] W fun e w' => e = .returned (.bool true) ∧ Below W.heap.size W w'))
    (Vb : Hid (∀ W, Calls Tryd.prog 8 #[fr an bd] W fun e w' => e = .returned (.bool true) ∧ Below W.heap.size W w'))
    (Vc : Hid (∀ W, Calls Tryd.prog 8 #[fr cn cd] W fun e w' => e = .returned (.bool true) ∧ Below W.heap.size W w'))
    (C1 : Hid (∀ W, Calls Tryd.prog 16 #[fr an ad, fr an bd] W fun e w' => e = .returned (.int .i64 (-1)) ∧ Below W.heap.size W w'))
    (C2 : Hid (∀ W, Calls Tryd.prog 16 #[fr an bd, fr an ad] W fun e w' => e = .returned (.int .i64 1) ∧ Below W.heap.size W w'))
    (C3 : Hid (∀ W, Calls Tryd.prog 16 #[fr an bd, fr cn cd] W fun e w' => e = .returned (.int .i64 y) ∧ Below W.heap.size W w'))
    (hy : y ≤ 0)
    (C4 : Hid (∀ W, Calls Tryd.prog 16 #[fr an ad, fr cn cd] W fun e w' => e = .returned (.int .i64 z) ∧ Below W.heap.size W w'))
    (hz : z ≤ 0)
    (S : Hid (∀ W, Calls Tryd.prog 13 #[fr an ad, fr an bd] W fun e w' => e = .returned (.tuple #[fr dn dd, .int .i64 0]) ∧ Below W.heap.size W w'))
    (hd : dn < 0)
    (A1 : Hid (∀ W, Calls Tryd.prog 12 #[fr an ad, fr cn cd] W fun e w' => e = .returned (.tuple #[fr sn sd, .int .i64 0]) ∧ Below W.heap.size W w'))
    (A2 : Hid (∀ W, Calls Tryd.prog 12 #[fr an bd, fr cn cd] W fun e w' => e = .returned (.tuple #[fr tn td, .int .i64 0]) ∧ Below W.heap.size W w'))
    (C5 : Hid (∀ W, Calls Tryd.prog 16 #[fr sn sd, fr tn td] W fun e w' => e = .returned (.int .i64 (-1)) ∧ Below W.heap.size W w'))
    :
    Calls Tryd.prog 5 #[fr an ad, fr an bd, fr cn cd] w fun e w' => e = .returned (.bool true) ∧ Below w.heap.size w w' := by
  have J := (((Env.start ht).push an ad).push an bd).push cn cd
  simp only [World.size_alloc] at J
  go_enter Tryd.func5, Tryd.ntmps5
  go_wp2_with fail
  refine (Va.out _).mono ?_
  rintro e w1 ⟨rfl, hb⟩
  replace J := J.below hb
  clear hb
  obtain ⟨c1_0, d1_0, _, _, z1_0⟩ := id (J.two (w.heap.size + 1 + 1, cn, cd) (by simp))
  obtain ⟨c1_1, d1_1, _, _, z1_1⟩ := id (J.two (w.heap.size + 1, an, bd) (by simp))
  obtain ⟨c1_2, d1_2, _, _, z1_2⟩ := id (J.two (w.heap.size, an, ad) (by simp))
  go_wp2_with fail
  refine (Vb.out _).mono ?_
  rintro e w2 ⟨rfl, hb⟩
  replace J := J.below hb
  clear hb
  clear c1_0 d1_0 z1_0 c1_1 d1_1 z1_1 c1_2 d1_2 z1_2
  obtain ⟨c2_0, d2_0, _, _, z2_0⟩ := id (J.two (w.heap.size + 1 + 1, cn, cd) (by simp))
  obtain ⟨c2_1, d2_1, _, _, z2_1⟩ := id (J.two (w.heap.size + 1, an, bd) (by simp))
  obtain ⟨c2_2, d2_2, _, _, z2_2⟩ := id (J.two (w.heap.size, an, ad) (by simp))
  go_wp2_with fail
  refine (Vc.out _).mono ?_
  rintro e w3 ⟨rfl, hb⟩
  replace J := J.below hb
  clear hb
  clear c2_0 d2_0 z2_0 c2_1 d2_1 z2_1 c2_2 d2_2 z2_2
  obtain ⟨c3_0, d3_0, _, _, z3_0⟩ := id (J.two (w.heap.size + 1 + 1, cn, cd) (by simp))
  obtain ⟨c3_1, d3_1, _, _, z3_1⟩ := id (J.two (w.heap.size + 1, an, bd) (by simp))
  obtain ⟨c3_2, d3_2, _, _, z3_2⟩ := id (J.two (w.heap.size, an, ad) (by simp))
  go_wp2_with fail
  refine (C1.out _).mono ?_
  rintro e w4 ⟨rfl, hb⟩
  replace J := J.below hb
  clear hb
  clear c3_0 d3_0 z3_0 c3_1 d3_1 z3_1 c3_2 d3_2 z3_2
  obtain ⟨c4_0, d4_0, _, _, z4_0⟩ := id (J.two (w.heap.size + 1 + 1, cn, cd) (by simp))
  obtain ⟨c4_1, d4_1, _, _, z4_1⟩ := id (J.two (w.heap.size + 1, an, bd) (by simp))
  obtain ⟨c4_2, d4_2, _, _, z4_2⟩ := id (J.two (w.heap.size, an, ad) (by simp))
  go_wp2_with fail
  refine (C2.out _).mono ?_
  rintro e w5 ⟨rfl, hb⟩
  replace J := J.below hb
  clear hb
  clear c4_0 d4_0 z4_0 c4_1 d4_1 z4_1 c4_2 d4_2 z4_2
  obtain ⟨c5_0, d5_0, _, _, z5_0⟩ := id (J.two (w.heap.size + 1 + 1, cn, cd) (by simp))
  obtain ⟨c5_1, d5_1, _, _, z5_1⟩ := id (J.two (w.heap.size + 1, an, bd) (by simp))
  obtain ⟨c5_2, d5_2, _, _, z5_2⟩ := id (J.two (w.heap.size, an, ad) (by simp))
  go_wp2_with fail
  refine (C3.out _).mono ?_
  rintro e w6 ⟨rfl, hb⟩
  replace J := J.below hb
  clear hb
  clear c5_0 d5_0 z5_0 c5_1 d5_1 z5_1 c5_2 d5_2 z5_2
  obtain ⟨c6_0, d6_0, _, _, z6_0⟩ := id (J.two (w.heap.size + 1 + 1, cn, cd) (by simp))
  obtain ⟨c6_1, d6_1, _, _, z6_1⟩ := id (J.two (w.heap.size + 1, an, bd) (by simp))
  obtain ⟨c6_2, d6_2, _, _, z6_2⟩ := id (J.two (w.heap.size, an, ad) (by simp))
  go_wp2_with fail
  refine (C4.out _).mono ?_
  rintro e w7 ⟨rfl, hb⟩
  replace J := J.below hb
  clear hb
  clear c6_0 d6_0 z6_0 c6_1 d6_1 z6_1 c6_2 d6_2 z6_2
  obtain ⟨c7_0, d7_0, _, _, z7_0⟩ := id (J.two (w.heap.size + 1 + 1, cn, cd) (by simp))
  obtain ⟨c7_1, d7_1, _, _, z7_1⟩ := id (J.two (w.heap.size + 1, an, bd) (by simp))
  obtain ⟨c7_2, d7_2, _, _, z7_2⟩ := id (J.two (w.heap.size, an, ad) (by simp))
  go_wp2_with fail
  refine (S.out _).mono ?_
  rintro e w8 ⟨rfl, hb⟩
  replace J := J.below hb
  clear hb
  clear c7_0 d7_0 z7_0 c7_1 d7_1 z7_1 c7_2 d7_2 z7_2
  replace J := J.push dn dd
  obtain ⟨c8_0, d8_0, _, _, z8_0⟩ := id (J.two (w8.heap.size, dn, dd) (by simp))
  obtain ⟨c8_1, d8_1, _, _, z8_1⟩ := id (J.two (w.heap.size + 1 + 1, cn, cd) (by simp))
  obtain ⟨c8_2, d8_2, _, _, z8_2⟩ := id (J.two (w.heap.size + 1, an, bd) (by simp))
  obtain ⟨c8_3, d8_3, _, _, z8_3⟩ := id (J.two (w.heap.size, an, ad) (by simp))
  go_wp2_with fail
  refine (A1.out _).mono ?_
  rintro e w9 ⟨rfl, hb⟩
  replace J := J.below hb
  clear hb
  clear c8_0 d8_0 z8_0 c8_1 d8_1 z8_1 c8_2 d8_2 z8_2 c8_3 d8_3 z8_3
  replace J := J.push sn sd
  obtain ⟨c9_0, d9_0, _, _, z9_0⟩ := id (J.two (w9.heap.size, sn, sd) (by simp))
  obtain ⟨c9_1, d9_1, _, _, z9_1⟩ := id (J.two (w8.heap.size, dn, dd) (by simp))
  obtain ⟨c9_2, d9_2, _, _, z9_2⟩ := id (J.two (w.heap.size + 1 + 1, cn, cd) (by simp))
  obtain ⟨c9_3, d9_3, _, _, z9_3⟩ := id (J.two (w.heap.size + 1, an, bd) (by simp))
  obtain ⟨c9_4, d9_4, _, _, z9_4⟩ := id (J.two (w.heap.size, an, ad) (by simp))
  go_wp2_with fail
  refine (A2.out _).mono ?_
  rintro e w10 ⟨rfl, hb⟩
  replace J := J.below hb
  clear hb
  clear c9_0 d9_0 z9_0 c9_1 d9_1 z9_1 c9_2 d9_2 z9_2 c9_3 d9_3 z9_3 c9_4 d9_4 z9_4
  replace J := J.push tn td
  obtain ⟨c10_0, d10_0, _, _, z10_0⟩ := id (J.two (w10.heap.size, tn, td) (by simp))
  obtain ⟨c10_1, d10_1, _, _, z10_1⟩ := id (J.two (w9.heap.size, sn, sd) (by simp))
  obtain ⟨c10_2, d10_2, _, _, z10_2⟩ := id (J.two (w8.heap.size, dn, dd) (by simp))
  obtain ⟨c10_3, d10_3, _, _, z10_3⟩ := id (J.two (w.heap.size + 1 + 1, cn, cd) (by simp))
  obtain ⟨c10_4, d10_4, _, _, z10_4⟩ := id (J.two (w.heap.size + 1, an, bd) (by simp))
  obtain ⟨c10_5, d10_5, _, _, z10_5⟩ := id (J.two (w.heap.size, an, ad) (by simp))
  go_wp2_with fail
  refine (C5.out _).mono ?_
  rintro e w11 ⟨rfl, hb⟩
  replace J := J.below hb
  clear hb
  clear c10_0 d10_0 z10_0 c10_1 d10_1 z10_1 c10_2 d10_2 z10_2 c10_3 d10_3 z10_3 c10_4 d10_4 z10_4 c10_5 d10_5 z10_5
  obtain ⟨c11_0, d11_0, _, _, z11_0⟩ := id (J.two (w10.heap.size, tn, td) (by simp))
  obtain ⟨c11_1, d11_1, _, _, z11_1⟩ := id (J.two (w9.heap.size, sn, sd) (by simp))
  obtain ⟨c11_2, d11_2, _, _, z11_2⟩ := id (J.two (w8.heap.size, dn, dd) (by simp))
  obtain ⟨c11_3, d11_3, _, _, z11_3⟩ := id (J.two (w.heap.size + 1 + 1, cn, cd) (by simp))
  obtain ⟨c11_4, d11_4, _, _, z11_4⟩ := id (J.two (w.heap.size + 1, an, bd) (by simp))
  obtain ⟨c11_5, d11_5, _, _, z11_5⟩ := id (J.two (w.heap.size, an, ad) (by simp))
  go_wp2_with fail
  refine (awake_any _ J.tab).mono ?_
  rintro e w12 ⟨rfl, hb⟩
  replace J := J.below hb
  go_wp2_with fail
  go_ret
  exact ⟨rfl, J.old⟩

end Go.Proofs.YtonndlhppihdiabDoor
