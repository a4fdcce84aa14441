/-
  The law FracField, walked: some of its ways (1).
-/
import Derived.Test.YtonndlhppihdiabDoorEnv
namespace Go.Proofs.YtonndlhppihdiabDoor
open Go.ChangeShapes Go.WideShapes Go.ChangeAt Go.RowKit
set_option linter.unusedVariables false
set_option linter.unusedSimpArgs false

set_option maxRecDepth 100000 in
set_option maxHeartbeats 4000000 in
theorem field_e_e_z_n (an ad bn bd cn cd pn pd pe qn qd qe ln ld le rn rd re kn kd ke mn md me on od oe xn xd xe yn yd ye zn zd ze : Int) (w : World) (ht : Tab w)
    (hpe : (pe == 0) = false) (hpe2 : (pe != 0) = true)
    (Va : Hid (∀ W, Calls Tryd.prog 8 #[fr an ad] W fun e w' => e = .returned (.bool true) ∧ Below W.heap.size W w'))
    (Vb : Hid (∀ W, Calls Tryd.prog 8 #[fr 0 bd] W fun e w' => e = .returned (.bool true) ∧ Below W.heap.size W w'))
    (Vc : Hid (∀ W, Calls Tryd.prog 8 #[fr cn cd] W fun e w' => e = .returned (.bool true) ∧ Below W.heap.size W w'))
    (P : Hid (∀ W, Calls Tryd.prog 12 #[fr an ad, fr 0 bd] W fun e w' => e = .returned (.tuple #[fr pn pd, .int .i64 pe]) ∧ Below W.heap.size W w'))
    (P2 : Hid (∀ W, Calls Tryd.prog 12 #[fr 0 bd, fr an ad] W fun e w' => e = .returned (.tuple #[fr pn pd, .int .i64 pe]) ∧ Below W.heap.size W w'))
    (Q : Hid (∀ W, Calls Tryd.prog 12 #[fr 0 bd, fr cn cd] W fun e w' => e = .returned (.tuple #[fr qn qd, .int .i64 qe]) ∧ Below W.heap.size W w'))
    (L : Hid (∀ W, Calls Tryd.prog 12 #[fr pn pd, fr cn cd] W fun e w' => e = .returned (.tuple #[fr ln ld, .int .i64 le]) ∧ Below W.heap.size W w'))
    (R : Hid (∀ W, Calls Tryd.prog 12 #[fr an ad, fr qn qd] W fun e w' => e = .returned (.tuple #[fr rn rd, .int .i64 re]) ∧ Below W.heap.size W w'))
    (K : Hid (∀ W, Calls Tryd.prog 13 #[fr pn pd, fr 0 bd] W fun e w' => e = .returned (.tuple #[fr kn kd, .int .i64 ke]) ∧ Below W.heap.size W w'))
    (M : Hid (∀ W, Calls Tryd.prog 14 #[fr an ad, fr 0 bd] W fun e w' => e = .returned (.tuple #[fr mn md, .int .i64 0]) ∧ Below W.heap.size W w'))
    (O : Hid (∀ W, Calls Tryd.prog 15 #[fr mn md, fr 0 bd] W fun e w' => e = .returned (.tuple #[fr on od, .int .i64 oe]) ∧ Below W.heap.size W w'))
    (X : Hid (∀ W, Calls Tryd.prog 14 #[fr pn pd, fr cn cd] W fun e w' => e = .returned (.tuple #[fr xn xd, .int .i64 xe]) ∧ Below W.heap.size W w'))
    (Y : Hid (∀ W, Calls Tryd.prog 14 #[fr an ad, fr cn cd] W fun e w' => e = .returned (.tuple #[fr yn yd, .int .i64 ye]) ∧ Below W.heap.size W w'))
    (Z : Hid (∀ W, Calls Tryd.prog 14 #[fr 0 bd, fr cn cd] W fun e w' => e = .returned (.tuple #[fr zn zd, .int .i64 ze]) ∧ Below W.heap.size W w'))
    :
    Calls Tryd.prog 4 #[fr an ad, fr 0 bd, fr cn cd] w fun e w' => e = .returned (.bool true) ∧ Below w.heap.size w w' := by
  have J := (((Env.start ht).push an ad).push 0 bd).push cn cd
  simp only [World.size_alloc] at J
  go_enter Tryd.func4, Tryd.ntmps4
  go_wp2_with fail
  refine (Va.out _).mono ?_
  rintro e w1 ⟨rfl, hb⟩
  replace J := J.below hb
  clear hb
  obtain ⟨c1_0, d1_0, _, _, z1_0⟩ := id (J.two (w.heap.size + 1 + 1, cn, cd) (by simp))
  obtain ⟨c1_1, d1_1, _, _, z1_1⟩ := id (J.two (w.heap.size + 1, 0, bd) (by simp))
  obtain ⟨c1_2, d1_2, _, _, z1_2⟩ := id (J.two (w.heap.size, an, ad) (by simp))
  go_wp2_with fail
  refine (Vb.out _).mono ?_
  rintro e w2 ⟨rfl, hb⟩
  replace J := J.below hb
  clear hb
  clear c1_0 d1_0 z1_0 c1_1 d1_1 z1_1 c1_2 d1_2 z1_2
  obtain ⟨c2_0, d2_0, _, _, z2_0⟩ := id (J.two (w.heap.size + 1 + 1, cn, cd) (by simp))
  obtain ⟨c2_1, d2_1, _, _, z2_1⟩ := id (J.two (w.heap.size + 1, 0, bd) (by simp))
  obtain ⟨c2_2, d2_2, _, _, z2_2⟩ := id (J.two (w.heap.size, an, ad) (by simp))
  go_wp2_with fail
  refine (Vc.out _).mono ?_
  rintro e w3 ⟨rfl, hb⟩
  replace J := J.below hb
  clear hb
  clear c2_0 d2_0 z2_0 c2_1 d2_1 z2_1 c2_2 d2_2 z2_2
  obtain ⟨c3_0, d3_0, _, _, z3_0⟩ := id (J.two (w.heap.size + 1 + 1, cn, cd) (by simp))
  obtain ⟨c3_1, d3_1, _, _, z3_1⟩ := id (J.two (w.heap.size + 1, 0, bd) (by simp))
  obtain ⟨c3_2, d3_2, _, _, z3_2⟩ := id (J.two (w.heap.size, an, ad) (by simp))
  go_wp2_with fail
  refine (P.out _).mono ?_
  rintro e w4 ⟨rfl, hb⟩
  replace J := J.below hb
  clear hb
  clear c3_0 d3_0 z3_0 c3_1 d3_1 z3_1 c3_2 d3_2 z3_2
  replace J := J.push pn pd
  obtain ⟨c4_0, d4_0, _, _, z4_0⟩ := id (J.two (w4.heap.size, pn, pd) (by simp))
  obtain ⟨c4_1, d4_1, _, _, z4_1⟩ := id (J.two (w.heap.size + 1 + 1, cn, cd) (by simp))
  obtain ⟨c4_2, d4_2, _, _, z4_2⟩ := id (J.two (w.heap.size + 1, 0, bd) (by simp))
  obtain ⟨c4_3, d4_3, _, _, z4_3⟩ := id (J.two (w.heap.size, an, ad) (by simp))
  go_wp2_with fail
  refine (P2.out _).mono ?_
  rintro e w5 ⟨rfl, hb⟩
  replace J := J.below hb
  clear hb
  clear c4_0 d4_0 z4_0 c4_1 d4_1 z4_1 c4_2 d4_2 z4_2 c4_3 d4_3 z4_3
  replace J := J.push pn pd
  obtain ⟨c5_0, d5_0, _, _, z5_0⟩ := id (J.two (w5.heap.size, pn, pd) (by simp))
  obtain ⟨c5_1, d5_1, _, _, z5_1⟩ := id (J.two (w4.heap.size, pn, pd) (by simp))
  obtain ⟨c5_2, d5_2, _, _, z5_2⟩ := id (J.two (w.heap.size + 1 + 1, cn, cd) (by simp))
  obtain ⟨c5_3, d5_3, _, _, z5_3⟩ := id (J.two (w.heap.size + 1, 0, bd) (by simp))
  obtain ⟨c5_4, d5_4, _, _, z5_4⟩ := id (J.two (w.heap.size, an, ad) (by simp))
  go_wp2_with fail
  refine (Q.out _).mono ?_
  rintro e w6 ⟨rfl, hb⟩
  replace J := J.below hb
  clear hb
  clear c5_0 d5_0 z5_0 c5_1 d5_1 z5_1 c5_2 d5_2 z5_2 c5_3 d5_3 z5_3 c5_4 d5_4 z5_4
  replace J := J.push qn qd
  obtain ⟨c6_0, d6_0, _, _, z6_0⟩ := id (J.two (w6.heap.size, qn, qd) (by simp))
  obtain ⟨c6_2, d6_2, _, _, z6_2⟩ := id (J.two (w4.heap.size, pn, pd) (by simp))
  obtain ⟨c6_3, d6_3, _, _, z6_3⟩ := id (J.two (w.heap.size + 1 + 1, cn, cd) (by simp))
  obtain ⟨c6_4, d6_4, _, _, z6_4⟩ := id (J.two (w.heap.size + 1, 0, bd) (by simp))
  obtain ⟨c6_5, d6_5, _, _, z6_5⟩ := id (J.two (w.heap.size, an, ad) (by simp))
  go_wp2_with fail
  refine (L.out _).mono ?_
  rintro e w7 ⟨rfl, hb⟩
  replace J := J.below hb
  clear hb
  clear c6_0 d6_0 z6_0 c6_2 d6_2 z6_2 c6_3 d6_3 z6_3 c6_4 d6_4 z6_4 c6_5 d6_5 z6_5
  replace J := J.push ln ld
  obtain ⟨c7_0, d7_0, _, _, z7_0⟩ := id (J.two (w7.heap.size, ln, ld) (by simp))
  obtain ⟨c7_1, d7_1, _, _, z7_1⟩ := id (J.two (w6.heap.size, qn, qd) (by simp))
  obtain ⟨c7_3, d7_3, _, _, z7_3⟩ := id (J.two (w4.heap.size, pn, pd) (by simp))
  obtain ⟨c7_4, d7_4, _, _, z7_4⟩ := id (J.two (w.heap.size + 1 + 1, cn, cd) (by simp))
  obtain ⟨c7_5, d7_5, _, _, z7_5⟩ := id (J.two (w.heap.size + 1, 0, bd) (by simp))
  obtain ⟨c7_6, d7_6, _, _, z7_6⟩ := id (J.two (w.heap.size, an, ad) (by simp))
  go_wp2_with fail
  refine (R.out _).mono ?_
  rintro e w8 ⟨rfl, hb⟩
  replace J := J.below hb
  clear hb
  clear c7_0 d7_0 z7_0 c7_1 d7_1 z7_1 c7_3 d7_3 z7_3 c7_4 d7_4 z7_4 c7_5 d7_5 z7_5 c7_6 d7_6 z7_6
  replace J := J.push rn rd
  obtain ⟨c8_0, d8_0, _, _, z8_0⟩ := id (J.two (w8.heap.size, rn, rd) (by simp))
  obtain ⟨c8_1, d8_1, _, _, z8_1⟩ := id (J.two (w7.heap.size, ln, ld) (by simp))
  obtain ⟨c8_4, d8_4, _, _, z8_4⟩ := id (J.two (w4.heap.size, pn, pd) (by simp))
  obtain ⟨c8_5, d8_5, _, _, z8_5⟩ := id (J.two (w.heap.size + 1 + 1, cn, cd) (by simp))
  obtain ⟨c8_6, d8_6, _, _, z8_6⟩ := id (J.two (w.heap.size + 1, 0, bd) (by simp))
  obtain ⟨c8_7, d8_7, _, _, z8_7⟩ := id (J.two (w.heap.size, an, ad) (by simp))
  go_wp2_with fail
  refine (K.out _).mono ?_
  rintro e w9 ⟨rfl, hb⟩
  replace J := J.below hb
  clear hb
  clear c8_0 d8_0 z8_0 c8_1 d8_1 z8_1 c8_4 d8_4 z8_4 c8_5 d8_5 z8_5 c8_6 d8_6 z8_6 c8_7 d8_7 z8_7
  replace J := J.push kn kd
  obtain ⟨c9_0, d9_0, _, _, z9_0⟩ := id (J.two (w9.heap.size, kn, kd) (by simp))
  obtain ⟨c9_5, d9_5, _, _, z9_5⟩ := id (J.two (w4.heap.size, pn, pd) (by simp))
  obtain ⟨c9_6, d9_6, _, _, z9_6⟩ := id (J.two (w.heap.size + 1 + 1, cn, cd) (by simp))
  obtain ⟨c9_7, d9_7, _, _, z9_7⟩ := id (J.two (w.heap.size + 1, 0, bd) (by simp))
  obtain ⟨c9_8, d9_8, _, _, z9_8⟩ := id (J.two (w.heap.size, an, ad) (by simp))
  go_wp2_with fail
  refine (M.out _).mono ?_
  rintro e w10 ⟨rfl, hb⟩
  replace J := J.below hb
  clear hb
  clear c9_0 d9_0 z9_0 c9_5 d9_5 z9_5 c9_6 d9_6 z9_6 c9_7 d9_7 z9_7 c9_8 d9_8 z9_8
  replace J := J.push mn md
  obtain ⟨c10_0, d10_0, _, _, z10_0⟩ := id (J.two (w10.heap.size, mn, md) (by simp))
  obtain ⟨c10_6, d10_6, _, _, z10_6⟩ := id (J.two (w4.heap.size, pn, pd) (by simp))
  obtain ⟨c10_7, d10_7, _, _, z10_7⟩ := id (J.two (w.heap.size + 1 + 1, cn, cd) (by simp))
  obtain ⟨c10_8, d10_8, _, _, z10_8⟩ := id (J.two (w.heap.size + 1, 0, bd) (by simp))
  obtain ⟨c10_9, d10_9, _, _, z10_9⟩ := id (J.two (w.heap.size, an, ad) (by simp))
  go_wp2_with fail
  refine (O.out _).mono ?_
  rintro e w11 ⟨rfl, hb⟩
  replace J := J.below hb
  clear hb
  clear c10_0 d10_0 z10_0 c10_6 d10_6 z10_6 c10_7 d10_7 z10_7 c10_8 d10_8 z10_8 c10_9 d10_9 z10_9
  replace J := J.push on od
  obtain ⟨c11_0, d11_0, _, _, z11_0⟩ := id (J.two (w11.heap.size, on, od) (by simp))
  obtain ⟨c11_7, d11_7, _, _, z11_7⟩ := id (J.two (w4.heap.size, pn, pd) (by simp))
  obtain ⟨c11_8, d11_8, _, _, z11_8⟩ := id (J.two (w.heap.size + 1 + 1, cn, cd) (by simp))
  obtain ⟨c11_9, d11_9, _, _, z11_9⟩ := id (J.two (w.heap.size + 1, 0, bd) (by simp))
  obtain ⟨c11_10, d11_10, _, _, z11_10⟩ := id (J.two (w.heap.size, an, ad) (by simp))
  go_wp2_with fail
  refine (X.out _).mono ?_
  rintro e w12 ⟨rfl, hb⟩
  replace J := J.below hb
  clear hb
  clear c11_0 d11_0 z11_0 c11_7 d11_7 z11_7 c11_8 d11_8 z11_8 c11_9 d11_9 z11_9 c11_10 d11_10 z11_10
  replace J := J.push xn xd
  obtain ⟨c12_0, d12_0, _, _, z12_0⟩ := id (J.two (w12.heap.size, xn, xd) (by simp))
  obtain ⟨c12_9, d12_9, _, _, z12_9⟩ := id (J.two (w.heap.size + 1 + 1, cn, cd) (by simp))
  obtain ⟨c12_10, d12_10, _, _, z12_10⟩ := id (J.two (w.heap.size + 1, 0, bd) (by simp))
  obtain ⟨c12_11, d12_11, _, _, z12_11⟩ := id (J.two (w.heap.size, an, ad) (by simp))
  go_wp2_with fail
  refine (Y.out _).mono ?_
  rintro e w13 ⟨rfl, hb⟩
  replace J := J.below hb
  clear hb
  clear c12_0 d12_0 z12_0 c12_9 d12_9 z12_9 c12_10 d12_10 z12_10 c12_11 d12_11 z12_11
  replace J := J.push yn yd
  obtain ⟨c13_0, d13_0, _, _, z13_0⟩ := id (J.two (w13.heap.size, yn, yd) (by simp))
  obtain ⟨c13_1, d13_1, _, _, z13_1⟩ := id (J.two (w12.heap.size, xn, xd) (by simp))
  obtain ⟨c13_10, d13_10, _, _, z13_10⟩ := id (J.two (w.heap.size + 1 + 1, cn, cd) (by simp))
  obtain ⟨c13_11, d13_11, _, _, z13_11⟩ := id (J.two (w.heap.size + 1, 0, bd) (by simp))
  obtain ⟨c13_12, d13_12, _, _, z13_12⟩ := id (J.two (w.heap.size, an, ad) (by simp))
  go_wp2_with fail
  refine (Z.out _).mono ?_
  rintro e w14 ⟨rfl, hb⟩
  replace J := J.below hb
  clear hb
  clear c13_0 d13_0 z13_0 c13_1 d13_1 z13_1 c13_10 d13_10 z13_10 c13_11 d13_11 z13_11 c13_12 d13_12 z13_12
  replace J := J.push zn zd
  obtain ⟨c14_0, d14_0, _, _, z14_0⟩ := id (J.two (w14.heap.size, zn, zd) (by simp))
  obtain ⟨c14_1, d14_1, _, _, z14_1⟩ := id (J.two (w13.heap.size, yn, yd) (by simp))
  obtain ⟨c14_2, d14_2, _, _, z14_2⟩ := id (J.two (w12.heap.size, xn, xd) (by simp))
  obtain ⟨c14_11, d14_11, _, _, z14_11⟩ := id (J.two (w.heap.size + 1 + 1, cn, cd) (by simp))
  obtain ⟨c14_12, d14_12, _, _, z14_12⟩ := id (J.two (w.heap.size + 1, 0, bd) (by simp))
  obtain ⟨c14_13, d14_13, _, _, z14_13⟩ := id (J.two (w.heap.size, an, ad) (by simp))
  go_wp2_with fail
  refine (awake_any _ J.tab).mono ?_
  rintro e w15 ⟨rfl, hb⟩
  replace J := J.below hb
  go_wp2_with fail
  go_ret
  exact ⟨rfl, J.old⟩

set_option maxRecDepth 100000 in
set_option maxHeartbeats 4000000 in
theorem field_p_p_k_ok (an ad bn bd cn cd pn pd pe qn qd qe ln ld le rn rd re kn kd ke mn md me on od oe xn xd xe yn yd ye zn zd ze : Int) (w : World) (ht : Tab w)
    (Va : Hid (∀ W, Calls Tryd.prog 8 #[fr an ad] W fun e w' => e = .returned (.bool true) ∧ Below W.heap.size W w'))
    (Vb : Hid (∀ W, Calls Tryd.prog 8 #[fr bn bd] W fun e w' => e = .returned (.bool true) ∧ Below W.heap.size W w'))
    (Vc : Hid (∀ W, Calls Tryd.prog 8 #[fr cn cd] W fun e w' => e = .returned (.bool true) ∧ Below W.heap.size W w'))
    (P : Hid (∀ W, Calls Tryd.prog 12 #[fr an ad, fr bn bd] W fun e w' => e = .returned (.tuple #[fr pn pd, .int .i64 0]) ∧ Below W.heap.size W w'))
    (P2 : Hid (∀ W, Calls Tryd.prog 12 #[fr bn bd, fr an ad] W fun e w' => e = .returned (.tuple #[fr pn pd, .int .i64 0]) ∧ Below W.heap.size W w'))
    (Q : Hid (∀ W, Calls Tryd.prog 12 #[fr bn bd, fr cn cd] W fun e w' => e = .returned (.tuple #[fr qn qd, .int .i64 0]) ∧ Below W.heap.size W w'))
    (L : Hid (∀ W, Calls Tryd.prog 12 #[fr pn pd, fr cn cd] W fun e w' => e = .returned (.tuple #[fr ln ld, .int .i64 le]) ∧ Below W.heap.size W w'))
    (R : Hid (∀ W, Calls Tryd.prog 12 #[fr an ad, fr qn qd] W fun e w' => e = .returned (.tuple #[fr ln ld, .int .i64 le]) ∧ Below W.heap.size W w'))
    (K : Hid (∀ W, Calls Tryd.prog 13 #[fr pn pd, fr bn bd] W fun e w' => e = .returned (.tuple #[fr an ad, .int .i64 0]) ∧ Below W.heap.size W w'))
    (hme : (me == 0) = false)
    (M : Hid (∀ W, Calls Tryd.prog 14 #[fr an ad, fr bn bd] W fun e w' => e = .returned (.tuple #[fr mn md, .int .i64 me]) ∧ Below W.heap.size W w'))
    (O : Hid (∀ W, Calls Tryd.prog 15 #[fr mn md, fr bn bd] W fun e w' => e = .returned (.tuple #[fr on od, .int .i64 oe]) ∧ Below W.heap.size W w'))
    (X : Hid (∀ W, Calls Tryd.prog 14 #[fr pn pd, fr cn cd] W fun e w' => e = .returned (.tuple #[fr xn xd, .int .i64 xe]) ∧ Below W.heap.size W w'))
    (Y : Hid (∀ W, Calls Tryd.prog 14 #[fr an ad, fr cn cd] W fun e w' => e = .returned (.tuple #[fr yn yd, .int .i64 0]) ∧ Below W.heap.size W w'))
    (Z : Hid (∀ W, Calls Tryd.prog 14 #[fr bn bd, fr cn cd] W fun e w' => e = .returned (.tuple #[fr zn zd, .int .i64 0]) ∧ Below W.heap.size W w'))
    (S : Hid (∀ W, Calls Tryd.prog 12 #[fr yn yd, fr zn zd] W fun e w' => e = .returned (.tuple #[fr xn xd, .int .i64 xe]) ∧ Below W.heap.size W w'))
    :
    Calls Tryd.prog 4 #[fr an ad, fr bn bd, fr cn cd] w fun e w' => e = .returned (.bool true) ∧ Below w.heap.size w w' := by
  have J := (((Env.start ht).push an ad).push bn bd).push cn cd
  simp only [World.size_alloc] at J
  go_enter Tryd.func4, Tryd.ntmps4
  go_wp2_with fail
  refine (Va.out _).mono ?_
  rintro e w1 ⟨rfl, hb⟩
  replace J := J.below hb
  clear hb
  obtain ⟨c1_0, d1_0, _, _, z1_0⟩ := id (J.two (w.heap.size + 1 + 1, cn, cd) (by simp))
  obtain ⟨c1_1, d1_1, _, _, z1_1⟩ := id (J.two (w.heap.size + 1, bn, bd) (by simp))
  obtain ⟨c1_2, d1_2, _, _, z1_2⟩ := id (J.two (w.heap.size, an, ad) (by simp))
  go_wp2_with fail
  refine (Vb.out _).mono ?_
  rintro e w2 ⟨rfl, hb⟩
  replace J := J.below hb
  clear hb
  clear c1_0 d1_0 z1_0 c1_1 d1_1 z1_1 c1_2 d1_2 z1_2
  obtain ⟨c2_0, d2_0, _, _, z2_0⟩ := id (J.two (w.heap.size + 1 + 1, cn, cd) (by simp))
  obtain ⟨c2_1, d2_1, _, _, z2_1⟩ := id (J.two (w.heap.size + 1, bn, bd) (by simp))
  obtain ⟨c2_2, d2_2, _, _, z2_2⟩ := id (J.two (w.heap.size, an, ad) (by simp))
  go_wp2_with fail
  refine (Vc.out _).mono ?_
  rintro e w3 ⟨rfl, hb⟩
  replace J := J.below hb
  clear hb
  clear c2_0 d2_0 z2_0 c2_1 d2_1 z2_1 c2_2 d2_2 z2_2
  obtain ⟨c3_0, d3_0, _, _, z3_0⟩ := id (J.two (w.heap.size + 1 + 1, cn, cd) (by simp))
  obtain ⟨c3_1, d3_1, _, _, z3_1⟩ := id (J.two (w.heap.size + 1, bn, bd) (by simp))
  obtain ⟨c3_2, d3_2, _, _, z3_2⟩ := id (J.two (w.heap.size, an, ad) (by simp))
  go_wp2_with fail
  refine (P.out _).mono ?_
  rintro e w4 ⟨rfl, hb⟩
  replace J := J.below hb
  clear hb
  clear c3_0 d3_0 z3_0 c3_1 d3_1 z3_1 c3_2 d3_2 z3_2
  replace J := J.push pn pd
  obtain ⟨c4_0, d4_0, _, _, z4_0⟩ := id (J.two (w4.heap.size, pn, pd) (by simp))
  obtain ⟨c4_1, d4_1, _, _, z4_1⟩ := id (J.two (w.heap.size + 1 + 1, cn, cd) (by simp))
  obtain ⟨c4_2, d4_2, _, _, z4_2⟩ := id (J.two (w.heap.size + 1, bn, bd) (by simp))
  obtain ⟨c4_3, d4_3, _, _, z4_3⟩ := id (J.two (w.heap.size, an, ad) (by simp))
  go_wp2_with fail
  refine (P2.out _).mono ?_
  rintro e w5 ⟨rfl, hb⟩
  replace J := J.below hb
  clear hb
  clear c4_0 d4_0 z4_0 c4_1 d4_1 z4_1 c4_2 d4_2 z4_2 c4_3 d4_3 z4_3
  replace J := J.push pn pd
  obtain ⟨c5_0, d5_0, _, _, z5_0⟩ := id (J.two (w5.heap.size, pn, pd) (by simp))
  obtain ⟨c5_1, d5_1, _, _, z5_1⟩ := id (J.two (w4.heap.size, pn, pd) (by simp))
  obtain ⟨c5_2, d5_2, _, _, z5_2⟩ := id (J.two (w.heap.size + 1 + 1, cn, cd) (by simp))
  obtain ⟨c5_3, d5_3, _, _, z5_3⟩ := id (J.two (w.heap.size + 1, bn, bd) (by simp))
  obtain ⟨c5_4, d5_4, _, _, z5_4⟩ := id (J.two (w.heap.size, an, ad) (by simp))
  go_wp2_with fail
  refine (Q.out _).mono ?_
  rintro e w6 ⟨rfl, hb⟩
  replace J := J.below hb
  clear hb
  clear c5_0 d5_0 z5_0 c5_1 d5_1 z5_1 c5_2 d5_2 z5_2 c5_3 d5_3 z5_3 c5_4 d5_4 z5_4
  replace J := J.push qn qd
  obtain ⟨c6_0, d6_0, _, _, z6_0⟩ := id (J.two (w6.heap.size, qn, qd) (by simp))
  obtain ⟨c6_2, d6_2, _, _, z6_2⟩ := id (J.two (w4.heap.size, pn, pd) (by simp))
  obtain ⟨c6_3, d6_3, _, _, z6_3⟩ := id (J.two (w.heap.size + 1 + 1, cn, cd) (by simp))
  obtain ⟨c6_4, d6_4, _, _, z6_4⟩ := id (J.two (w.heap.size + 1, bn, bd) (by simp))
  obtain ⟨c6_5, d6_5, _, _, z6_5⟩ := id (J.two (w.heap.size, an, ad) (by simp))
  go_wp2_with fail
  refine (L.out _).mono ?_
  rintro e w7 ⟨rfl, hb⟩
  replace J := J.below hb
  clear hb
  clear c6_0 d6_0 z6_0 c6_2 d6_2 z6_2 c6_3 d6_3 z6_3 c6_4 d6_4 z6_4 c6_5 d6_5 z6_5
  replace J := J.push ln ld
  obtain ⟨c7_0, d7_0, _, _, z7_0⟩ := id (J.two (w7.heap.size, ln, ld) (by simp))
  obtain ⟨c7_1, d7_1, _, _, z7_1⟩ := id (J.two (w6.heap.size, qn, qd) (by simp))
  obtain ⟨c7_3, d7_3, _, _, z7_3⟩ := id (J.two (w4.heap.size, pn, pd) (by simp))
  obtain ⟨c7_4, d7_4, _, _, z7_4⟩ := id (J.two (w.heap.size + 1 + 1, cn, cd) (by simp))
  obtain ⟨c7_5, d7_5, _, _, z7_5⟩ := id (J.two (w.heap.size + 1, bn, bd) (by simp))
  obtain ⟨c7_6, d7_6, _, _, z7_6⟩ := id (J.two (w.heap.size, an, ad) (by simp))
  go_wp2_with fail
  refine (R.out _).mono ?_
  rintro e w8 ⟨rfl, hb⟩
  replace J := J.below hb
  clear hb
  clear c7_0 d7_0 z7_0 c7_1 d7_1 z7_1 c7_3 d7_3 z7_3 c7_4 d7_4 z7_4 c7_5 d7_5 z7_5 c7_6 d7_6 z7_6
  replace J := J.push ln ld
  obtain ⟨c8_0, d8_0, _, _, z8_0⟩ := id (J.two (w8.heap.size, ln, ld) (by simp))
  obtain ⟨c8_1, d8_1, _, _, z8_1⟩ := id (J.two (w7.heap.size, ln, ld) (by simp))
  obtain ⟨c8_4, d8_4, _, _, z8_4⟩ := id (J.two (w4.heap.size, pn, pd) (by simp))
  obtain ⟨c8_5, d8_5, _, _, z8_5⟩ := id (J.two (w.heap.size + 1 + 1, cn, cd) (by simp))
  obtain ⟨c8_6, d8_6, _, _, z8_6⟩ := id (J.two (w.heap.size + 1, bn, bd) (by simp))
  obtain ⟨c8_7, d8_7, _, _, z8_7⟩ := id (J.two (w.heap.size, an, ad) (by simp))
  go_wp2_with fail
  refine (K.out _).mono ?_
  rintro e w9 ⟨rfl, hb⟩
  replace J := J.below hb
  clear hb
  clear c8_0 d8_0 z8_0 c8_1 d8_1 z8_1 c8_4 d8_4 z8_4 c8_5 d8_5 z8_5 c8_6 d8_6 z8_6 c8_7 d8_7 z8_7
  replace J := J.push an ad
  obtain ⟨c9_0, d9_0, _, _, z9_0⟩ := id (J.two (w9.heap.size, an, ad) (by simp))
  obtain ⟨c9_5, d9_5, _, _, z9_5⟩ := id (J.two (w4.heap.size, pn, pd) (by simp))
  obtain ⟨c9_6, d9_6, _, _, z9_6⟩ := id (J.two (w.heap.size + 1 + 1, cn, cd) (by simp))
  obtain ⟨c9_7, d9_7, _, _, z9_7⟩ := id (J.two (w.heap.size + 1, bn, bd) (by simp))
  obtain ⟨c9_8, d9_8, _, _, z9_8⟩ := id (J.two (w.heap.size, an, ad) (by simp))
  go_wp2_with fail
  refine (M.out _).mono ?_
  rintro e w10 ⟨rfl, hb⟩
  replace J := J.below hb
  clear hb
  clear c9_0 d9_0 z9_0 c9_5 d9_5 z9_5 c9_6 d9_6 z9_6 c9_7 d9_7 z9_7 c9_8 d9_8 z9_8
  replace J := J.push mn md
  obtain ⟨c10_0, d10_0, _, _, z10_0⟩ := id (J.two (w10.heap.size, mn, md) (by simp))
  obtain ⟨c10_6, d10_6, _, _, z10_6⟩ := id (J.two (w4.heap.size, pn, pd) (by simp))
  obtain ⟨c10_7, d10_7, _, _, z10_7⟩ := id (J.two (w.heap.size + 1 + 1, cn, cd) (by simp))
  obtain ⟨c10_8, d10_8, _, _, z10_8⟩ := id (J.two (w.heap.size + 1, bn, bd) (by simp))
  obtain ⟨c10_9, d10_9, _, _, z10_9⟩ := id (J.two (w.heap.size, an, ad) (by simp))
  go_wp2_with fail
  refine (O.out _).mono ?_
  rintro e w11 ⟨rfl, hb⟩
  replace J := J.below hb
  clear hb
  clear c10_0 d10_0 z10_0 c10_6 d10_6 z10_6 c10_7 d10_7 z10_7 c10_8 d10_8 z10_8 c10_9 d10_9 z10_9
  replace J := J.push on od
  obtain ⟨c11_0, d11_0, _, _, z11_0⟩ := id (J.two (w11.heap.size, on, od) (by simp))
  obtain ⟨c11_7, d11_7, _, _, z11_7⟩ := id (J.two (w4.heap.size, pn, pd) (by simp))
  obtain ⟨c11_8, d11_8, _, _, z11_8⟩ := id (J.two (w.heap.size + 1 + 1, cn, cd) (by simp))
  obtain ⟨c11_9, d11_9, _, _, z11_9⟩ := id (J.two (w.heap.size + 1, bn, bd) (by simp))
  obtain ⟨c11_10, d11_10, _, _, z11_10⟩ := id (J.two (w.heap.size, an, ad) (by simp))
  go_wp2_with fail
  refine (X.out _).mono ?_
  rintro e w12 ⟨rfl, hb⟩
  replace J := J.below hb
  clear hb
  clear c11_0 d11_0 z11_0 c11_7 d11_7 z11_7 c11_8 d11_8 z11_8 c11_9 d11_9 z11_9 c11_10 d11_10 z11_10
  replace J := J.push xn xd
  obtain ⟨c12_0, d12_0, _, _, z12_0⟩ := id (J.two (w12.heap.size, xn, xd) (by simp))
  obtain ⟨c12_9, d12_9, _, _, z12_9⟩ := id (J.two (w.heap.size + 1 + 1, cn, cd) (by simp))
  obtain ⟨c12_10, d12_10, _, _, z12_10⟩ := id (J.two (w.heap.size + 1, bn, bd) (by simp))
  obtain ⟨c12_11, d12_11, _, _, z12_11⟩ := id (J.two (w.heap.size, an, ad) (by simp))
  go_wp2_with fail
  refine (Y.out _).mono ?_
  rintro e w13 ⟨rfl, hb⟩
  replace J := J.below hb
  clear hb
  clear c12_0 d12_0 z12_0 c12_9 d12_9 z12_9 c12_10 d12_10 z12_10 c12_11 d12_11 z12_11
  replace J := J.push yn yd
  obtain ⟨c13_0, d13_0, _, _, z13_0⟩ := id (J.two (w13.heap.size, yn, yd) (by simp))
  obtain ⟨c13_1, d13_1, _, _, z13_1⟩ := id (J.two (w12.heap.size, xn, xd) (by simp))
  obtain ⟨c13_10, d13_10, _, _, z13_10⟩ := id (J.two (w.heap.size + 1 + 1, cn, cd) (by simp))
  obtain ⟨c13_11, d13_11, _, _, z13_11⟩ := id (J.two (w.heap.size + 1, bn, bd) (by simp))
  obtain ⟨c13_12, d13_12, _, _, z13_12⟩ := id (J.two (w.heap.size, an, ad) (by simp))
  go_wp2_with fail
  refine (Z.out _).mono ?_
  rintro e w14 ⟨rfl, hb⟩
  replace J := J.below hb
  clear hb
  clear c13_0 d13_0 z13_0 c13_1 d13_1 z13_1 c13_10 d13_10 z13_10 c13_11 d13_11 z13_11 c13_12 d13_12 z13_12
  replace J := J.push zn zd
  obtain ⟨c14_0, d14_0, _, _, z14_0⟩ := id (J.two (w14.heap.size, zn, zd) (by simp))
  obtain ⟨c14_1, d14_1, _, _, z14_1⟩ := id (J.two (w13.heap.size, yn, yd) (by simp))
  obtain ⟨c14_2, d14_2, _, _, z14_2⟩ := id (J.two (w12.heap.size, xn, xd) (by simp))
  obtain ⟨c14_11, d14_11, _, _, z14_11⟩ := id (J.two (w.heap.size + 1 + 1, cn, cd) (by simp))
  obtain ⟨c14_12, d14_12, _, _, z14_12⟩ := id (J.two (w.heap.size + 1, bn, bd) (by simp))
  obtain ⟨c14_13, d14_13, _, _, z14_13⟩ := id (J.two (w.heap.size, an, ad) (by simp))
  go_wp2_with fail
  refine (S.out _).mono ?_
  rintro e w15 ⟨rfl, hb⟩
  replace J := J.below hb
  clear hb
  clear c14_0 d14_0 z14_0 c14_1 d14_1 z14_1 c14_2 d14_2 z14_2 c14_11 d14_11 z14_11 c14_12 d14_12 z14_12 c14_13 d14_13 z14_13
  replace J := J.push xn xd
  obtain ⟨c15_0, d15_0, _, _, z15_0⟩ := id (J.two (w15.heap.size, xn, xd) (by simp))
  obtain ⟨c15_3, d15_3, _, _, z15_3⟩ := id (J.two (w12.heap.size, xn, xd) (by simp))
  go_wp2_with fail
  refine (awake_any _ J.tab).mono ?_
  rintro e w16 ⟨rfl, hb⟩
  replace J := J.below hb
  go_wp2_with fail
  go_ret
  exact ⟨rfl, J.old⟩

set_option maxRecDepth 100000 in
set_option maxHeartbeats 4000000 in
theorem field_p_p_ok_m (an ad bn bd cn cd pn pd pe qn qd qe ln ld le rn rd re kn kd ke mn md me on od oe xn xd xe yn yd ye zn zd ze : Int) (w : World) (ht : Tab w)
    (hb0 : (bn != 0) = true)
    (Va : Hid (∀ W, Calls Tryd.prog 8 #[fr an ad] W fun e w' => e = .returned (.bool true) ∧ Below W.heap.size W w'))
    (Vb : Hid (∀ W, Calls Tryd.prog 8 #[fr bn bd] W fun e w' => e = .returned (.bool true) ∧ Below W.heap.size W w'))
    (Vc : Hid (∀ W, Calls Tryd.prog 8 #[fr cn cd] W fun e w' => e = .returned (.bool true) ∧ Below W.heap.size W w'))
    (P : Hid (∀ W, Calls Tryd.prog 12 #[fr an ad, fr bn bd] W fun e w' => e = .returned (.tuple #[fr pn pd, .int .i64 0]) ∧ Below W.heap.size W w'))
    (P2 : Hid (∀ W, Calls Tryd.prog 12 #[fr bn bd, fr an ad] W fun e w' => e = .returned (.tuple #[fr pn pd, .int .i64 0]) ∧ Below W.heap.size W w'))
    (Q : Hid (∀ W, Calls Tryd.prog 12 #[fr bn bd, fr cn cd] W fun e w' => e = .returned (.tuple #[fr qn qd, .int .i64 0]) ∧ Below W.heap.size W w'))
    (L : Hid (∀ W, Calls Tryd.prog 12 #[fr pn pd, fr cn cd] W fun e w' => e = .returned (.tuple #[fr ln ld, .int .i64 le]) ∧ Below W.heap.size W w'))
    (R : Hid (∀ W, Calls Tryd.prog 12 #[fr an ad, fr qn qd] W fun e w' => e = .returned (.tuple #[fr ln ld, .int .i64 le]) ∧ Below W.heap.size W w'))
    (K : Hid (∀ W, Calls Tryd.prog 13 #[fr pn pd, fr bn bd] W fun e w' => e = .returned (.tuple #[fr an ad, .int .i64 0]) ∧ Below W.heap.size W w'))
    (M : Hid (∀ W, Calls Tryd.prog 14 #[fr an ad, fr bn bd] W fun e w' => e = .returned (.tuple #[fr mn md, .int .i64 0]) ∧ Below W.heap.size W w'))
    (O : Hid (∀ W, Calls Tryd.prog 15 #[fr mn md, fr bn bd] W fun e w' => e = .returned (.tuple #[fr an ad, .int .i64 0]) ∧ Below W.heap.size W w'))
    (X : Hid (∀ W, Calls Tryd.prog 14 #[fr pn pd, fr cn cd] W fun e w' => e = .returned (.tuple #[fr xn xd, .int .i64 xe]) ∧ Below W.heap.size W w'))
    (Y : Hid (∀ W, Calls Tryd.prog 14 #[fr an ad, fr cn cd] W fun e w' => e = .returned (.tuple #[fr yn yd, .int .i64 ye]) ∧ Below W.heap.size W w'))
    (Z : Hid (∀ W, Calls Tryd.prog 14 #[fr bn bd, fr cn cd] W fun e w' => e = .returned (.tuple #[fr zn zd, .int .i64 ze]) ∧ Below W.heap.size W w'))
    (hye : (ye != 0) = true)
    :
    Calls Tryd.prog 4 #[fr an ad, fr bn bd, fr cn cd] w fun e w' => e = .returned (.bool true) ∧ Below w.heap.size w w' := by
  have J := (((Env.start ht).push an ad).push bn bd).push cn cd
  simp only [World.size_alloc] at J
  go_enter Tryd.func4, Tryd.ntmps4
  go_wp2_with fail
  refine (Va.out _).mono ?_
  rintro e w1 ⟨rfl, hb⟩
  replace J := J.below hb
  clear hb
  obtain ⟨c1_0, d1_0, _, _, z1_0⟩ := id (J.two (w.heap.size + 1 + 1, cn, cd) (by simp))
  obtain ⟨c1_1, d1_1, _, _, z1_1⟩ := id (J.two (w.heap.size + 1, bn, bd) (by simp))
  obtain ⟨c1_2, d1_2, _, _, z1_2⟩ := id (J.two (w.heap.size, an, ad) (by simp))
  go_wp2_with fail
  refine (Vb.out _).mono ?_
  rintro e w2 ⟨rfl, hb⟩
  replace J := J.below hb
  clear hb
  clear c1_0 d1_0 z1_0 c1_1 d1_1 z1_1 c1_2 d1_2 z1_2
  obtain ⟨c2_0, d2_0, _, _, z2_0⟩ := id (J.two (w.heap.size + 1 + 1, cn, cd) (by simp))
  obtain ⟨c2_1, d2_1, _, _, z2_1⟩ := id (J.two (w.heap.size + 1, bn, bd) (by simp))
  obtain ⟨c2_2, d2_2, _, _, z2_2⟩ := id (J.two (w.heap.size, an, ad) (by simp))
  go_wp2_with fail
  refine (Vc.out _).mono ?_
  rintro e w3 ⟨rfl, hb⟩
  replace J := J.below hb
  clear hb
  clear c2_0 d2_0 z2_0 c2_1 d2_1 z2_1 c2_2 d2_2 z2_2
  obtain ⟨c3_0, d3_0, _, _, z3_0⟩ := id (J.two (w.heap.size + 1 + 1, cn, cd) (by simp))
  obtain ⟨c3_1, d3_1, _, _, z3_1⟩ := id (J.two (w.heap.size + 1, bn, bd) (by simp))
  obtain ⟨c3_2, d3_2, _, _, z3_2⟩ := id (J.two (w.heap.size, an, ad) (by simp))
  go_wp2_with fail
  refine (P.out _).mono ?_
  rintro e w4 ⟨rfl, hb⟩
  replace J := J.below hb
  clear hb
  clear c3_0 d3_0 z3_0 c3_1 d3_1 z3_1 c3_2 d3_2 z3_2
  replace J := J.push pn pd
  obtain ⟨c4_0, d4_0, _, _, z4_0⟩ := id (J.two (w4.heap.size, pn, pd) (by simp))
  obtain ⟨c4_1, d4_1, _, _, z4_1⟩ := id (J.two (w.heap.size + 1 + 1, cn, cd) (by simp))
  obtain ⟨c4_2, d4_2, _, _, z4_2⟩ := id (J.two (w.heap.size + 1, bn, bd) (by simp))
  obtain ⟨c4_3, d4_3, _, _, z4_3⟩ := id (J.two (w.heap.size, an, ad) (by simp))
  go_wp2_with fail
  refine (P2.out _).mono ?_
  rintro e w5 ⟨rfl, hb⟩
  replace J := J.below hb
  clear hb
  clear c4_0 d4_0 z4_0 c4_1 d4_1 z4_1 c4_2 d4_2 z4_2 c4_3 d4_3 z4_3
  replace J := J.push pn pd
  obtain ⟨c5_0, d5_0, _, _, z5_0⟩ := id (J.two (w5.heap.size, pn, pd) (by simp))
  obtain ⟨c5_1, d5_1, _, _, z5_1⟩ := id (J.two (w4.heap.size, pn, pd) (by simp))
  obtain ⟨c5_2, d5_2, _, _, z5_2⟩ := id (J.two (w.heap.size + 1 + 1, cn, cd) (by simp))
  obtain ⟨c5_3, d5_3, _, _, z5_3⟩ := id (J.two (w.heap.size + 1, bn, bd) (by simp))
  obtain ⟨c5_4, d5_4, _, _, z5_4⟩ := id (J.two (w.heap.size, an, ad) (by simp))
  go_wp2_with fail
  refine (Q.out _).mono ?_
  rintro e w6 ⟨rfl, hb⟩
  replace J := J.below hb
  clear hb
  clear c5_0 d5_0 z5_0 c5_1 d5_1 z5_1 c5_2 d5_2 z5_2 c5_3 d5_3 z5_3 c5_4 d5_4 z5_4
  replace J := J.push qn qd
  obtain ⟨c6_0, d6_0, _, _, z6_0⟩ := id (J.two (w6.heap.size, qn, qd) (by simp))
  obtain ⟨c6_2, d6_2, _, _, z6_2⟩ := id (J.two (w4.heap.size, pn, pd) (by simp))
  obtain ⟨c6_3, d6_3, _, _, z6_3⟩ := id (J.two (w.heap.size + 1 + 1, cn, cd) (by simp))
  obtain ⟨c6_4, d6_4, _, _, z6_4⟩ := id (J.two (w.heap.size + 1, bn, bd) (by simp))
  obtain ⟨c6_5, d6_5, _, _, z6_5⟩ := id (J.two (w.heap.size, an, ad) (by simp))
  go_wp2_with fail
  refine (L.out _).mono ?_
  rintro e w7 ⟨rfl, hb⟩
  replace J := J.below hb
  clear hb
  clear c6_0 d6_0 z6_0 c6_2 d6_2 z6_2 c6_3 d6_3 z6_3 c6_4 d6_4 z6_4 c6_5 d6_5 z6_5
  replace J := J.push ln ld
  obtain ⟨c7_0, d7_0, _, _, z7_0⟩ := id (J.two (w7.heap.size, ln, ld) (by simp))
  obtain ⟨c7_1, d7_1, _, _, z7_1⟩ := id (J.two (w6.heap.size, qn, qd) (by simp))
  obtain ⟨c7_3, d7_3, _, _, z7_3⟩ := id (J.two (w4.heap.size, pn, pd) (by simp))
  obtain ⟨c7_4, d7_4, _, _, z7_4⟩ := id (J.two (w.heap.size + 1 + 1, cn, cd) (by simp))
  obtain ⟨c7_5, d7_5, _, _, z7_5⟩ := id (J.two (w.heap.size + 1, bn, bd) (by simp))
  obtain ⟨c7_6, d7_6, _, _, z7_6⟩ := id (J.two (w.heap.size, an, ad) (by simp))
  go_wp2_with fail
  refine (R.out _).mono ?_
  rintro e w8 ⟨rfl, hb⟩
  replace J := J.below hb
  clear hb
  clear c7_0 d7_0 z7_0 c7_1 d7_1 z7_1 c7_3 d7_3 z7_3 c7_4 d7_4 z7_4 c7_5 d7_5 z7_5 c7_6 d7_6 z7_6
  replace J := J.push ln ld
  obtain ⟨c8_0, d8_0, _, _, z8_0⟩ := id (J.two (w8.heap.size, ln, ld) (by simp))
  obtain ⟨c8_1, d8_1, _, _, z8_1⟩ := id (J.two (w7.heap.size, ln, ld) (by simp))
  obtain ⟨c8_4, d8_4, _, _, z8_4⟩ := id (J.two (w4.heap.size, pn, pd) (by simp))
  obtain ⟨c8_5, d8_5, _, _, z8_5⟩ := id (J.two (w.heap.size + 1 + 1, cn, cd) (by simp))
  obtain ⟨c8_6, d8_6, _, _, z8_6⟩ := id (J.two (w.heap.size + 1, bn, bd) (by simp))
  obtain ⟨c8_7, d8_7, _, _, z8_7⟩ := id (J.two (w.heap.size, an, ad) (by simp))
  go_wp2_with fail
  refine (K.out _).mono ?_
  rintro e w9 ⟨rfl, hb⟩
  replace J := J.below hb
  clear hb
  clear c8_0 d8_0 z8_0 c8_1 d8_1 z8_1 c8_4 d8_4 z8_4 c8_5 d8_5 z8_5 c8_6 d8_6 z8_6 c8_7 d8_7 z8_7
  replace J := J.push an ad
  obtain ⟨c9_0, d9_0, _, _, z9_0⟩ := id (J.two (w9.heap.size, an, ad) (by simp))
  obtain ⟨c9_5, d9_5, _, _, z9_5⟩ := id (J.two (w4.heap.size, pn, pd) (by simp))
  obtain ⟨c9_6, d9_6, _, _, z9_6⟩ := id (J.two (w.heap.size + 1 + 1, cn, cd) (by simp))
  obtain ⟨c9_7, d9_7, _, _, z9_7⟩ := id (J.two (w.heap.size + 1, bn, bd) (by simp))
  obtain ⟨c9_8, d9_8, _, _, z9_8⟩ := id (J.two (w.heap.size, an, ad) (by simp))
  go_wp2_with fail
  refine (M.out _).mono ?_
  rintro e w10 ⟨rfl, hb⟩
  replace J := J.below hb
  clear hb
  clear c9_0 d9_0 z9_0 c9_5 d9_5 z9_5 c9_6 d9_6 z9_6 c9_7 d9_7 z9_7 c9_8 d9_8 z9_8
  replace J := J.push mn md
  obtain ⟨c10_0, d10_0, _, _, z10_0⟩ := id (J.two (w10.heap.size, mn, md) (by simp))
  obtain ⟨c10_6, d10_6, _, _, z10_6⟩ := id (J.two (w4.heap.size, pn, pd) (by simp))
  obtain ⟨c10_7, d10_7, _, _, z10_7⟩ := id (J.two (w.heap.size + 1 + 1, cn, cd) (by simp))
  obtain ⟨c10_8, d10_8, _, _, z10_8⟩ := id (J.two (w.heap.size + 1, bn, bd) (by simp))
  obtain ⟨c10_9, d10_9, _, _, z10_9⟩ := id (J.two (w.heap.size, an, ad) (by simp))
  go_wp2_with fail
  refine (O.out _).mono ?_
  rintro e w11 ⟨rfl, hb⟩
  replace J := J.below hb
  clear hb
  clear c10_0 d10_0 z10_0 c10_6 d10_6 z10_6 c10_7 d10_7 z10_7 c10_8 d10_8 z10_8 c10_9 d10_9 z10_9
  replace J := J.push an ad
  obtain ⟨c11_0, d11_0, _, _, z11_0⟩ := id (J.two (w11.heap.size, an, ad) (by simp))
  obtain ⟨c11_7, d11_7, _, _, z11_7⟩ := id (J.two (w4.heap.size, pn, pd) (by simp))
  obtain ⟨c11_8, d11_8, _, _, z11_8⟩ := id (J.two (w.heap.size + 1 + 1, cn, cd) (by simp))
  obtain ⟨c11_9, d11_9, _, _, z11_9⟩ := id (J.two (w.heap.size + 1, bn, bd) (by simp))
  obtain ⟨c11_10, d11_10, _, _, z11_10⟩ := id (J.two (w.heap.size, an, ad) (by simp))
  go_wp2_with fail
  refine (X.out _).mono ?_
  rintro e w12 ⟨rfl, hb⟩
  replace J := J.below hb
  clear hb
  clear c11_0 d11_0 z11_0 c11_7 d11_7 z11_7 c11_8 d11_8 z11_8 c11_9 d11_9 z11_9 c11_10 d11_10 z11_10
  replace J := J.push xn xd
  obtain ⟨c12_0, d12_0, _, _, z12_0⟩ := id (J.two (w12.heap.size, xn, xd) (by simp))
  obtain ⟨c12_9, d12_9, _, _, z12_9⟩ := id (J.two (w.heap.size + 1 + 1, cn, cd) (by simp))
  obtain ⟨c12_10, d12_10, _, _, z12_10⟩ := id (J.two (w.heap.size + 1, bn, bd) (by simp))
  obtain ⟨c12_11, d12_11, _, _, z12_11⟩ := id (J.two (w.heap.size, an, ad) (by simp))
  go_wp2_with fail
  refine (Y.out _).mono ?_
  rintro e w13 ⟨rfl, hb⟩
  replace J := J.below hb
  clear hb
  clear c12_0 d12_0 z12_0 c12_9 d12_9 z12_9 c12_10 d12_10 z12_10 c12_11 d12_11 z12_11
  replace J := J.push yn yd
  obtain ⟨c13_0, d13_0, _, _, z13_0⟩ := id (J.two (w13.heap.size, yn, yd) (by simp))
  obtain ⟨c13_1, d13_1, _, _, z13_1⟩ := id (J.two (w12.heap.size, xn, xd) (by simp))
  obtain ⟨c13_10, d13_10, _, _, z13_10⟩ := id (J.two (w.heap.size + 1 + 1, cn, cd) (by simp))
  obtain ⟨c13_11, d13_11, _, _, z13_11⟩ := id (J.two (w.heap.size + 1, bn, bd) (by simp))
  obtain ⟨c13_12, d13_12, _, _, z13_12⟩ := id (J.two (w.heap.size, an, ad) (by simp))
  go_wp2_with fail
  refine (Z.out _).mono ?_
  rintro e w14 ⟨rfl, hb⟩
  replace J := J.below hb
  clear hb
  clear c13_0 d13_0 z13_0 c13_1 d13_1 z13_1 c13_10 d13_10 z13_10 c13_11 d13_11 z13_11 c13_12 d13_12 z13_12
  replace J := J.push zn zd
  obtain ⟨c14_0, d14_0, _, _, z14_0⟩ := id (J.two (w14.heap.size, zn, zd) (by simp))
  obtain ⟨c14_1, d14_1, _, _, z14_1⟩ := id (J.two (w13.heap.size, yn, yd) (by simp))
  obtain ⟨c14_2, d14_2, _, _, z14_2⟩ := id (J.two (w12.heap.size, xn, xd) (by simp))
  obtain ⟨c14_11, d14_11, _, _, z14_11⟩ := id (J.two (w.heap.size + 1 + 1, cn, cd) (by simp))
  obtain ⟨c14_12, d14_12, _, _, z14_12⟩ := id (J.two (w.heap.size + 1, bn, bd) (by simp))
  obtain ⟨c14_13, d14_13, _, _, z14_13⟩ := id (J.two (w.heap.size, an, ad) (by simp))
  go_wp2_with fail
  refine (awake_any _ J.tab).mono ?_
  rintro e w15 ⟨rfl, hb⟩
  replace J := J.below hb
  go_wp2_with fail
  go_ret
  exact ⟨rfl, J.old⟩

set_option maxRecDepth 100000 in
set_option maxHeartbeats 4000000 in
theorem field_p_e_k_n (an ad bn bd cn cd pn pd pe qn qd qe ln ld le rn rd re kn kd ke mn md me on od oe xn xd xe yn yd ye zn zd ze : Int) (w : World) (ht : Tab w)
    (hqe : (qe == 0) = false)
    (Va : Hid (∀ W, Calls Tryd.prog 8 #[fr an ad] W fun e w' => e = .returned (.bool true) ∧ Below W.heap.size W w'))
    (Vb : Hid (∀ W, Calls Tryd.prog 8 #[fr bn bd] W fun e w' => e = .returned (.bool true) ∧ Below W.heap.size W w'))
    (Vc : Hid (∀ W, Calls Tryd.prog 8 #[fr cn cd] W fun e w' => e = .returned (.bool true) ∧ Below W.heap.size W w'))
    (P : Hid (∀ W, Calls Tryd.prog 12 #[fr an ad, fr bn bd] W fun e w' => e = .returned (.tuple #[fr pn pd, .int .i64 0]) ∧ Below W.heap.size W w'))
    (P2 : Hid (∀ W, Calls Tryd.prog 12 #[fr bn bd, fr an ad] W fun e w' => e = .returned (.tuple #[fr pn pd, .int .i64 0]) ∧ Below W.heap.size W w'))
    (Q : Hid (∀ W, Calls Tryd.prog 12 #[fr bn bd, fr cn cd] W fun e w' => e = .returned (.tuple #[fr qn qd, .int .i64 qe]) ∧ Below W.heap.size W w'))
    (L : Hid (∀ W, Calls Tryd.prog 12 #[fr pn pd, fr cn cd] W fun e w' => e = .returned (.tuple #[fr ln ld, .int .i64 le]) ∧ Below W.heap.size W w'))
    (R : Hid (∀ W, Calls Tryd.prog 12 #[fr an ad, fr qn qd] W fun e w' => e = .returned (.tuple #[fr rn rd, .int .i64 re]) ∧ Below W.heap.size W w'))
    (K : Hid (∀ W, Calls Tryd.prog 13 #[fr pn pd, fr bn bd] W fun e w' => e = .returned (.tuple #[fr an ad, .int .i64 0]) ∧ Below W.heap.size W w'))
    (hme : (me == 0) = false)
    (M : Hid (∀ W, Calls Tryd.prog 14 #[fr an ad, fr bn bd] W fun e w' => e = .returned (.tuple #[fr mn md, .int .i64 me]) ∧ Below W.heap.size W w'))
    (O : Hid (∀ W, Calls Tryd.prog 15 #[fr mn md, fr bn bd] W fun e w' => e = .returned (.tuple #[fr on od, .int .i64 oe]) ∧ Below W.heap.size W w'))
    (X : Hid (∀ W, Calls Tryd.prog 14 #[fr pn pd, fr cn cd] W fun e w' => e = .returned (.tuple #[fr xn xd, .int .i64 xe]) ∧ Below W.heap.size W w'))
    (Y : Hid (∀ W, Calls Tryd.prog 14 #[fr an ad, fr cn cd] W fun e w' => e = .returned (.tuple #[fr yn yd, .int .i64 0]) ∧ Below W.heap.size W w'))
    (Z : Hid (∀ W, Calls Tryd.prog 14 #[fr bn bd, fr cn cd] W fun e w' => e = .returned (.tuple #[fr zn zd, .int .i64 ze]) ∧ Below W.heap.size W w'))
    (hze : (ze != 0) = true)
    :
    Calls Tryd.prog 4 #[fr an ad, fr bn bd, fr cn cd] w fun e w' => e = .returned (.bool true) ∧ Below w.heap.size w w' := by
  have J := (((Env.start ht).push an ad).push bn bd).push cn cd
  simp only [World.size_alloc] at J
  go_enter Tryd.func4, Tryd.ntmps4
  go_wp2_with fail
  refine (Va.out _).mono ?_
  rintro e w1 ⟨rfl, hb⟩
  replace J := J.below hb
  clear hb
  obtain ⟨c1_0, d1_0, _, _, z1_0⟩ := id (J.two (w.heap.size + 1 + 1, cn, cd) (by simp))
  obtain ⟨c1_1, d1_1, _, _, z1_1⟩ := id (J.two (w.heap.size + 1, bn, bd) (by simp))
  obtain ⟨c1_2, d1_2, _, _, z1_2⟩ := id (J.two (w.heap.size, an, ad) (by simp))
  go_wp2_with fail
  refine (Vb.out _).mono ?_
  rintro e w2 ⟨rfl, hb⟩
  replace J := J.below hb
  clear hb
  clear c1_0 d1_0 z1_0 c1_1 d1_1 z1_1 c1_2 d1_2 z1_2
  obtain ⟨c2_0, d2_0, _, _, z2_0⟩ := id (J.two (w.heap.size + 1 + 1, cn, cd) (by simp))
  obtain ⟨c2_1, d2_1, _, _, z2_1⟩ := id (J.two (w.heap.size + 1, bn, bd) (by simp))
  obtain ⟨c2_2, d2_2, _, _, z2_2⟩ := id (J.two (w.heap.size, an, ad) (by simp))
  go_wp2_with fail
  refine (Vc.out _).mono ?_
  rintro e w3 ⟨rfl, hb⟩
  replace J := J.below hb
  clear hb
  clear c2_0 d2_0 z2_0 c2_1 d2_1 z2_1 c2_2 d2_2 z2_2
  obtain ⟨c3_0, d3_0, _, _, z3_0⟩ := id (J.two (w.heap.size + 1 + 1, cn, cd) (by simp))
  obtain ⟨c3_1, d3_1, _, _, z3_1⟩ := id (J.two (w.heap.size + 1, bn, bd) (by simp))
  obtain ⟨c3_2, d3_2, _, _, z3_2⟩ := id (J.two (w.heap.size, an, ad) (by simp))
  go_wp2_with fail
  refine (P.out _).mono ?_
  rintro e w4 ⟨rfl, hb⟩
  replace J := J.below hb
  clear hb
  clear c3_0 d3_0 z3_0 c3_1 d3_1 z3_1 c3_2 d3_2 z3_2
  replace J := J.push pn pd
  obtain ⟨c4_0, d4_0, _, _, z4_0⟩ := id (J.two (w4.heap.size, pn, pd) (by simp))
  obtain ⟨c4_1, d4_1, _, _, z4_1⟩ := id (J.two (w.heap.size + 1 + 1, cn, cd) (by simp))
  obtain ⟨c4_2, d4_2, _, _, z4_2⟩ := id (J.two (w.heap.size + 1, bn, bd) (by simp))
  obtain ⟨c4_3, d4_3, _, _, z4_3⟩ := id (J.two (w.heap.size, an, ad) (by simp))
  go_wp2_with fail
  refine (P2.out _).mono ?_
  rintro e w5 ⟨rfl, hb⟩
  replace J := J.below hb
  clear hb
  clear c4_0 d4_0 z4_0 c4_1 d4_1 z4_1 c4_2 d4_2 z4_2 c4_3 d4_3 z4_3
  replace J := J.push pn pd
  obtain ⟨c5_0, d5_0, _, _, z5_0⟩ := id (J.two (w5.heap.size, pn, pd) (by simp))
  obtain ⟨c5_1, d5_1, _, _, z5_1⟩ := id (J.two (w4.heap.size, pn, pd) (by simp))
  obtain ⟨c5_2, d5_2, _, _, z5_2⟩ := id (J.two (w.heap.size + 1 + 1, cn, cd) (by simp))
  obtain ⟨c5_3, d5_3, _, _, z5_3⟩ := id (J.two (w.heap.size + 1, bn, bd) (by simp))
  obtain ⟨c5_4, d5_4, _, _, z5_4⟩ := id (J.two (w.heap.size, an, ad) (by simp))
  go_wp2_with fail
  refine (Q.out _).mono ?_
  rintro e w6 ⟨rfl, hb⟩
  replace J := J.below hb
  clear hb
  clear c5_0 d5_0 z5_0 c5_1 d5_1 z5_1 c5_2 d5_2 z5_2 c5_3 d5_3 z5_3 c5_4 d5_4 z5_4
  replace J := J.push qn qd
  obtain ⟨c6_0, d6_0, _, _, z6_0⟩ := id (J.two (w6.heap.size, qn, qd) (by simp))
  obtain ⟨c6_2, d6_2, _, _, z6_2⟩ := id (J.two (w4.heap.size, pn, pd) (by simp))
  obtain ⟨c6_3, d6_3, _, _, z6_3⟩ := id (J.two (w.heap.size + 1 + 1, cn, cd) (by simp))
  obtain ⟨c6_4, d6_4, _, _, z6_4⟩ := id (J.two (w.heap.size + 1, bn, bd) (by simp))
  obtain ⟨c6_5, d6_5, _, _, z6_5⟩ := id (J.two (w.heap.size, an, ad) (by simp))
  go_wp2_with fail
  refine (L.out _).mono ?_
  rintro e w7 ⟨rfl, hb⟩
  replace J := J.below hb
  clear hb
  clear c6_0 d6_0 z6_0 c6_2 d6_2 z6_2 c6_3 d6_3 z6_3 c6_4 d6_4 z6_4 c6_5 d6_5 z6_5
  replace J := J.push ln ld
  obtain ⟨c7_0, d7_0, _, _, z7_0⟩ := id (J.two (w7.heap.size, ln, ld) (by simp))
  obtain ⟨c7_1, d7_1, _, _, z7_1⟩ := id (J.two (w6.heap.size, qn, qd) (by simp))
  obtain ⟨c7_3, d7_3, _, _, z7_3⟩ := id (J.two (w4.heap.size, pn, pd) (by simp))
  obtain ⟨c7_4, d7_4, _, _, z7_4⟩ := id (J.two (w.heap.size + 1 + 1, cn, cd) (by simp))
  obtain ⟨c7_5, d7_5, _, _, z7_5⟩ := id (J.two (w.heap.size + 1, bn, bd) (by simp))
  obtain ⟨c7_6, d7_6, _, _, z7_6⟩ := id (J.two (w.heap.size, an, ad) (by simp))
  go_wp2_with fail
  refine (R.out _).mono ?_
  rintro e w8 ⟨rfl, hb⟩
  replace J := J.below hb
  clear hb
  clear c7_0 d7_0 z7_0 c7_1 d7_1 z7_1 c7_3 d7_3 z7_3 c7_4 d7_4 z7_4 c7_5 d7_5 z7_5 c7_6 d7_6 z7_6
  replace J := J.push rn rd
  obtain ⟨c8_0, d8_0, _, _, z8_0⟩ := id (J.two (w8.heap.size, rn, rd) (by simp))
  obtain ⟨c8_1, d8_1, _, _, z8_1⟩ := id (J.two (w7.heap.size, ln, ld) (by simp))
  obtain ⟨c8_4, d8_4, _, _, z8_4⟩ := id (J.two (w4.heap.size, pn, pd) (by simp))
  obtain ⟨c8_5, d8_5, _, _, z8_5⟩ := id (J.two (w.heap.size + 1 + 1, cn, cd) (by simp))
  obtain ⟨c8_6, d8_6, _, _, z8_6⟩ := id (J.two (w.heap.size + 1, bn, bd) (by simp))
  obtain ⟨c8_7, d8_7, _, _, z8_7⟩ := id (J.two (w.heap.size, an, ad) (by simp))
  go_wp2_with fail
  refine (K.out _).mono ?_
  rintro e w9 ⟨rfl, hb⟩
  replace J := J.below hb
  clear hb
  clear c8_0 d8_0 z8_0 c8_1 d8_1 z8_1 c8_4 d8_4 z8_4 c8_5 d8_5 z8_5 c8_6 d8_6 z8_6 c8_7 d8_7 z8_7
  replace J := J.push an ad
  obtain ⟨c9_0, d9_0, _, _, z9_0⟩ := id (J.two (w9.heap.size, an, ad) (by simp))
  obtain ⟨c9_5, d9_5, _, _, z9_5⟩ := id (J.two (w4.heap.size, pn, pd) (by simp))
  obtain ⟨c9_6, d9_6, _, _, z9_6⟩ := id (J.two (w.heap.size + 1 + 1, cn, cd) (by simp))
  obtain ⟨c9_7, d9_7, _, _, z9_7⟩ := id (J.two (w.heap.size + 1, bn, bd) (by simp))
  obtain ⟨c9_8, d9_8, _, _, z9_8⟩ := id (J.two (w.heap.size, an, ad) (by simp))
  go_wp2_with fail
  refine (M.out _).mono ?_
  rintro e w10 ⟨rfl, hb⟩
  replace J := J.below hb
  clear hb
  clear c9_0 d9_0 z9_0 c9_5 d9_5 z9_5 c9_6 d9_6 z9_6 c9_7 d9_7 z9_7 c9_8 d9_8 z9_8
  replace J := J.push mn md
  obtain ⟨c10_0, d10_0, _, _, z10_0⟩ := id (J.two (w10.heap.size, mn, md) (by simp))
  obtain ⟨c10_6, d10_6, _, _, z10_6⟩ := id (J.two (w4.heap.size, pn, pd) (by simp))
  obtain ⟨c10_7, d10_7, _, _, z10_7⟩ := id (J.two (w.heap.size + 1 + 1, cn, cd) (by simp))
  obtain ⟨c10_8, d10_8, _, _, z10_8⟩ := id (J.two (w.heap.size + 1, bn, bd) (by simp))
  obtain ⟨c10_9, d10_9, _, _, z10_9⟩ := id (J.two (w.heap.size, an, ad) (by simp))
  go_wp2_with fail
  refine (O.out _).mono ?_
  rintro e w11 ⟨rfl, hb⟩
  replace J := J.below hb
  clear hb
  clear c10_0 d10_0 z10_0 c10_6 d10_6 z10_6 c10_7 d10_7 z10_7 c10_8 d10_8 z10_8 c10_9 d10_9 z10_9
  replace J := J.push on od
  obtain ⟨c11_0, d11_0, _, _, z11_0⟩ := id (J.two (w11.heap.size, on, od) (by simp))
  obtain ⟨c11_7, d11_7, _, _, z11_7⟩ := id (J.two (w4.heap.size, pn, pd) (by simp))
  obtain ⟨c11_8, d11_8, _, _, z11_8⟩ := id (J.two (w.heap.size + 1 + 1, cn, cd) (by simp))
  obtain ⟨c11_9, d11_9, _, _, z11_9⟩ := id (J.two (w.heap.size + 1, bn, bd) (by simp))
  obtain ⟨c11_10, d11_10, _, _, z11_10⟩ := id (J.two (w.heap.size, an, ad) (by simp))
  go_wp2_with fail
  refine (X.out _).mono ?_
  rintro e w12 ⟨rfl, hb⟩
  replace J := J.below hb
  clear hb
  clear c11_0 d11_0 z11_0 c11_7 d11_7 z11_7 c11_8 d11_8 z11_8 c11_9 d11_9 z11_9 c11_10 d11_10 z11_10
  replace J := J.push xn xd
  obtain ⟨c12_0, d12_0, _, _, z12_0⟩ := id (J.two (w12.heap.size, xn, xd) (by simp))
  obtain ⟨c12_9, d12_9, _, _, z12_9⟩ := id (J.two (w.heap.size + 1 + 1, cn, cd) (by simp))
  obtain ⟨c12_10, d12_10, _, _, z12_10⟩ := id (J.two (w.heap.size + 1, bn, bd) (by simp))
  obtain ⟨c12_11, d12_11, _, _, z12_11⟩ := id (J.two (w.heap.size, an, ad) (by simp))
  go_wp2_with fail
  refine (Y.out _).mono ?_
  rintro e w13 ⟨rfl, hb⟩
  replace J := J.below hb
  clear hb
  clear c12_0 d12_0 z12_0 c12_9 d12_9 z12_9 c12_10 d12_10 z12_10 c12_11 d12_11 z12_11
  replace J := J.push yn yd
  obtain ⟨c13_0, d13_0, _, _, z13_0⟩ := id (J.two (w13.heap.size, yn, yd) (by simp))
  obtain ⟨c13_1, d13_1, _, _, z13_1⟩ := id (J.two (w12.heap.size, xn, xd) (by simp))
  obtain ⟨c13_10, d13_10, _, _, z13_10⟩ := id (J.two (w.heap.size + 1 + 1, cn, cd) (by simp))
  obtain ⟨c13_11, d13_11, _, _, z13_11⟩ := id (J.two (w.heap.size + 1, bn, bd) (by simp))
  obtain ⟨c13_12, d13_12, _, _, z13_12⟩ := id (J.two (w.heap.size, an, ad) (by simp))
  go_wp2_with fail
  refine (Z.out _).mono ?_
  rintro e w14 ⟨rfl, hb⟩
  replace J := J.below hb
  clear hb
  clear c13_0 d13_0 z13_0 c13_1 d13_1 z13_1 c13_10 d13_10 z13_10 c13_11 d13_11 z13_11 c13_12 d13_12 z13_12
  replace J := J.push zn zd
  obtain ⟨c14_0, d14_0, _, _, z14_0⟩ := id (J.two (w14.heap.size, zn, zd) (by simp))
  obtain ⟨c14_1, d14_1, _, _, z14_1⟩ := id (J.two (w13.heap.size, yn, yd) (by simp))
  obtain ⟨c14_2, d14_2, _, _, z14_2⟩ := id (J.two (w12.heap.size, xn, xd) (by simp))
  obtain ⟨c14_11, d14_11, _, _, z14_11⟩ := id (J.two (w.heap.size + 1 + 1, cn, cd) (by simp))
  obtain ⟨c14_12, d14_12, _, _, z14_12⟩ := id (J.two (w.heap.size + 1, bn, bd) (by simp))
  obtain ⟨c14_13, d14_13, _, _, z14_13⟩ := id (J.two (w.heap.size, an, ad) (by simp))
  go_wp2_with fail
  refine (awake_any _ J.tab).mono ?_
  rintro e w15 ⟨rfl, hb⟩
  replace J := J.below hb
  go_wp2_with fail
  go_ret
  exact ⟨rfl, J.old⟩

set_option maxRecDepth 100000 in
set_option maxHeartbeats 4000000 in
theorem field_p_e_z_ok (an ad bn bd cn cd pn pd pe qn qd qe ln ld le rn rd re kn kd ke mn md me on od oe xn xd xe yn yd ye zn zd ze : Int) (w : World) (ht : Tab w)
    (hqe : (qe == 0) = false)
    (Va : Hid (∀ W, Calls Tryd.prog 8 #[fr an ad] W fun e w' => e = .returned (.bool true) ∧ Below W.heap.size W w'))
    (Vb : Hid (∀ W, Calls Tryd.prog 8 #[fr 0 bd] W fun e w' => e = .returned (.bool true) ∧ Below W.heap.size W w'))
    (Vc : Hid (∀ W, Calls Tryd.prog 8 #[fr cn cd] W fun e w' => e = .returned (.bool true) ∧ Below W.heap.size W w'))
    (P : Hid (∀ W, Calls Tryd.prog 12 #[fr an ad, fr 0 bd] W fun e w' => e = .returned (.tuple #[fr pn pd, .int .i64 0]) ∧ Below W.heap.size W w'))
    (P2 : Hid (∀ W, Calls Tryd.prog 12 #[fr 0 bd, fr an ad] W fun e w' => e = .returned (.tuple #[fr pn pd, .int .i64 0]) ∧ Below W.heap.size W w'))
    (Q : Hid (∀ W, Calls Tryd.prog 12 #[fr 0 bd, fr cn cd] W fun e w' => e = .returned (.tuple #[fr qn qd, .int .i64 qe]) ∧ Below W.heap.size W w'))
    (L : Hid (∀ W, Calls Tryd.prog 12 #[fr pn pd, fr cn cd] W fun e w' => e = .returned (.tuple #[fr ln ld, .int .i64 le]) ∧ Below W.heap.size W w'))
    (R : Hid (∀ W, Calls Tryd.prog 12 #[fr an ad, fr qn qd] W fun e w' => e = .returned (.tuple #[fr rn rd, .int .i64 re]) ∧ Below W.heap.size W w'))
    (K : Hid (∀ W, Calls Tryd.prog 13 #[fr pn pd, fr 0 bd] W fun e w' => e = .returned (.tuple #[fr an ad, .int .i64 0]) ∧ Below W.heap.size W w'))
    (M : Hid (∀ W, Calls Tryd.prog 14 #[fr an ad, fr 0 bd] W fun e w' => e = .returned (.tuple #[fr mn md, .int .i64 0]) ∧ Below W.heap.size W w'))
    (O : Hid (∀ W, Calls Tryd.prog 15 #[fr mn md, fr 0 bd] W fun e w' => e = .returned (.tuple #[fr on od, .int .i64 oe]) ∧ Below W.heap.size W w'))
    (X : Hid (∀ W, Calls Tryd.prog 14 #[fr pn pd, fr cn cd] W fun e w' => e = .returned (.tuple #[fr xn xd, .int .i64 xe]) ∧ Below W.heap.size W w'))
    (Y : Hid (∀ W, Calls Tryd.prog 14 #[fr an ad, fr cn cd] W fun e w' => e = .returned (.tuple #[fr yn yd, .int .i64 0]) ∧ Below W.heap.size W w'))
    (Z : Hid (∀ W, Calls Tryd.prog 14 #[fr 0 bd, fr cn cd] W fun e w' => e = .returned (.tuple #[fr zn zd, .int .i64 0]) ∧ Below W.heap.size W w'))
    (S : Hid (∀ W, Calls Tryd.prog 12 #[fr yn yd, fr zn zd] W fun e w' => e = .returned (.tuple #[fr xn xd, .int .i64 xe]) ∧ Below W.heap.size W w'))
    :
    Calls Tryd.prog 4 #[fr an ad, fr 0 bd, fr cn cd] w fun e w' => e = .returned (.bool true) ∧ Below w.heap.size w w' := by
  have J := (((Env.start ht).push an ad).push 0 bd).push cn cd
  simp only [World.size_alloc] at J
  go_enter Tryd.func4, Tryd.ntmps4
  go_wp2_with fail
  refine (Va.out _).mono ?_
  rintro e w1 ⟨rfl, hb⟩
  replace J := J.below hb
  clear hb
  obtain ⟨c1_0, d1_0, _, _, z1_0⟩ := id (J.two (w.heap.size + 1 + 1, cn, cd) (by simp))
  obtain ⟨c1_1, d1_1, _, _, z1_1⟩ := id (J.two (w.heap.size + 1, 0, bd) (by simp))
  obtain ⟨c1_2, d1_2, _, _, z1_2⟩ := id (J.two (w.heap.size, an, ad) (by simp))
  go_wp2_with fail
  refine (Vb.out _).mono ?_
  rintro e w2 ⟨rfl, hb⟩
  replace J := J.below hb
  clear hb
  clear c1_0 d1_0 z1_0 c1_1 d1_1 z1_1 c1_2 d1_2 z1_2
  obtain ⟨c2_0, d2_0, _, _, z2_0⟩ := id (J.two (w.heap.size + 1 + 1, cn, cd) (by simp))
  obtain ⟨c2_1, d2_1, _, _, z2_1⟩ := id (J.two (w.heap.size + 1, 0, bd) (by simp))
  obtain ⟨c2_2, d2_2, _, _, z2_2⟩ := id (J.two (w.heap.size, an, ad) (by simp))
  go_wp2_with fail
  refine (Vc.out _).mono ?_
  rintro e w3 ⟨rfl, hb⟩
  replace J := J.below hb
  clear hb
  clear c2_0 d2_0 z2_0 c2_1 d2_1 z2_1 c2_2 d2_2 z2_2
  obtain ⟨c3_0, d3_0, _, _, z3_0⟩ := id (J.two (w.heap.size + 1 + 1, cn, cd) (by simp))
  obtain ⟨c3_1, d3_1, _, _, z3_1⟩ := id (J.two (w.heap.size + 1, 0, bd) (by simp))
  obtain ⟨c3_2, d3_2, _, _, z3_2⟩ := id (J.two (w.heap.size, an, ad) (by simp))
  go_wp2_with fail
  refine (P.out _).mono ?_
  rintro e w4 ⟨rfl, hb⟩
  replace J := J.below hb
  clear hb
  clear c3_0 d3_0 z3_0 c3_1 d3_1 z3_1 c3_2 d3_2 z3_2
  replace J := J.push pn pd
  obtain ⟨c4_0, d4_0, _, _, z4_0⟩ := id (J.two (w4.heap.size, pn, pd) (by simp))
  obtain ⟨c4_1, d4_1, _, _, z4_1⟩ := id (J.two (w.heap.size + 1 + 1, cn, cd) (by simp))
  obtain ⟨c4_2, d4_2, _, _, z4_2⟩ := id (J.two (w.heap.size + 1, 0, bd) (by simp))
  obtain ⟨c4_3, d4_3, _, _, z4_3⟩ := id (J.two (w.heap.size, an, ad) (by simp))
  go_wp2_with fail
  refine (P2.out _).mono ?_
  rintro e w5 ⟨rfl, hb⟩
  replace J := J.below hb
  clear hb
  clear c4_0 d4_0 z4_0 c4_1 d4_1 z4_1 c4_2 d4_2 z4_2 c4_3 d4_3 z4_3
  replace J := J.push pn pd
  obtain ⟨c5_0, d5_0, _, _, z5_0⟩ := id (J.two (w5.heap.size, pn, pd) (by simp))
  obtain ⟨c5_1, d5_1, _, _, z5_1⟩ := id (J.two (w4.heap.size, pn, pd) (by simp))
  obtain ⟨c5_2, d5_2, _, _, z5_2⟩ := id (J.two (w.heap.size + 1 + 1, cn, cd) (by simp))
  obtain ⟨c5_3, d5_3, _, _, z5_3⟩ := id (J.two (w.heap.size + 1, 0, bd) (by simp))
  obtain ⟨c5_4, d5_4, _, _, z5_4⟩ := id (J.two (w.heap.size, an, ad) (by simp))
  go_wp2_with fail
  refine (Q.out _).mono ?_
  rintro e w6 ⟨rfl, hb⟩
  replace J := J.below hb
  clear hb
  clear c5_0 d5_0 z5_0 c5_1 d5_1 z5_1 c5_2 d5_2 z5_2 c5_3 d5_3 z5_3 c5_4 d5_4 z5_4
  replace J := J.push qn qd
  obtain ⟨c6_0, d6_0, _, _, z6_0⟩ := id (J.two (w6.heap.size, qn, qd) (by simp))
  obtain ⟨c6_2, d6_2, _, _, z6_2⟩ := id (J.two (w4.heap.size, pn, pd) (by simp))
  obtain ⟨c6_3, d6_3, _, _, z6_3⟩ := id (J.two (w.heap.size + 1 + 1, cn, cd) (by simp))
  obtain ⟨c6_4, d6_4, _, _, z6_4⟩ := id (J.two (w.heap.size + 1, 0, bd) (by simp))
  obtain ⟨c6_5, d6_5, _, _, z6_5⟩ := id (J.two (w.heap.size, an, ad) (by simp))
  go_wp2_with fail
  refine (L.out _).mono ?_
  rintro e w7 ⟨rfl, hb⟩
  replace J := J.below hb
  clear hb
  clear c6_0 d6_0 z6_0 c6_2 d6_2 z6_2 c6_3 d6_3 z6_3 c6_4 d6_4 z6_4 c6_5 d6_5 z6_5
  replace J := J.push ln ld
  obtain ⟨c7_0, d7_0, _, _, z7_0⟩ := id (J.two (w7.heap.size, ln, ld) (by simp))
  obtain ⟨c7_1, d7_1, _, _, z7_1⟩ := id (J.two (w6.heap.size, qn, qd) (by simp))
  obtain ⟨c7_3, d7_3, _, _, z7_3⟩ := id (J.two (w4.heap.size, pn, pd) (by simp))
  obtain ⟨c7_4, d7_4, _, _, z7_4⟩ := id (J.two (w.heap.size + 1 + 1, cn, cd) (by simp))
  obtain ⟨c7_5, d7_5, _, _, z7_5⟩ := id (J.two (w.heap.size + 1, 0, bd) (by simp))
  obtain ⟨c7_6, d7_6, _, _, z7_6⟩ := id (J.two (w.heap.size, an, ad) (by simp))
  go_wp2_with fail
  refine (R.out _).mono ?_
  rintro e w8 ⟨rfl, hb⟩
  replace J := J.below hb
  clear hb
  clear c7_0 d7_0 z7_0 c7_1 d7_1 z7_1 c7_3 d7_3 z7_3 c7_4 d7_4 z7_4 c7_5 d7_5 z7_5 c7_6 d7_6 z7_6
  replace J := J.push rn rd
  obtain ⟨c8_0, d8_0, _, _, z8_0⟩ := id (J.two (w8.heap.size, rn, rd) (by simp))
  obtain ⟨c8_1, d8_1, _, _, z8_1⟩ := id (J.two (w7.heap.size, ln, ld) (by simp))
  obtain ⟨c8_4, d8_4, _, _, z8_4⟩ := id (J.two (w4.heap.size, pn, pd) (by simp))
  obtain ⟨c8_5, d8_5, _, _, z8_5⟩ := id (J.two (w.heap.size + 1 + 1, cn, cd) (by simp))
  obtain ⟨c8_6, d8_6, _, _, z8_6⟩ := id (J.two (w.heap.size + 1, 0, bd) (by simp))
  obtain ⟨c8_7, d8_7, _, _, z8_7⟩ := id (J.two (w.heap.size, an, ad) (by simp))
  go_wp2_with fail
  refine (K.out _).mono ?_
  rintro e w9 ⟨rfl, hb⟩
  replace J := J.below hb
  clear hb
  clear c8_0 d8_0 z8_0 c8_1 d8_1 z8_1 c8_4 d8_4 z8_4 c8_5 d8_5 z8_5 c8_6 d8_6 z8_6 c8_7 d8_7 z8_7
  replace J := J.push an ad
  obtain ⟨c9_0, d9_0, _, _, z9_0⟩ := id (J.two (w9.heap.size, an, ad) (by simp))
  obtain ⟨c9_5, d9_5, _, _, z9_5⟩ := id (J.two (w4.heap.size, pn, pd) (by simp))
  obtain ⟨c9_6, d9_6, _, _, z9_6⟩ := id (J.two (w.heap.size + 1 + 1, cn, cd) (by simp))
  obtain ⟨c9_7, d9_7, _, _, z9_7⟩ := id (J.two (w.heap.size + 1, 0, bd) (by simp))
  obtain ⟨c9_8, d9_8, _, _, z9_8⟩ := id (J.two (w.heap.size, an, ad) (by simp))
  go_wp2_with fail
  refine (M.out _).mono ?_
  rintro e w10 ⟨rfl, hb⟩
  replace J := J.below hb
  clear hb
  clear c9_0 d9_0 z9_0 c9_5 d9_5 z9_5 c9_6 d9_6 z9_6 c9_7 d9_7 z9_7 c9_8 d9_8 z9_8
  replace J := J.push mn md
  obtain ⟨c10_0, d10_0, _, _, z10_0⟩ := id (J.two (w10.heap.size, mn, md) (by simp))
  obtain ⟨c10_6, d10_6, _, _, z10_6⟩ := id (J.two (w4.heap.size, pn, pd) (by simp))
  obtain ⟨c10_7, d10_7, _, _, z10_7⟩ := id (J.two (w.heap.size + 1 + 1, cn, cd) (by simp))
  obtain ⟨c10_8, d10_8, _, _, z10_8⟩ := id (J.two (w.heap.size + 1, 0, bd) (by simp))
  obtain ⟨c10_9, d10_9, _, _, z10_9⟩ := id (J.two (w.heap.size, an, ad) (by simp))
  go_wp2_with fail
  refine (O.out _).mono ?_
  rintro e w11 ⟨rfl, hb⟩
  replace J := J.below hb
  clear hb
  clear c10_0 d10_0 z10_0 c10_6 d10_6 z10_6 c10_7 d10_7 z10_7 c10_8 d10_8 z10_8 c10_9 d10_9 z10_9
  replace J := J.push on od
  obtain ⟨c11_0, d11_0, _, _, z11_0⟩ := id (J.two (w11.heap.size, on, od) (by simp))
  obtain ⟨c11_7, d11_7, _, _, z11_7⟩ := id (J.two (w4.heap.size, pn, pd) (by simp))
  obtain ⟨c11_8, d11_8, _, _, z11_8⟩ := id (J.two (w.heap.size + 1 + 1, cn, cd) (by simp))
  obtain ⟨c11_9, d11_9, _, _, z11_9⟩ := id (J.two (w.heap.size + 1, 0, bd) (by simp))
  obtain ⟨c11_10, d11_10, _, _, z11_10⟩ := id (J.two (w.heap.size, an, ad) (by simp))
  go_wp2_with fail
  refine (X.out _).mono ?_
  rintro e w12 ⟨rfl, hb⟩
  replace J := J.below hb
  clear hb
  clear c11_0 d11_0 z11_0 c11_7 d11_7 z11_7 c11_8 d11_8 z11_8 c11_9 d11_9 z11_9 c11_10 d11_10 z11_10
  replace J := J.push xn xd
  obtain ⟨c12_0, d12_0, _, _, z12_0⟩ := id (J.two (w12.heap.size, xn, xd) (by simp))
  obtain ⟨c12_9, d12_9, _, _, z12_9⟩ := id (J.two (w.heap.size + 1 + 1, cn, cd) (by simp))
  obtain ⟨c12_10, d12_10, _, _, z12_10⟩ := id (J.two (w.heap.size + 1, 0, bd) (by simp))
  obtain ⟨c12_11, d12_11, _, _, z12_11⟩ := id (J.two (w.heap.size, an, ad) (by simp))
  go_wp2_with fail
  refine (Y.out _).mono ?_
  rintro e w13 ⟨rfl, hb⟩
  replace J := J.below hb
  clear hb
  clear c12_0 d12_0 z12_0 c12_9 d12_9 z12_9 c12_10 d12_10 z12_10 c12_11 d12_11 z12_11
  replace J := J.push yn yd
  obtain ⟨c13_0, d13_0, _, _, z13_0⟩ := id (J.two (w13.heap.size, yn, yd) (by simp))
  obtain ⟨c13_1, d13_1, _, _, z13_1⟩ := id (J.two (w12.heap.size, xn, xd) (by simp))
  obtain ⟨c13_10, d13_10, _, _, z13_10⟩ := id (J.two (w.heap.size + 1 + 1, cn, cd) (by simp))
  obtain ⟨c13_11, d13_11, _, _, z13_11⟩ := id (J.two (w.heap.size + 1, 0, bd) (by simp))
  obtain ⟨c13_12, d13_12, _, _, z13_12⟩ := id (J.two (w.heap.size, an, ad) (by simp))
  go_wp2_with fail
  refine (Z.out _).mono ?_
  rintro e w14 ⟨rfl, hb⟩
  replace J := J.below hb
  clear hb
  clear c13_0 d13_0 z13_0 c13_1 d13_1 z13_1 c13_10 d13_10 z13_10 c13_11 d13_11 z13_11 c13_12 d13_12 z13_12
  replace J := J.push zn zd
  obtain ⟨c14_0, d14_0, _, _, z14_0⟩ := id (J.two (w14.heap.size, zn, zd) (by simp))
  obtain ⟨c14_1, d14_1, _, _, z14_1⟩ := id (J.two (w13.heap.size, yn, yd) (by simp))
  obtain ⟨c14_2, d14_2, _, _, z14_2⟩ := id (J.two (w12.heap.size, xn, xd) (by simp))
  obtain ⟨c14_11, d14_11, _, _, z14_11⟩ := id (J.two (w.heap.size + 1 + 1, cn, cd) (by simp))
  obtain ⟨c14_12, d14_12, _, _, z14_12⟩ := id (J.two (w.heap.size + 1, 0, bd) (by simp))
  obtain ⟨c14_13, d14_13, _, _, z14_13⟩ := id (J.two (w.heap.size, an, ad) (by simp))
  go_wp2_with fail
  refine (S.out _).mono ?_
  rintro e w15 ⟨rfl, hb⟩
  replace J := J.below hb
  clear hb
  clear c14_0 d14_0 z14_0 c14_1 d14_1 z14_1 c14_2 d14_2 z14_2 c14_11 d14_11 z14_11 c14_12 d14_12 z14_12 c14_13 d14_13 z14_13
  replace J := J.push xn xd
  obtain ⟨c15_0, d15_0, _, _, z15_0⟩ := id (J.two (w15.heap.size, xn, xd) (by simp))
  obtain ⟨c15_3, d15_3, _, _, z15_3⟩ := id (J.two (w12.heap.size, xn, xd) (by simp))
  go_wp2_with fail
  refine (awake_any _ J.tab).mono ?_
  rintro e w16 ⟨rfl, hb⟩
  replace J := J.below hb
  go_wp2_with fail
  go_ret
  exact ⟨rfl, J.old⟩

end Go.Proofs.YtonndlhppihdiabDoor
