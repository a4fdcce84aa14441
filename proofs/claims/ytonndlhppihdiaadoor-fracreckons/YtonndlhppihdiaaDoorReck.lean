/-
  The law FracReckons, walked: sums, differences, products, quotients and the order of any two valid fractions.
-/
import Derived.Test.YtonndlhppihdiaaDoorEnv
import Derived.Deep.RegionHeld3
namespace Go.Proofs.YtonndlhppihdiaaDoor
open Go.ChangeShapes Go.WideShapes Go.ChangeAt Go.RowKit
set_option linter.unusedVariables false
set_option linter.unusedSimpArgs false

set_option maxRecDepth 100000 in
set_option maxHeartbeats 4000000 in
theorem reck_in (an ad bn bd pn pd pe qn qd qe rn rd re sn sd se c : Int) (w : World) (ht : Tab w)
    (VA : Hid (∀ W, Calls Tryd.prog 12 #[fr an ad] W fun e w' => e = .returned (.bool true) ∧ Below W.heap.size W w'))
    (VB : Hid (∀ W, Calls Tryd.prog 12 #[fr bn bd] W fun e w' => e = .returned (.bool true) ∧ Below W.heap.size W w'))
    (P : Hid (∀ W, Calls Tryd.prog 14 #[fr an ad, fr bn bd] W fun e w' => e = .returned (.tuple #[fr pn pd, .int .i64 pe]) ∧ Below W.heap.size W w'))
    (Pr : Hid (∀ W, Calls Tryd.prog 15 #[fr an ad, fr bn bd] W fun e w' => e = .returned (.tuple #[fr pn pd, .int .i64 pe]) ∧ Below W.heap.size W w'))
    (Q : Hid (∀ W, Calls Tryd.prog 16 #[fr an ad, fr bn bd] W fun e w' => e = .returned (.tuple #[fr qn qd, .int .i64 qe]) ∧ Below W.heap.size W w'))
    (Qr : Hid (∀ W, Calls Tryd.prog 17 #[fr an ad, fr bn bd] W fun e w' => e = .returned (.tuple #[fr qn qd, .int .i64 qe]) ∧ Below W.heap.size W w'))
    (R : Hid (∀ W, Calls Tryd.prog 18 #[fr an ad, fr bn bd] W fun e w' => e = .returned (.tuple #[fr rn rd, .int .i64 re]) ∧ Below W.heap.size W w'))
    (Rr : Hid (∀ W, Calls Tryd.prog 19 #[fr an ad, fr bn bd] W fun e w' => e = .returned (.tuple #[fr rn rd, .int .i64 re]) ∧ Below W.heap.size W w'))
    (S : Hid (∀ W, Calls Tryd.prog 20 #[fr an ad, fr bn bd] W fun e w' => e = .returned (.tuple #[fr sn sd, .int .i64 se]) ∧ Below W.heap.size W w'))
    (Sr : Hid (∀ W, Calls Tryd.prog 21 #[fr an ad, fr bn bd] W fun e w' => e = .returned (.tuple #[fr sn sd, .int .i64 se]) ∧ Below W.heap.size W w'))
    (CM : Hid (∀ W, Calls Tryd.prog 22 #[fr an ad, fr bn bd] W fun e w' => e = .returned (.int .i64 c) ∧ Below W.heap.size W w'))
    (CR : Hid (∀ W, Calls Tryd.prog 23 #[fr an ad, fr bn bd] W fun e w' => e = .returned (.int .i64 c) ∧ Below W.heap.size W w')) :
    Calls Tryd.prog 4 #[fr an ad, fr bn bd] w fun e w' => e = .returned (.bool true) ∧ Below w.heap.size w w' := by
  have J := ((Env.start ht).push an ad).push bn bd
  rw [World.size_alloc] at J
  go_enter Tryd.func4, Tryd.ntmps4
  go_wp2_with fail
  refine (VA.out _).mono ?_
  rintro e w1 ⟨rfl, hb⟩
  replace J := J.below hb
  clear hb
  obtain ⟨a0, a1, fa0, fa1, za0⟩ := id (J.two (w.heap.size + 1, bn, bd) (by simp))
  obtain ⟨a2, a3, fa2, fa3, za1⟩ := id (J.two (w.heap.size, an, ad) (by simp))
  go_wp2_with fail
  refine (VB.out _).mono ?_
  rintro e w2 ⟨rfl, hb⟩
  replace J := J.below hb
  clear hb
  clear a0 a1 fa0 fa1 za0 a2 a3 fa2 fa3 za1
  obtain ⟨b0, b1, fb0, fb1, zb0⟩ := id (J.two (w.heap.size + 1, bn, bd) (by simp))
  obtain ⟨b2, b3, fb2, fb3, zb1⟩ := id (J.two (w.heap.size, an, ad) (by simp))
  go_wp2_with fail
  refine (P.out _).mono ?_
  rintro e w3 ⟨rfl, hb⟩
  have hw3 : w.heap.size + 1 < w3.heap.size := by have := hb.size; omega
  replace J := (J.below hb).push pn pd
  clear hb
  clear b0 b1 fb0 fb1 zb0 b2 b3 fb2 fb3 zb1
  obtain ⟨a0, a1, fa0, fa1, za0⟩ := id (J.two (w3.heap.size, pn, pd) (by simp))
  obtain ⟨a2, a3, fa2, fa3, za1⟩ := id (J.two (w.heap.size + 1, bn, bd) (by simp))
  obtain ⟨a4, a5, fa4, fa5, za2⟩ := id (J.two (w.heap.size, an, ad) (by simp))
  go_wp2_with fail
  refine (Pr.out _).mono ?_
  rintro e w4 ⟨rfl, hb⟩
  replace J := (J.below hb).push pn pd
  have hs3 : w3.heap.size < w4.heap.size := by have := hb.size; simp at this; omega
  clear hb
  clear a0 a1 fa0 fa1 za0 a2 a3 fa2 fa3 za1 a4 a5 fa4 fa5 za2
  obtain ⟨b0, b1, fb0, fb1, zb0⟩ := id (J.two (w4.heap.size, pn, pd) (by simp))
  obtain ⟨b2, b3, fb2, fb3, zb1⟩ := id (J.two (w3.heap.size, pn, pd) (by simp))
  obtain ⟨b4, b5, fb4, fb5, zb2⟩ := id (J.two (w.heap.size + 1, bn, bd) (by simp))
  obtain ⟨b6, b7, fb6, fb7, zb3⟩ := id (J.two (w.heap.size, an, ad) (by simp))
  go_wp2_with fail
  refine (Q.out _).mono ?_
  rintro e w5 ⟨rfl, hb⟩
  obtain ⟨_, _, _, _, _⟩ := id ((J.below hb).two (w3.heap.size, pn, pd) (by simp))
  replace J := Env.put (l := [(w4.heap.size, pn, pd)]) (r := [(w.heap.size + 1, bn, bd), (w.heap.size, an, ad)]) (J.below hb) (by intro p hp; simp at hp; rcases hp with rfl | rfl | rfl <;> dsimp only <;> omega) qn qd
  simp only [List.cons_append, List.nil_append] at J
  clear hb
  clear b0 b1 fb0 fb1 zb0 b2 b3 fb2 fb3 zb1 b4 b5 fb4 fb5 zb2 b6 b7 fb6 fb7 zb3
  obtain ⟨b0, b1, fb0, fb1, zb0⟩ := id (J.two (w4.heap.size, pn, pd) (by simp))
  obtain ⟨b2, b3, fb2, fb3, zb1⟩ := id (J.two (w3.heap.size, qn, qd) (by simp))
  obtain ⟨b4, b5, fb4, fb5, zb2⟩ := id (J.two (w.heap.size + 1, bn, bd) (by simp))
  obtain ⟨b6, b7, fb6, fb7, zb3⟩ := id (J.two (w.heap.size, an, ad) (by simp))
  go_wp2_with fail
  refine (Qr.out _).mono ?_
  rintro e w6 ⟨rfl, hb⟩
  obtain ⟨_, _, _, _, _⟩ := id ((J.below hb).two (w4.heap.size, pn, pd) (by simp))
  replace J := Env.put (l := []) (r := [(w3.heap.size, qn, qd), (w.heap.size + 1, bn, bd), (w.heap.size, an, ad)]) (J.below hb) (by intro p hp; simp at hp; rcases hp with rfl | rfl | rfl <;> dsimp only <;> omega) qn qd
  simp only [List.nil_append] at J
  clear hb
  clear b0 b1 fb0 fb1 zb0 b2 b3 fb2 fb3 zb1 b4 b5 fb4 fb5 zb2 b6 b7 fb6 fb7 zb3
  obtain ⟨a0, a1, fa0, fa1, za0⟩ := id (J.two (w4.heap.size, qn, qd) (by simp))
  obtain ⟨a2, a3, fa2, fa3, za1⟩ := id (J.two (w3.heap.size, qn, qd) (by simp))
  obtain ⟨a4, a5, fa4, fa5, za2⟩ := id (J.two (w.heap.size + 1, bn, bd) (by simp))
  obtain ⟨a6, a7, fa6, fa7, za3⟩ := id (J.two (w.heap.size, an, ad) (by simp))
  go_wp2_with fail
  refine (R.out _).mono ?_
  rintro e w7 ⟨rfl, hb⟩
  obtain ⟨_, _, _, _, _⟩ := id ((J.below hb).two (w3.heap.size, qn, qd) (by simp))
  replace J := Env.put (l := [(w4.heap.size, qn, qd)]) (r := [(w.heap.size + 1, bn, bd), (w.heap.size, an, ad)]) (J.below hb) (by intro p hp; simp at hp; rcases hp with rfl | rfl | rfl <;> dsimp only <;> omega) rn rd
  simp only [List.cons_append, List.nil_append] at J
  clear hb
  clear a0 a1 fa0 fa1 za0 a2 a3 fa2 fa3 za1 a4 a5 fa4 fa5 za2 a6 a7 fa6 fa7 za3
  obtain ⟨b0, b1, fb0, fb1, zb0⟩ := id (J.two (w4.heap.size, qn, qd) (by simp))
  obtain ⟨b2, b3, fb2, fb3, zb1⟩ := id (J.two (w3.heap.size, rn, rd) (by simp))
  obtain ⟨b4, b5, fb4, fb5, zb2⟩ := id (J.two (w.heap.size + 1, bn, bd) (by simp))
  obtain ⟨b6, b7, fb6, fb7, zb3⟩ := id (J.two (w.heap.size, an, ad) (by simp))
  go_wp2_with fail
  refine (Rr.out _).mono ?_
  rintro e w8 ⟨rfl, hb⟩
  obtain ⟨_, _, _, _, _⟩ := id ((J.below hb).two (w4.heap.size, qn, qd) (by simp))
  replace J := Env.put (l := []) (r := [(w3.heap.size, rn, rd), (w.heap.size + 1, bn, bd), (w.heap.size, an, ad)]) (J.below hb) (by intro p hp; simp at hp; rcases hp with rfl | rfl | rfl <;> dsimp only <;> omega) rn rd
  simp only [List.nil_append] at J
  clear hb
  clear b0 b1 fb0 fb1 zb0 b2 b3 fb2 fb3 zb1 b4 b5 fb4 fb5 zb2 b6 b7 fb6 fb7 zb3
  obtain ⟨a0, a1, fa0, fa1, za0⟩ := id (J.two (w4.heap.size, rn, rd) (by simp))
  obtain ⟨a2, a3, fa2, fa3, za1⟩ := id (J.two (w3.heap.size, rn, rd) (by simp))
  obtain ⟨a4, a5, fa4, fa5, za2⟩ := id (J.two (w.heap.size + 1, bn, bd) (by simp))
  obtain ⟨a6, a7, fa6, fa7, za3⟩ := id (J.two (w.heap.size, an, ad) (by simp))
  go_wp2_with fail
  refine (S.out _).mono ?_
  rintro e w9 ⟨rfl, hb⟩
  obtain ⟨_, _, _, _, _⟩ := id ((J.below hb).two (w3.heap.size, rn, rd) (by simp))
  replace J := Env.put (l := [(w4.heap.size, rn, rd)]) (r := [(w.heap.size + 1, bn, bd), (w.heap.size, an, ad)]) (J.below hb) (by intro p hp; simp at hp; rcases hp with rfl | rfl | rfl <;> dsimp only <;> omega) sn sd
  simp only [List.cons_append, List.nil_append] at J
  clear hb
  clear a0 a1 fa0 fa1 za0 a2 a3 fa2 fa3 za1 a4 a5 fa4 fa5 za2 a6 a7 fa6 fa7 za3
  obtain ⟨b0, b1, fb0, fb1, zb0⟩ := id (J.two (w4.heap.size, rn, rd) (by simp))
  obtain ⟨b2, b3, fb2, fb3, zb1⟩ := id (J.two (w3.heap.size, sn, sd) (by simp))
  obtain ⟨b4, b5, fb4, fb5, zb2⟩ := id (J.two (w.heap.size + 1, bn, bd) (by simp))
  obtain ⟨b6, b7, fb6, fb7, zb3⟩ := id (J.two (w.heap.size, an, ad) (by simp))
  go_wp2_with fail
  refine (Sr.out _).mono ?_
  rintro e w10 ⟨rfl, hb⟩
  obtain ⟨_, _, _, _, _⟩ := id ((J.below hb).two (w4.heap.size, rn, rd) (by simp))
  replace J := Env.put (l := []) (r := [(w3.heap.size, sn, sd), (w.heap.size + 1, bn, bd), (w.heap.size, an, ad)]) (J.below hb) (by intro p hp; simp at hp; rcases hp with rfl | rfl | rfl <;> dsimp only <;> omega) sn sd
  simp only [List.nil_append] at J
  clear hb
  clear b0 b1 fb0 fb1 zb0 b2 b3 fb2 fb3 zb1 b4 b5 fb4 fb5 zb2 b6 b7 fb6 fb7 zb3
  obtain ⟨a0, a1, fa0, fa1, za0⟩ := id (J.two (w4.heap.size, sn, sd) (by simp))
  obtain ⟨a2, a3, fa2, fa3, za1⟩ := id (J.two (w3.heap.size, sn, sd) (by simp))
  obtain ⟨a4, a5, fa4, fa5, za2⟩ := id (J.two (w.heap.size + 1, bn, bd) (by simp))
  obtain ⟨a6, a7, fa6, fa7, za3⟩ := id (J.two (w.heap.size, an, ad) (by simp))
  go_wp2_with fail
  clear a0 a1 fa0 fa1 za0 a2 a3 fa2 fa3 za1 a4 a5 fa4 fa5 za2 a6 a7 fa6 fa7 za3
  first | (go_region_held3 (fun W => W.cell? ⟨w4.heap.size, 0, none⟩ = some (.int .i64 sn) ∧ W.cell? ⟨w4.heap.size, 1, none⟩ = some (.int .i64 sd) ∧ W.cell? ⟨w3.heap.size, 0, none⟩ = some (.int .i64 sn) ∧ W.cell? ⟨w3.heap.size, 1, none⟩ = some (.int .i64 sd) ∧ W.cell? ⟨w.heap.size + 1, 0, none⟩ = some (.int .i64 bn) ∧ W.cell? ⟨w.heap.size + 1, 1, none⟩ = some (.int .i64 bd) ∧ W.cell? ⟨w.heap.size, 0, none⟩ = some (.int .i64 an) ∧ W.cell? ⟨w.heap.size, 1, none⟩ = some (.int .i64 ad) ∧ Env w [(w4.heap.size, sn, sd), (w3.heap.size, sn, sd), (w.heap.size + 1, bn, bd), (w.heap.size, an, ad)] W)
    (first | exact ⟨(J.two (w4.heap.size, sn, sd) (by simp)).1, (J.two (w4.heap.size, sn, sd) (by simp)).2.1, (J.two (w3.heap.size, sn, sd) (by simp)).1, (J.two (w3.heap.size, sn, sd) (by simp)).2.1, (J.two (w.heap.size + 1, bn, bd) (by simp)).1, (J.two (w.heap.size + 1, bn, bd) (by simp)).2.1, (J.two (w.heap.size, an, ad) (by simp)).1, (J.two (w.heap.size, an, ad) (by simp)).2.1, J⟩ | exact ⟨(J.two (w4.heap.size, sn, sd) (by simp)).1, (J.two (w4.heap.size, sn, sd) (by simp)).2.1, (J.two (w3.heap.size, sn, sd) (by simp)).1, (J.two (w3.heap.size, sn, sd) (by simp)).2.1, (J.two (w.heap.size + 1, bn, bd) (by simp)).1, (J.two (w.heap.size + 1, bn, bd) (by simp)).2.1, (J.two (w.heap.size, an, ad) (by simp)).1, (J.two (w.heap.size, an, ad) (by simp)).2.1, J.drew⟩)
    (first
      | (go_at_call 22; refine (CM.out _).mono ?_; rintro e wx ⟨rfl, hb⟩; replace J := Env.below (by first | exact J | exact J.drew) hb)
      | (go_at_call 23; refine (CR.out _).mono ?_; rintro e wx ⟨rfl, hb⟩; replace J := Env.below (by first | exact J | exact J.drew) hb)
      | (go_at_call 13; refine (awake_any _ (by first | exact J.tab | exact J.drew.tab)).mono ?_; rintro e wx ⟨rfl, hb⟩; replace J := Env.below (by first | exact J | exact J.drew) hb))) | fail
  all_goals go_wp2
  all_goals go_ret
  all_goals exact ⟨rfl, J.old⟩

end Go.Proofs.YtonndlhppihdiaaDoor
