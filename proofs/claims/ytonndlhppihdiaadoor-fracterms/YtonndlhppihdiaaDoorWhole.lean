/-
  The law FracWhole, walked: Floor, Ceil and Round of any valid fraction.
-/
import Derived.Test.YtonndlhppihdiaaDoorEnv
import Derived.Deep.RegionHeld3
namespace Go.Proofs.YtonndlhppihdiaaDoor
open Go.ChangeShapes Go.WideShapes Go.ChangeAt Go.RowKit
set_option linter.unusedVariables false
set_option linter.unusedSimpArgs false

set_option maxRecDepth 100000 in
set_option maxHeartbeats 8000000 in
theorem whole_in (n d m fl flb ro ce rm : Int) (w : World) (ht : Tab w) (hm : -n = m) (hce : -flb = ce) (hrm : -ro = rm) (b7 : -2147483648 ≤ ce) (b8 : ce ≤ 2147483648) (s1 : -2147483647 ≤ n) (s2 : n ≤ 2147483647)
    (b1 : -2147483648 ≤ fl) (b2 : fl ≤ 2147483648) (b3 : -2147483648 ≤ flb) (b4 : flb ≤ 2147483648) (b5 : -2147483648 ≤ ro) (b6 : ro ≤ 2147483648)
    (k1 : fl ≤ ro) (k2 : ro ≤ ce) (k3 : ce - fl ≤ 1) (q1 : IntKind.i64.wrap ce = ce) (q2 : IntKind.i64.wrap rm = rm) (q3 : IntKind.i64.wrap (ce - fl) = ce - fl)
    (V : Hid (∀ W, Calls Tryd.prog 12 #[fr n d] W fun e w' => e = .returned (.bool true) ∧ Below W.heap.size W w'))
    (FA : Hid (∀ W, Calls Tryd.prog 24 #[fr n d] W fun e w' => e = .returned (.int .i64 fl) ∧ Below W.heap.size W w'))
    (FB : Hid (∀ W, Calls Tryd.prog 24 #[fr m d] W fun e w' => e = .returned (.int .i64 flb) ∧ Below W.heap.size W w'))
    (FR : Hid (∀ W, Calls Tryd.prog 25 #[fr n d] W fun e w' => e = .returned (.int .i64 fl) ∧ Below W.heap.size W w'))
    (CA : Hid (∀ W, Calls Tryd.prog 26 #[fr n d] W fun e w' => e = .returned (.int .i64 ce) ∧ Below W.heap.size W w'))
    (CR : Hid (∀ W, Calls Tryd.prog 27 #[fr n d] W fun e w' => e = .returned (.int .i64 ce) ∧ Below W.heap.size W w'))
    (RA : Hid (∀ W, Calls Tryd.prog 28 #[fr n d] W fun e w' => e = .returned (.int .i64 ro) ∧ Below W.heap.size W w'))
    (RB : Hid (∀ W, Calls Tryd.prog 28 #[fr m d] W fun e w' => e = .returned (.int .i64 rm) ∧ Below W.heap.size W w'))
    (RR : Hid (∀ W, Calls Tryd.prog 29 #[fr n d] W fun e w' => e = .returned (.int .i64 ro) ∧ Below W.heap.size W w'))
    :
    Calls Tryd.prog 5 #[fr n d] w fun e w' => e = .returned (.bool true) ∧ Below w.heap.size w w' := by
  have J := (Env.start ht).push n d
  go_enter Tryd.func5, Tryd.ntmps5
  go_wp2_with fail
  refine (V.out _).mono ?_
  rintro e w1 ⟨rfl, hb⟩
  replace J := J.below hb
  obtain ⟨_, _, _, _, _⟩ := id (J.two (w.heap.size, n, d) (by simp))
  replace J := J.push m d
  clear hb
  go_wp2_with fail
  first | (go_region_held3 (fun W => W.cell? ⟨w1.heap.size, 0, none⟩ = some (.int .i64 m) ∧ W.cell? ⟨w1.heap.size, 1, none⟩ = some (.int .i64 d) ∧ W.cell? ⟨w.heap.size, 0, none⟩ = some (.int .i64 n) ∧ W.cell? ⟨w.heap.size, 1, none⟩ = some (.int .i64 d) ∧ Env w [(w1.heap.size, m, d), (w.heap.size, n, d)] W)
    (first | exact ⟨(J.two (w1.heap.size, m, d) (by simp)).1, (J.two (w1.heap.size, m, d) (by simp)).2.1, (J.two (w.heap.size, n, d) (by simp)).1, (J.two (w.heap.size, n, d) (by simp)).2.1, J⟩ | exact ⟨(J.two (w1.heap.size, m, d) (by simp)).1, (J.two (w1.heap.size, m, d) (by simp)).2.1, (J.two (w.heap.size, n, d) (by simp)).1, (J.two (w.heap.size, n, d) (by simp)).2.1, J.drew⟩)
    (first
      | (go_at_call_of 24 n; refine (FA.out _).mono ?_; rintro e wx ⟨rfl, hb⟩; replace J := Env.below (by first | exact J | exact J.drew) hb)
      | (go_at_call_of 24 m; refine (FB.out _).mono ?_; rintro e wx ⟨rfl, hb⟩; replace J := Env.below (by first | exact J | exact J.drew) hb)
      | (go_at_call 25; refine (FR.out _).mono ?_; rintro e wx ⟨rfl, hb⟩; replace J := Env.below (by first | exact J | exact J.drew) hb)
      | (go_at_call 26; refine (CA.out _).mono ?_; rintro e wx ⟨rfl, hb⟩; replace J := Env.below (by first | exact J | exact J.drew) hb)
      | (go_at_call 27; refine (CR.out _).mono ?_; rintro e wx ⟨rfl, hb⟩; replace J := Env.below (by first | exact J | exact J.drew) hb)
      | (go_at_call_of 28 n; refine (RA.out _).mono ?_; rintro e wx ⟨rfl, hb⟩; replace J := Env.below (by first | exact J | exact J.drew) hb)
      | (go_at_call_of 28 m; refine (RB.out _).mono ?_; rintro e wx ⟨rfl, hb⟩; replace J := Env.below (by first | exact J | exact J.drew) hb)
      | (go_at_call 29; refine (RR.out _).mono ?_; rintro e wx ⟨rfl, hb⟩; replace J := Env.below (by first | exact J | exact J.drew) hb))) | fail
  go_wp2_with fail
  first | (go_region_held3 (fun W => W.cell? ⟨w1.heap.size, 0, none⟩ = some (.int .i64 m) ∧ W.cell? ⟨w1.heap.size, 1, none⟩ = some (.int .i64 d) ∧ W.cell? ⟨w.heap.size, 0, none⟩ = some (.int .i64 n) ∧ W.cell? ⟨w.heap.size, 1, none⟩ = some (.int .i64 d) ∧ Env w [(w1.heap.size, m, d), (w.heap.size, n, d)] W)
    (first | exact ⟨(J.two (w1.heap.size, m, d) (by simp)).1, (J.two (w1.heap.size, m, d) (by simp)).2.1, (J.two (w.heap.size, n, d) (by simp)).1, (J.two (w.heap.size, n, d) (by simp)).2.1, J⟩ | exact ⟨(J.two (w1.heap.size, m, d) (by simp)).1, (J.two (w1.heap.size, m, d) (by simp)).2.1, (J.two (w.heap.size, n, d) (by simp)).1, (J.two (w.heap.size, n, d) (by simp)).2.1, J.drew⟩)
    (first
      | (go_at_call_of 24 n; refine (FA.out _).mono ?_; rintro e wx ⟨rfl, hb⟩; replace J := Env.below (by first | exact J | exact J.drew) hb)
      | (go_at_call_of 24 m; refine (FB.out _).mono ?_; rintro e wx ⟨rfl, hb⟩; replace J := Env.below (by first | exact J | exact J.drew) hb)
      | (go_at_call 25; refine (FR.out _).mono ?_; rintro e wx ⟨rfl, hb⟩; replace J := Env.below (by first | exact J | exact J.drew) hb)
      | (go_at_call 26; refine (CA.out _).mono ?_; rintro e wx ⟨rfl, hb⟩; replace J := Env.below (by first | exact J | exact J.drew) hb)
      | (go_at_call 27; refine (CR.out _).mono ?_; rintro e wx ⟨rfl, hb⟩; replace J := Env.below (by first | exact J | exact J.drew) hb)
      | (go_at_call_of 28 n; refine (RA.out _).mono ?_; rintro e wx ⟨rfl, hb⟩; replace J := Env.below (by first | exact J | exact J.drew) hb)
      | (go_at_call_of 28 m; refine (RB.out _).mono ?_; rintro e wx ⟨rfl, hb⟩; replace J := Env.below (by first | exact J | exact J.drew) hb)
      | (go_at_call 29; refine (RR.out _).mono ?_; rintro e wx ⟨rfl, hb⟩; replace J := Env.below (by first | exact J | exact J.drew) hb)
      | (go_at_call 13; refine (awake_any _ (by first | exact J.tab | exact J.drew.tab)).mono ?_; rintro e wx ⟨rfl, hb⟩; replace J := Env.below (by first | exact J | exact J.drew) hb))) | fail
  all_goals go_wp2
  all_goals go_ret
  all_goals exact ⟨rfl, J.old⟩

end Go.Proofs.YtonndlhppihdiaaDoor
