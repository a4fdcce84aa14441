/-
  What Near returns of a range below 0.
-/
import Derived.Test.YtonndlhppihdiaaDoorSim
namespace Go.Proofs.YtonndlhppihdiaaDoor
open Go.ChangeShapes Go.WideShapes Go.ChangeAt Go.RowKit
set_option linter.unusedVariables false
set_option linter.unusedSimpArgs false

/-- Besides the fractions of l a new one has its block, k, still empty. -/
def EnvN (w : World) (l : List (Nat × Int × Int)) (k : Nat) (W : World) : Prop := Env w ((k, 0, 0) :: l) W ∧ ∀ p ∈ l, p.1 ≠ k
theorem EnvN.new {w W : World} {l : List (Nat × Int × Int)} (h : Env w l W) : EnvN w l W.heap.size (W.alloc (.cells #[.int .i64 0, .int .i64 0] 23)) :=
  ⟨h.push 0 0, fun p hp => by have := (h.two p hp).2.2.2.2; omega⟩
theorem EnvN.below {w W W' : World} {l : List (Nat × Int × Int)} {k : Nat} (h : EnvN w l k W) (hb : Below W.heap.size W W') : EnvN w l k W' := ⟨h.1.below hb, h.2⟩
theorem EnvN.drew {w W : World} {l : List (Nat × Int × Int)} {k : Nat} (h : EnvN w l k W) : EnvN w l k W.drew := ⟨h.1.drew, h.2⟩
theorem EnvN.two0 {w W : World} {l : List (Nat × Int × Int)} {k : Nat} (h : EnvN w l k W) : Two W k (.int .i64 0) (.int .i64 0) := h.1.two (k, 0, 0) (by simp)
theorem EnvN.env {w W : World} {l : List (Nat × Int × Int)} {k : Nat} (h : EnvN w l k W) : Env w l W :=
  ⟨fun p hp => h.1.two p (List.mem_cons_of_mem _ hp), h.1.old, h.1.tab0, fun p hp => h.1.own p (List.mem_cons_of_mem _ hp)⟩
theorem EnvN.put {w W : World} {l : List (Nat × Int × Int)} {k : Nat} (h : EnvN w l k W) (a b : Int) :
    Env w ((k, a, b) :: l) ((W.setCell ⟨k, 0, none⟩ (.int .i64 a)).setCell ⟨k, 1, none⟩ (.int .i64 b)) := Env.put (l := []) h.1 (by simpa using h.2) a b

set_option maxRecDepth 100000 in
set_option maxHeartbeats 4000000 in
theorem near_neg (ln ld hn hd p q : Int) (v : Int) (hv : ¬ 0 < v) (l1 : ln ≤ 0) (l2 : hn < 0) (w : World) (ht : Tab w) (b1 : -2147483647 ≤ ln) (b2 : -2147483647 ≤ hn) (b3 : -2147483647 ≤ p) (b4 : p ≤ 2147483647)
    (M : ∀ W, Calls Tryd.prog 22 #[fr ln ld, fr hn hd] W fun e w' => e = .returned (.int .i64 v) ∧ Below W.heap.size W w')
    (S : ∀ W, Calls Tryd.prog 46 #[fr (-hn) hd, fr (-ln) ld] W fun e w' => e = .returned (.tuple #[fr p q, .bool true]) ∧ Below W.heap.size W w') :
    Calls Tryd.prog 34 #[fr ln ld, fr hn hd] w fun e w' => e = .returned (.tuple #[fr (-p) q, .bool true]) ∧ Below w.heap.size w w' := by
  have J := (((Env.start ht).push ln ld).push hn hd).push 0 0
  rw [World.size_alloc, World.size_alloc] at J
  go_enter Tryd.func34, Tryd.ntmps34
  go_wp2_with fail
  refine (M _).mono ?_
  rintro e w1 ⟨rfl, hb⟩
  replace J := J.below hb
  clear hb
  obtain ⟨a0, a1, fa0, fa1, za0⟩ := id (J.two (w.heap.size + 1, hn, hd) (by simp))
  obtain ⟨a2, a3, fa2, fa3, za1⟩ := id (J.two (w.heap.size, ln, ld) (by simp))
  go_wp2_with fail
  go_cut [6, 7] (fun a b wx => ∃ k, a = .pointer (some ⟨k, 0, none⟩) ∧ b = .bool true ∧ Env w [(k, p, q), (w.heap.size + 1 + 1, 0, 0), (w.heap.size + 1, hn, hd), (w.heap.size, ln, ld)] wx)
  case first =>
    go_region_with (first
      | (go_at_call 38; refine (negative_any _ _ _ (by omega) (by omega)).mono ?_; rintro e wx ⟨rfl, hb⟩; (first | (replace J := Env.below (by with_reducible exact J) hb) | (replace J := Env.below (by with_reducible exact J.drew) hb) | (replace J := EnvN.below (by with_reducible exact J) hb) | (replace J := EnvN.below (by with_reducible exact J.drew) hb) | (replace J := EnvN.below (by with_reducible exact EnvN.new J) hb) | (replace J := EnvN.below (by with_reducible exact (EnvN.new J).drew) hb)); (first | (have JE := J.env) | (have JE := J)); obtain ⟨_, _, _, _, _⟩ := id (JE.two (w.heap.size + 1, hn, hd) (by simp)); obtain ⟨_, _, _, _, _⟩ := id (JE.two (w.heap.size, ln, ld) (by simp)); (first | (obtain ⟨_, _, _, _, _⟩ := id J.two0) | skip); clear JE hb)
      | (go_at_call 46; refine (S _).mono ?_; rintro e wx ⟨rfl, hb⟩; (first | (replace J := Env.below (by with_reducible exact J) hb) | (replace J := Env.below (by with_reducible exact J.drew) hb) | (replace J := EnvN.below (by with_reducible exact J) hb) | (replace J := EnvN.below (by with_reducible exact J.drew) hb) | (replace J := EnvN.below (by with_reducible exact EnvN.new J) hb) | (replace J := EnvN.below (by with_reducible exact (EnvN.new J).drew) hb)); (first | (obtain ⟨_, _, _, _, _⟩ := id J.two0) | skip); clear hb))
    all_goals go_wp2_with fail
    all_goals go_meet
    all_goals first
      | exact ⟨_, rfl, rfl, EnvN.put J p q⟩
      | exact ⟨_, rfl, rfl, (EnvN.put J p q).drew⟩
      | exact ⟨_, rfl, rfl, EnvN.put J.drew p q⟩
      | exact ⟨_, rfl, rfl, J.push p q⟩
      | exact ⟨_, rfl, rfl, (J.push p q).drew⟩
      | exact ⟨_, rfl, rfl, EnvN.put (EnvN.new J) p q⟩
      | exact ⟨_, rfl, rfl, (EnvN.put (EnvN.new J) p q).drew⟩
      | exact ⟨_, rfl, rfl, EnvN.put (EnvN.new J).drew p q⟩
  case rest =>
    obtain ⟨k, rfl, rfl, J⟩ := hcut
    obtain ⟨b0, b1, fb0, fb1, zb0⟩ := id (J.two (k, p, q) (by simp))
    go_wp2_with fail
    refine (negative_any _ _ _ (by omega) (by omega)).mono ?_
    rintro e w5 ⟨rfl, hb⟩
    replace J := J.below hb
    clear hb
    have T := J.two (w.heap.size + 1 + 1, 0, 0) (by simp)
    obtain ⟨c0, c1, fc0, fc1, zc0⟩ := id T
    have hB := J.old
    go_wp2_with fail
    exact bodyPost_ret (v := .tuple #[fr (-p) q, .bool true]) (by simp [results, Tryd.results34, go_sem, (T.store (.int .i64 (-p)) (.int .i64 q)).1, (T.store (.int .i64 (-p)) (.int .i64 q)).2.1, zc0]) rfl ⟨rfl, by go_grown⟩
end Go.Proofs.YtonndlhppihdiaaDoor
