/-
  Package trade: the chapter's examples, which every statement calls at its end.
-/
import Derived.Test.YtcjdfnfaiocdjaaT8
namespace Go.Proofs.Ytcjdfnfaiocdjaa
open Go.ChangeShapes Go.WideShapes Go.ChangeAt Go.RowKit
set_option linter.unusedVariables false
set_option linter.unusedSimpArgs false

theorem ex_ends : ends 1 2 7 2 5 10 20 = ⟨3, 27, 0⟩ := by
  have h : (ends 1 2 7 2 5 10 20).a = 3 ∧ (ends 1 2 7 2 5 10 20).b = 27 ∧ (ends 1 2 7 2 5 10 20).e = 0 := by decide +kernel
  generalize ends 1 2 7 2 5 10 20 = E at *
  obtain ⟨x, y, z⟩ := E
  obtain ⟨h1, h2, h3⟩ := h
  dsimp only at h1 h2 h3
  subst h1 h2 h3
  rfl
theorem ex_bal : bal 1 2 7 2 5 10 20 = ⟨2, 2, -5, 12, 0⟩ := by
  have h : (bal 1 2 7 2 5 10 20).v = 2 ∧ (bal 1 2 7 2 5 10 20).p = 2 ∧ (bal 1 2 7 2 5 10 20).f = -5 ∧ (bal 1 2 7 2 5 10 20).n = 12 ∧ (bal 1 2 7 2 5 10 20).e = 0 := by decide +kernel
  generalize bal 1 2 7 2 5 10 20 = E at *
  obtain ⟨x, y, z, u, v⟩ := E
  obtain ⟨h1, h2, h3, h4, h5⟩ := h
  dsimp only at h1 h2 h3 h4 h5
  subst h1 h2 h3 h4 h5
  rfl
theorem ex_play : play 0 0 0 2 5 0 9 3 = ⟨1, 5, -4, [-4, 0, 0], 0⟩ := by
  have h : (play 0 0 0 2 5 0 9 3).v = 1 ∧ (play 0 0 0 2 5 0 9 3).p = 5 ∧ (play 0 0 0 2 5 0 9 3).f = -4 ∧ (play 0 0 0 2 5 0 9 3).l = [-4, 0, 0] ∧ (play 0 0 0 2 5 0 9 3).e = 0 := by decide +kernel
  generalize play 0 0 0 2 5 0 9 3 = E at *
  obtain ⟨x, y, z, u, v⟩ := E
  obtain ⟨h1, h2, h3, h4, h5⟩ := h
  dsimp only at h1 h2 h3 h4 h5
  subst h1 h2 h3 h4 h5
  rfl
set_option maxRecDepth 100000 in
set_option maxHeartbeats 2000000 in
theorem awake_any (w : World) : Calls Try.prog 12 #[] w fun e w' => e = .returned (.bool true) ∧ Below w.heap.size w w' := by
  have K1 : ∀ w, Calls Try.prog 8 #[.int .i64 2, .int .i64 5, rg 1 2 7, .int .i64 10, .int .i64 20] w fun e w' => e = .returned (.tuple #[.int .i64 3, .int .i64 27, .int .i64 0]) ∧ Below w.heap.size w w' := fun w => by
    have h := ends_any 1 2 7 2 5 10 20 w
    rw [ex_ends] at h
    exact h
  have K2 : ∀ w, Calls Try.prog 13 #[.int .i64 2, .int .i64 5, rg 1 2 7, .int .i64 10, .int .i64 20] w fun e w' => e = .returned (.tuple #[rg 2 2 (-5), .int .i64 12, .int .i64 0]) ∧ Below w.heap.size w w' := fun w => by
    have h := bal_any 1 2 7 2 5 10 20 w
    rw [ex_bal] at h
    exact h
  have K3 : ∀ w, Calls Try.prog 15 #[.int .i64 2, .int .i64 5, rg 0 0 0, .int .i64 0, .int .i64 9, .int .i64 3] w fun e w' => ∃ b off cap, e = .returned (.tuple #[rg 1 5 (-4), .slice (some ⟨b, off, none⟩) 3 cap, .int .i64 0]) ∧ b < w'.heap.size ∧ w'.cell? ⟨b, off, none⟩ = some (.int .i64 (-4)) ∧ Below w.heap.size w w' := fun w => by
    have h := play_any 0 0 0 2 5 0 9 3 w
    rw [ex_play] at h
    refine h.mono ?_
    rintro e w' ⟨sl, cap, rfl, R, hb⟩
    obtain ⟨b, off, rfl, hlt, hc⟩ := R.mem.resolve_left (by decide)
    exact ⟨b, off, cap, rfl, hlt, hc 0 (by decide), hb⟩
  go_enter Try.func12, Try.ntmps12
  go_wp2_with (first
    | (go_at_call 8; refine (K1 _).mono ?_; clear K1; rintro e w1 ⟨rfl, B1⟩)
    | (go_at_call 13; refine (K2 _).mono ?_; clear K2; rintro e w2 ⟨rfl, B2⟩; have hB : Below w.heap.size w w2 := B1.trans (B2.mono B1.size); clear B2)
    | (go_at_call 15; refine (K3 _).mono ?_; clear K3; rintro e w3 ⟨kb, off, cap, rfl, klt, kc, B3⟩; obtain ⟨a0, a1, a2, b0, b1, b2, z0⟩ := (Tri.new w2 (.int .i64 2) (.int .i64 2) (.int .i64 (-5)) 23).below B3; have hB3 : Below w.heap.size w w3 := Below.trans (hB.alloc hB.size _) (B3.mono (by have := hB.size; simp; omega)); clear B3))
  go_ret
  exact ⟨rfl, hB3.alloc hB3.size _⟩
end Go.Proofs.Ytcjdfnfaiocdjaa
