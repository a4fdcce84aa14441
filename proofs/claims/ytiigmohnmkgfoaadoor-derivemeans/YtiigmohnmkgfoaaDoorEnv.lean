/-
  What lies in memory while a law of layer 2 is walked: fractions in blocks of their own; and what Make hands back is valid.
-/
import Derived.Test.YtiigmohnmkgfoaaDoorText
import Derived.Test.YtiigmohnmkgfoaaDoorRefValid
import Derived.Test.YtiigmohnmkgfoaaDoorValid
import Derived.Test.YtiigmohnmkgfoaaDoorOps
namespace Go.Proofs.YtiigmohnmkgfoaaDoor
open Go.ChangeShapes Go.WideShapes Go.ChangeAt Go.RowKit
set_option linter.unusedVariables false
set_option linter.unusedSimpArgs false

/-- From w on: the fractions of l, each in its block; the rest as it was; the library's table. -/
structure Env (w : World) (l : List (Nat × Int × Int)) (W : World) : Prop where
  two : ∀ p ∈ l, Two W p.1 (.int .i64 p.2.1) (.int .i64 p.2.2)
  old : Below w.heap.size w W
  tab0 : Tab w
  own : ∀ p ∈ l, w.heap.size ≤ p.1
theorem Env.tab {w W : World} {l : List (Nat × Int × Int)} (h : Env w l W) : Tab W := h.tab0.below h.old
theorem Env.below {w W W' : World} {l : List (Nat × Int × Int)} (h : Env w l W) (hb : Below W.heap.size W W') : Env w l W' :=
  ⟨fun p hp => (h.two p hp).below hb, h.old.trans (hb.mono h.old.size), h.tab0, h.own⟩
theorem Env.drew {w W : World} {l : List (Nat × Int × Int)} (h : Env w l W) : Env w l W.drew := ⟨h.two, h.old.drew, h.tab0, h.own⟩
theorem Env.drewN {w W : World} {l : List (Nat × Int × Int)} (h : Env w l W) (n : Nat) : Env w l (W.drewN n) := ⟨h.two, Below.drewn h.old n, h.tab0, h.own⟩
theorem Env.push {w W : World} {l : List (Nat × Int × Int)} (h : Env w l W) (a b : Int) : Env w ((W.heap.size, a, b) :: l) (W.alloc (.cells #[.int .i64 a, .int .i64 b] 23)) :=
  ⟨fun p hp => by
    rcases List.mem_cons.1 hp with rfl | hp
    · exact Two.new _ _ _ _
    · exact (h.two p hp).alloc _, h.old.alloc h.old.size _, h.tab0, fun p hp => by
    rcases List.mem_cons.1 hp with rfl | hp
    · exact h.old.size
    · exact h.own p hp⟩
theorem Env.start {w : World} (h : Tab w) : Env w [] w := ⟨fun _ h => by simp at h, Below.refl _ _, h, fun _ h => by simp at h⟩
/-- A fraction is stored into a block. -/
theorem Env.put {w W : World} {k : Nat} {a0 b0 : Int} {l r : List (Nat × Int × Int)} (h : Env w (l ++ (k, a0, b0) :: r) W) (hne : ∀ p ∈ l ++ r, p.1 ≠ k) (a b : Int) :
    Env w (l ++ (k, a, b) :: r) ((W.setCell ⟨k, 0, none⟩ (.int .i64 a)).setCell ⟨k, 1, none⟩ (.int .i64 b)) := by
  have hk : Two W k (.int .i64 a0) (.int .i64 b0) := h.two (k, a0, b0) (by simp)
  have ho : w.heap.size ≤ k := h.own (k, a0, b0) (by simp)
  refine ⟨fun p hp => ?_, (h.old.setCell (p := ⟨k, 0, none⟩) ho _).setCell (p := ⟨k, 1, none⟩) ho _, h.tab0, fun p hp => ?_⟩
  · rw [List.mem_append, List.mem_cons] at hp
    rcases hp with hp | rfl | hp
    · exact ((h.two p (by simp [hp])).far _ _ _ (fun e => hne p (by simp [hp]) e.symm)).far _ _ _ (fun e => hne p (by simp [hp]) e.symm)
    · exact hk.store _ _
    · exact ((h.two p (by simp [hp])).far _ _ _ (fun e => hne p (by simp [hp]) e.symm)).far _ _ _ (fun e => hne p (by simp [hp]) e.symm)
  · rw [List.mem_append, List.mem_cons] at hp
    rcases hp with hp | rfl | hp
    · exact h.own p (by simp [hp])
    · exact ho
    · exact h.own p (by simp [hp])

theorem mk_valid {n d : Int} (h : mkE n d = 0) : validB (mkN n d) (mkD n d) = true := by
  have h0 : d ≠ 0 := fun e => by subst e; simp [mkE] at h
  have hb := bigB_n h0 h
  have g0 := mkG_pos (n := n) h0
  have hL : 0 < mkL n d := by
    have h1 : mkG n d ∣ sz d := Nat.gcd_dvd_right _ _
    obtain ⟨c, hc⟩ := h1
    unfold mkL
    rw [hc, Nat.mul_div_cancel_left _ g0]
    have : 0 < sz d := by unfold sz; omega
    rw [hc] at this
    exact Nat.pos_of_mul_pos_left this
  have hN : sz (mkN n d) = mkT n d := by
    unfold mkN
    rw [if_pos h]
    unfold sz
    split <;> omega
  have hD : sz (mkD n d) = mkL n d := by
    unfold mkD
    rw [if_pos h]
    unfold sz
    omega
  have hg : mkG (mkN n d) (mkD n d) = 1 := by
    show Nat.gcd _ _ = 1
    rw [hN, hD]
    show Nat.gcd (sz n / Nat.gcd (sz n) (sz d)) (sz d / Nat.gcd (sz n) (sz d)) = 1
    rw [Nat.gcd_div (Nat.gcd_dvd_left _ _) (Nat.gcd_dvd_right _ _)]
    exact Nat.div_self g0
  have s1 := (mk_sm n d).1
  unfold Sm at s1
  unfold validB
  rw [decide_eq_true_eq]
  refine ⟨?_, ?_, s1.1, s1.2, hg⟩
  · unfold mkD; rw [if_pos h]; omega
  · unfold mkD; rw [if_pos h]; omega

end Go.Proofs.YtiigmohnmkgfoaaDoor
