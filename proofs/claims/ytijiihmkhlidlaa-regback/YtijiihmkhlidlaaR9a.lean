/-
  What a move that goes through says; moved back.
-/
import Derived.Test.YtijiihmkhlidlaaR5
import Derived.Test.YtijiihmkhlidlaaR6
namespace Go.Proofs.Ytijiihmkhlidlaa
open Go.ChangeShapes Go.WideShapes Go.ChangeAt Go.RowKit
set_option linter.unusedVariables false
set_option linter.unusedSimpArgs false
theorem along_along (f x a b : Int) : alongZ (f + alongZ x a b) a b = alongZ f a b + x := by unfold alongZ; split <;> omega
theorem along_turn (f a b : Int) (h : a ≠ b) : alongZ f b a = -alongZ f a b := by unfold alongZ; split <;> split <;> omega
theorem end_turn (q a b : Int) : endB q b a = endB q a b := by unfold endB; exact Bool.or_comm _ _
theorem edge_turn (a b : Int) : edgeB b a = edgeB a b := by unfold edgeB; rw [show decide (b ≠ a) = decide (a ≠ b) by simp [ne_comm], Bool.and_assoc, Bool.and_assoc, Bool.and_comm (nodeB b)]
theorem fit_turn (v p f a b : Int) : fitB v p f b a = fitB v p f a b := by unfold fitB lineB; rw [edge_turn, end_turn]
theorem fit_edge {v p f a b : Int} (h : fitB v p f a b = true) : edgeB a b = true := by unfold fitB at h; simp at h; exact h.1
/-- What a move that goes through says. -/
structure Gone (v p f a b x q : Int) : Prop where
  eq : mv v p f a b x q = ⟨v + 1, q, f + alongZ x a b, 0⟩
  was : fitB v p f a b = true
  fit : fitB (v + 1) q (f + alongZ x a b) a b = true
  new : newB (v + 1) q v p = true
  out : outZ (v + 1) q (f + alongZ x a b) a b = outZ v p f a b + x
  out' : outZ (v + 1) q (f + alongZ x a b) b a = outZ v p f b a - x
  neg : outZ (v + 1) q (f + alongZ x a b) a b = -outZ (v + 1) q (f + alongZ x a b) b a
  rx : -2147483647 ≤ x ∧ x ≤ 2147483647
theorem mv_cases (v p f a b x q : Int) : (∃ e, mv v p f a b x q = ⟨0, 0, 0, e⟩ ∧ (e = 31 ∨ e = 10)) ∨ (x = 0 ∧ mv v p f a b x q = ⟨v, p, f, 0⟩) ∨ (x ≠ 0 ∧ Gone v p f a b x q) := by
  by_cases h1 : fitB v p f a b = false ∨ endB q a b = false
  · exact .inl ⟨31, by unfold mv; rw [if_pos h1], .inl rfl⟩
  · by_cases h2 : rngB x = false
    · exact .inl ⟨10, by unfold mv; rw [if_neg h1, if_pos h2], .inr rfl⟩
    · by_cases h3 : x = 0
      · exact .inr (.inl ⟨h3, by unfold mv; rw [if_neg h1, if_neg h2, if_pos h3]⟩)
      · by_cases h4 : v = 1099511627776 ∨ rngB (f + alongZ x a b) = false
        · exact .inl ⟨10, by unfold mv; rw [if_neg h1, if_neg h2, if_neg h3, if_pos h4], .inr rfl⟩
        · have hf : fitB v p f a b = true := by simpa using fun h => h1 (.inl h)
          have he : endB q a b = true := by simpa using fun h => h1 (.inr h)
          have hr : rngB (f + alongZ x a b) = true := by simpa using fun h => h4 (.inr h)
          have hv : v ≠ 1099511627776 := fun h => h4 (.inl h)
          obtain ⟨v0, v1, hab⟩ := fit_ver hf
          have hfit : fitB (v + 1) q (f + alongZ x a b) a b = true := by
            unfold fitB lineB
            rw [fit_edge hf, he, hr, decide_eq_true (show 1 ≤ v + 1 by omega), decide_eq_true (show v + 1 ≤ 1099511627776 by omega)]
            simp
          have o1 : outZ (v + 1) q (f + alongZ x a b) a b = alongZ f a b + x := by unfold outZ; rw [if_pos hfit, along_along]
          have o2 : outZ v p f a b = alongZ f a b := by unfold outZ; rw [if_pos hf]
          have o3 : outZ (v + 1) q (f + alongZ x a b) b a = -(alongZ f a b + x) := by unfold outZ; rw [fit_turn, if_pos hfit, along_turn _ _ _ hab, along_along]
          have o4 : outZ v p f b a = -alongZ f a b := by unfold outZ; rw [fit_turn, if_pos hf, along_turn _ _ _ hab]
          exact .inr (.inr ⟨h3, by unfold mv; rw [if_neg h1, if_neg h2, if_neg h3, if_neg h4], hf, hfit, by unfold newB aboveB; rw [if_neg (by omega)]; exact decide_eq_true (by omega), by rw [o1, o2], by rw [o3, o4]; omega, by rw [o1, o3]; omega, rng_true (by simpa using h2)⟩)
theorem out_sm (v p f a b : Int) : -2147483647 ≤ outZ v p f a b ∧ outZ v p f a b ≤ 2147483647 := by
  unfold outZ
  split
  · rename_i h
    have := fit_rng h
    unfold alongZ
    split <;> omega
  · omega
/-- Moved back by the other one. -/
theorem gone_back {v p f a b x q r : Int} (h : Gone v p f a b x q) (h0 : x ≠ 0) (hr : r = a ∨ r = b) :
    (v + 1 = 1099511627776 ∧ mv (v + 1) q (f + alongZ x a b) b a x r = ⟨0, 0, 0, 10⟩) ∨ (mv (v + 1) q (f + alongZ x a b) b a x r = ⟨v + 1 + 1, r, f, 0⟩ ∧ newB (v + 1 + 1) r (v + 1) q = true) := by
  have hab := (fit_ver h.fit).2.2
  have hf : fitB (v + 1) q (f + alongZ x a b) b a = true := by rw [fit_turn]; exact h.fit
  have he : endB r b a = true := by unfold endB; rcases hr with rfl | rfl <;> simp
  have hx : rngB x = true := by have := h.rx; unfold rngB; simp; omega
  have hfl : f + alongZ x a b + alongZ x b a = f := by rw [along_turn _ _ _ hab]; omega
  have hr' : rngB f = true := by have := fit_rng h.was; unfold rngB; simp; omega
  by_cases hv : v + 1 = 1099511627776
  · refine .inl ⟨hv, ?_⟩
    unfold mv
    rw [if_neg (by simp [hf, he]), if_neg (by simp [hx]), if_neg h0, if_pos (.inl hv)]
  · refine .inr ⟨?_, by unfold newB aboveB; rw [if_neg (by omega)]; exact decide_eq_true (by omega)⟩
    unfold mv
    rw [if_neg (by simp [hf, he]), if_neg (by simp [hx]), if_neg h0, hfl, if_neg (by simp [hv, hr'])]
end Go.Proofs.Ytijiihmkhlidlaa
