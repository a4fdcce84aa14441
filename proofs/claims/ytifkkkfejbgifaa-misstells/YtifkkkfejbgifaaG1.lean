/-
  Rows of one's own, later.
-/
import Derived.Test.YtifkkkfejbgifaaC3
import Derived.Deep.DeepCutAuto
namespace Go.Proofs.Ytifkkkfejbgifaa
open Go.ChangeShapes Go.WideShapes Go.ChangeAt Go.RowKit
set_option linter.unusedVariables false
set_option linter.unusedSimpArgs false

theorem owns_later {W W' : World} {base e size : Nat} {v : Value} {n : Nat} {xs : List Value} (h : W.ownsRow base e size v n xs) (b : Below W.heap.size W W') : W'.ownsRow base e size v n xs := by
  refine ⟨h.1, h.2.imp id ?_⟩
  rintro ⟨g, cap, cur, e1, e2, hh, r⟩
  exact ⟨g, cap, cur, e1, e2, (b.block g (row_lt hh)).trans hh, r⟩
theorem owns_ne {W : World} {base e size : Nat} {v : Value} {n : Nat} {xs : List Value} (h : W.ownsRow base e size v n xs) {q t : Nat} {cs : Array Value} (hq : W.heap[q]? = some (.cells cs t (0, 0))) (ht : t ≠ e) : some q ≠ v.ownBlock := by
  rcases h.2 with ⟨rfl, _⟩ | ⟨g, cap, cur, rfl, _, hh, _⟩
  · simp [Value.ownBlock]
  · intro e'
    simp [Value.ownBlock] at e'
    subst e'
    rw [hh] at hq
    cases hq
    exact ht rfl
end Go.Proofs.Ytifkkkfejbgifaa
