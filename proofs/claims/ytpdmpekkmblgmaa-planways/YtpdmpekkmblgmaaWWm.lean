/-
  Package plan: what PlanWays asks of distances.
-/
import Derived.Test.YtpdmpekkmblgmaaQW
import Derived.Test.YtpdmpekkmblgmaaU2
namespace Go.Proofs.Ytpdmpekkmblgmaa
open Go.ChangeShapes Go.WideShapes Go.ChangeAt Go.RowKit Go.Maps Go.Shelf
set_option linter.unusedVariables false
set_option linter.unusedSimpArgs false
attribute [local go_sem] Oper.semAt_some

theorem dst_hi {N v : Nat} {l : List LK} (u : Nat) : (dst N l (v : Int)).getD u 0 ≤ (N : Int) := by
  unfold dst
  split
  · exact lev_le (out0_le N (v : Int)) N u
  · rw [List.getD_eq_getElem?_getD, List.getElem?_replicate]
    split <;> simp <;> omega
theorem ways_two {N a b : Nat} {l : List LK} (hr : rises (N : Int) l = true) (ha : a < N) (hb : b < N) : ∃ x : Int, (dst N l (a : Int)).getD b 0 = x ∧ (dst N l (b : Int)).getD a 0 = x ∧ (0 ≤ x ↔ (partsL N l).getD a 0 = (partsL N l).getD b 0) ∧ (x = 0 ↔ a = b) ∧ -1 ≤ x ∧ x ≤ (N : Int) := by
  have h1 := dst_far hr ha hb
  have h2 := dst_far hr hb ha
  refine ⟨_, rfl, (h1.turn (rises_apart hr) h2).symm, ?_, ?_, h1.ge, dst_hi b⟩
  · rw [h1.iff, parts_same hr ha hb]
  · rw [h1.zero]; omega
theorem ways_pair {N a : Nat} {l : List LK} (hr : rises (N : Int) l = true) (ha : a < N) {p : LK} (hp : p ∈ l) : ∃ x z : Nat, p = ((x : Int), (z : Int)) ∧ x < N ∧ z < N ∧ (dst N l (a : Int)).getD x 0 - (dst N l (a : Int)).getD z 0 ≤ 1 ∧ (dst N l (a : Int)).getD z 0 - (dst N l (a : Int)).getD x 0 ≤ 1 ∧ ((dst N l (a : Int)).getD x 0 < 0 ↔ (dst N l (a : Int)).getD z 0 < 0) ∧ -1 ≤ (dst N l (a : Int)).getD x 0 ∧ -1 ≤ (dst N l (a : Int)).getD z 0 := by
  obtain ⟨x, z⟩ := p
  have hi := inR_of hr hp
  simp only at hi
  obtain ⟨x, rfl⟩ : ∃ y : Nat, x = (y : Int) := ⟨x.toNat, by omega⟩
  obtain ⟨z, rfl⟩ : ∃ y : Nat, z = (y : Int) := ⟨z.toNat, by omega⟩
  have h1 := dst_far hr ha (show x < N by omega)
  have h2 := dst_far hr ha (show z < N by omega)
  have hn := nbs_pair (rises_apart hr) hp
  have h3 := h1.next h2 hn.2 hn.1
  exact ⟨x, z, rfl, by omega, by omega, h3.1, h3.2.1, h3.2.2, h1.ge, h2.ge⟩
theorem dst_self {N a : Nat} {l : List LK} (hr : rises (N : Int) l = true) (ha : a < N) : (dst N l (a : Int)).getD a 0 = 0 := (dst_far hr ha ha).zero.2 rfl
end Go.Proofs.Ytpdmpekkmblgmaa
