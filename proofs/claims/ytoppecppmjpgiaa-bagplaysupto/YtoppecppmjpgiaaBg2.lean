/-
  Package bag: append onto the list of packets, wherever in its block it begins.
-/
import Derived.Test.YtoppecppmjpgiaaBg1
namespace Go.Proofs.Ytoppecppmjpgiaa
open Go.ChangeShapes Go.WideShapes Go.ChangeAt Go.RowKit Go.Maps
set_option linter.unusedVariables false
set_option linter.unusedSimpArgs false

theorem dcs_snoc (ds : List DG) (d : DG) : dcs (ds ++ [d]) = dcs ds ++ d.cells := by simp [dcs]
theorem cells_one (d : DG) : ∀ u ∈ d.cells, u.oneCell' = true := by simp [DG.cells, Value.oneCell']
/-- A row of one's own, as a list. -/
theorem own_lst {W : World} {base : Nat} {v : Value} {n : Nat} {ds : List DG} (h : W.ownsRow base 33 4 v n (dcs ds)) (hn : ds.length = n) : ∃ a cap, v = .slice a n cap ∧ Lst W a n cap ds ∧ (∀ g off, a = some ⟨g, off, none⟩ → base ≤ g) := by
  rcases h.2 with ⟨rfl, h0⟩ | ⟨g, cap, cur, rfl, hg, hh, hnc, hc, hcs, ht⟩
  · subst h0
    exact ⟨none, 0, rfl, ⟨hn, Nat.le_refl _, by omega, .inl ⟨rfl, rfl⟩⟩, fun g off e => by cases e⟩
  · refine ⟨_, cap, rfl, ⟨hn, hnc, by unfold maxLen at hc; omega, .inr ⟨g, 0, cur, rfl, hh, by omega, ?_⟩⟩, fun g' off e => by cases e; exact hg⟩
    rw [List.drop_zero, ← ht]
    congr 1
    omega
theorem put_row {α : Type} (l : List α) (off m : Nat) (c r : List α) (h : off + m ≤ l.length) : ((l.take (off + m) ++ c ++ r).drop off).take (m + c.length) = (l.drop off).take m ++ c := by
  have hl : (l.take (off + m)).length = off + m := by rw [List.length_take]; omega
  rw [List.append_assoc, List.drop_append_of_le_length (by omega), List.drop_take, show off + m - off = m by omega, ← List.append_assoc]
  exact List.take_left' (by rw [List.length_append, List.length_take, List.length_drop]; omega)
def atL (a : Option Addr) : Nat → Prop := fun q => ∃ off, a = some ⟨q, off, none⟩
/-- append(list, d). -/
theorem run_append_lst {W : World} {a : Option Addr} {n cap s : Nat} {ds : List DG} {d : DG} (ty : TypeId) (L : Lst W a n cap ds) (hs : W.rangeAt s 0 d.cells) (hn : n ≤ 65536) :
    ∃ v' w', (Builtin.append_ #[22, 22] ty #[.slice a n cap, .slice (some ⟨s, 0, none⟩) 1 1]).run Try.prog W = .ok v' w' ∧ (∃ a' cap', v' = .slice a' (n + 1) cap' ∧ Lst w' a' (n + 1) cap' (ds ++ [d]) ∧ (∀ g off, a' = some ⟨g, off, none⟩ → (∃ o, a = some ⟨g, o, none⟩) ∨ W.heap.size ≤ g)) ∧ Only (atL a) W w' := by
  obtain ⟨i0, hi, hz0, hz1, hz2⟩ := info_parts info33
  have hnews : ∀ j u, d.cells[j]? = some u → W.cell? ((⟨s, 0, none⟩ : Addr).add j) = some u := fun j u hj => by rw [add_plain]; exact hs j u hj
  have hdl := dcs_len ds
  have hsz := L.size
  have grown : ∀ w', W.grownBy w' none → Only (atL a) W w' := fun w' g => ⟨g.os, g.tape, g.output, g.size, fun q hq _ => g.block q hq (by simp)⟩
  rcases L.mem with ⟨rfl, rfl⟩ | ⟨g, off, cur, rfl, hh, hcs, htk⟩
  · have h0 : n = 0 := by have := L.le; omega
    subst h0
    have e : ds = [] := List.eq_nil_of_length_eq_zero hsz
    subst e
    obtain ⟨v', w', hrun, r1, r2, _⟩ := run_append_own (P := Try.prog) W W.heap.size 22 ty 33 i0 _ 4 40 Try.underlying22 hi hz0 hz1 hz2 rfl (by decide) (.slice none 0 0) 0 [] (World.ownsRow_nil W _ 33 4) ⟨s, 0, none⟩ 1 1 d.cells rfl hnews (cells_one d) (by unfold maxLen; omega) (by omega) (Nat.le_refl _)
    obtain ⟨a', cap', rfl, L', hb⟩ := own_lst (ds := [d]) (by simpa [dcs] using r1) rfl
    exact ⟨_, w', hrun, ⟨a', cap', rfl, L', fun g off e => .inr (hb g off e)⟩, grown _ r2⟩
  · by_cases hr : n + 1 ≤ cap
    · have hfc := run_firstCells_some (P := Try.prog) W i0.size 1 ⟨s, 0, none⟩ 1 1 d.cells (by rw [hz1]; rfl) hnews
      have hst := run_storeCells_at Try.prog g (off + n * 4) 33 d.cells 0 cur W hh (by rw [hcs]; show off + n * 4 + 0 + 4 ≤ _; omega) (cells_one d)
      simp only [Nat.add_zero] at hst
      obtain ⟨cur', hcur'⟩ : ∃ cur', (cur.toList.take (off + n * 4) ++ d.cells ++ cur.toList.drop (off + n * 4 + d.cells.length)).toArray = cur' := ⟨_, rfl⟩
      rw [hcur'] at hst
      refine ⟨.slice (some ⟨g, off, none⟩) (n + 1) cap, W.setRow g cur', ?_, ⟨_, cap, rfl, ⟨by simp; omega, hr, L.max, .inr ⟨g, off, cur', rfl, setRow_heap _ _ _ _ _ _ hh, ?_, ?_⟩⟩, fun g' off' e => by cases e; exact .inl ⟨off, rfl⟩⟩, Only.setRow (C := atL _) (Only.refl _ _) (fun _ => ⟨off, rfl⟩) _⟩
      · rw [hz1] at hfc
        simp [Builtin.append_, run_underlying Try.underlying22, sizeOf, typeInfo, hi, hz1, Builtin.lenOf, hr, hfc, Addr.add_lit, hst]
      · rw [← hcur']
        have hl : d.cells.length = 4 := rfl
        simp only [List.size_toArray, List.length_append, List.length_take, List.length_drop, Array.length_toList, hl]
        omega
      · rw [← hcur', dcs_snoc, ← htk]
        have e1 : off + n * 4 = off + 4 * n := by omega
        have e2 : 4 * (n + 1) = 4 * n + d.cells.length := rfl
        rw [e1, e2]
        exact put_row _ _ _ _ _ (by rw [Array.length_toList, hcs]; omega)
    · obtain ⟨v', w', hrun, r1, r2⟩ := run_append_arg_grows (P := Try.prog) W 22 ty 33 i0 _ 4 40 Try.underlying22 hi hz0 hz1 hz2 rfl (by decide) ⟨g, off, none⟩ n cap (dcs ds) (by rw [hdl, hsz]; omega) (fun j u hj => by
          rw [add_plain]
          refine row_cell hh _ _ ?_
          rw [← htk, List.getElem?_take, List.getElem?_drop] at hj
          split at hj
          · simpa using hj
          · cases hj) ⟨s, 0, none⟩ 1 1 d.cells rfl hnews (by omega) (by unfold maxLen; omega) (by omega)
      rw [← dcs_snoc] at r1
      obtain ⟨a', cap', rfl, L', hb⟩ := own_lst r1 (by simp; omega)
      exact ⟨_, w', hrun, ⟨a', cap', rfl, L', fun g off e => .inr (hb g off e)⟩, grown _ r2⟩
end Go.Proofs.Ytoppecppmjpgiaa
