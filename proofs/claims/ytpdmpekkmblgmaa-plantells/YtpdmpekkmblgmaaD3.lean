/-
  The document: Distances.
-/
import Derived.Test.YtpdmpekkmblgmaaD2
import Derived.Test.YtpdmpekkmblgmaaP5
import Derived.Test.YtpdmpekkmblgmaaP4
namespace Go.Proofs.Ytpdmpekkmblgmaa
open Go.ChangeShapes Go.WideShapes Go.ChangeAt Go.RowKit Go.Maps Go.Shelf
set_option linter.unusedVariables false
set_option linter.unusedSimpArgs false
attribute [local go_sem] Oper.semAt_some

theorem hit_succ {l : List LK} {r : Int} {F : List Int} {v i : Nat} {p : LK} (h : l[i]? = some p) : hit (l.take (i + 1)) r F v = true ↔ (hit (l.take i) r F v = true ∨ ∃ u, nb (v : Int) p = some u ∧ F.getD u.toNat 0 = r) := by
  rw [hit_iff, hit_iff]
  cases hn : nb (v : Int) p with
  | none =>
    rw [nbs_take_none h hn]
    constructor
    · exact fun h => .inl h
    · rintro (h | ⟨u, e, _⟩)
      · exact h
      · cases e
  | some u =>
    rw [nbs_take_some h hn]
    constructor
    · rintro ⟨x, hx, e⟩
      rcases List.mem_append.1 hx with hx | hx
      · exact .inl ⟨x, hx, e⟩
      · rw [List.mem_singleton.1 hx] at e
        exact .inr ⟨u, rfl, e⟩
    · rintro (⟨x, hx, e⟩ | ⟨x, e1, e⟩)
      · exact ⟨x, List.mem_append.2 (.inl hx), e⟩
      · cases e1
        exact ⟨u, List.mem_append.2 (.inr (by simp)), e⟩
theorem nb_ab {a b v : Nat} (hab : a ≠ b) : nb (v : Int) ((a : Int), (b : Int)) = if v = a then some (b : Int) else if v = b then some (a : Int) else none := by
  unfold nb
  by_cases h1 : v = a
  · subst h1; simp
  · rw [if_neg (by show ¬ (a : Int) = (v : Int); omega), if_neg h1]
    by_cases h2 : v = b
    · subst h2; simp
    · rw [if_neg (by show ¬ (b : Int) = (v : Int); omega), if_neg h2]
theorem list_ext {xs ys : List Int} (hl : xs.length = ys.length) (h : ∀ j, j < xs.length → xs.getD j 0 = ys.getD j 0) : xs = ys := by
  apply List.ext_getElem hl
  intro j h1 h2
  have := h j h1
  rw [List.getD_eq_getElem?_getD, List.getD_eq_getElem?_getD, List.getElem?_eq_getElem h1, List.getElem?_eq_getElem h2] at this
  exact this
theorem getD_set {xs : List Int} {i j : Nat} {x : Int} (hi : i < xs.length) : (xs.set i x).getD j 0 = if j = i then x else xs.getD j 0 := by
  by_cases h : j = i
  · subst h
    rw [if_pos rfl, List.getD_eq_getElem?_getD, List.getElem?_set_self hi]
    rfl
  · rw [if_neg h, List.getD_eq_getElem?_getD, List.getElem?_set_ne (by omega), ← List.getD_eq_getElem?_getD]
/-- One pair more. -/
theorem sweep_pair {l : List LK} {r : Int} {F : List Int} {i a b : Nat} (hr : 0 ≤ r) (h : l[i]? = some ((a : Int), (b : Int))) (hab : a ≠ b) (ha : a < F.length) (hb : b < F.length) :
    sweep (l.take (i + 1)) r F =
      if (sweep (l.take i) r F).getD a 0 = r ∧ (sweep (l.take i) r F).getD b 0 < 0 then (sweep (l.take i) r F).set b (r + 1)
      else if (sweep (l.take i) r F).getD b 0 = r ∧ (sweep (l.take i) r F).getD a 0 < 0 then (sweep (l.take i) r F).set a (r + 1)
      else sweep (l.take i) r F := by
  have hs : ∀ v, v < F.length → (sweep (l.take (i + 1)) r F).getD v 0 = stp (l.take (i + 1)) r F v := fun v hv => sweep_at hv
  have hs0 : ∀ v, v < F.length → (sweep (l.take i) r F).getD v 0 = stp (l.take i) r F v := fun v hv => sweep_at hv
  have hh : ∀ v, hit (l.take (i + 1)) r F v = true ↔ (hit (l.take i) r F v = true ∨ (v = a ∧ F.getD b 0 = r) ∨ (v = b ∧ F.getD a 0 = r)) := by
    intro v
    rw [hit_succ h, nb_ab hab]
    by_cases h1 : v = a
    · subst h1
      rw [if_pos rfl]
      constructor
      · rintro (h | ⟨u, e, hu⟩)
        · exact .inl h
        · cases e; exact .inr (.inl ⟨rfl, by simpa using hu⟩)
      · rintro (h | ⟨_, h⟩ | ⟨e, _⟩)
        · exact .inl h
        · exact .inr ⟨_, rfl, by simpa using h⟩
        · omega
    · rw [if_neg h1]
      by_cases h2 : v = b
      · subst h2
        rw [if_pos rfl]
        constructor
        · rintro (h | ⟨u, e, hu⟩)
          · exact .inl h
          · cases e; exact .inr (.inr ⟨rfl, by simpa using hu⟩)
        · rintro (h | ⟨e, _⟩ | ⟨_, h⟩)
          · exact .inl h
          · omega
          · exact .inr ⟨_, rfl, by simpa using h⟩
      · rw [if_neg h2]
        constructor
        · rintro (h | ⟨u, e, _⟩)
          · exact .inl h
          · cases e
        · rintro (h | ⟨e, _⟩ | ⟨e, _⟩)
          · exact .inl h
          · omega
          · omega
  have key : ∀ v, stp (l.take (i + 1)) r F v = if 0 ≤ F.getD v 0 then F.getD v 0 else if (hit (l.take i) r F v = true ∨ (v = a ∧ F.getD b 0 = r) ∨ (v = b ∧ F.getD a 0 = r)) then r + 1 else F.getD v 0 := by
    intro v
    unfold stp
    split
    · rfl
    · by_cases hv : hit (l.take (i + 1)) r F v = true
      · rw [if_pos hv, if_pos ((hh v).1 hv)]
      · rw [if_neg hv, if_neg (fun h => hv ((hh v).2 h))]
  have ea := hs0 a ha
  have eb := hs0 b hb
  have la : (sweep (l.take i) r F).length = F.length := sweep_len _ _ _
  apply list_ext
  · rw [sweep_len]
    split
    · rw [List.length_set, la]
    · split
      · rw [List.length_set, la]
      · rw [la]
  · intro v hv
    rw [sweep_len] at hv
    rw [hs v hv, key v]
    have ev := hs0 v hv
    have key0 : stp (l.take i) r F v = if 0 ≤ F.getD v 0 then F.getD v 0 else if hit (l.take i) r F v = true then r + 1 else F.getD v 0 := rfl
    have keya : stp (l.take i) r F a = if 0 ≤ F.getD a 0 then F.getD a 0 else if hit (l.take i) r F a = true then r + 1 else F.getD a 0 := rfl
    have keyb : stp (l.take i) r F b = if 0 ≤ F.getD b 0 then F.getD b 0 else if hit (l.take i) r F b = true then r + 1 else F.getD b 0 := rfl
    by_cases c1 : (sweep (l.take i) r F).getD a 0 = r ∧ (sweep (l.take i) r F).getD b 0 < 0
    · rw [if_pos c1, getD_set (by omega), ev, key0]
      rw [ea, keya] at c1
      rw [eb, keyb] at c1
      by_cases hvb : v = b
      · subst hvb
        rw [if_pos rfl]
        grind
      · rw [if_neg hvb]
        by_cases hva : v = a
        · subst hva; grind
        · grind
    · rw [if_neg c1]
      rw [ea, keya, eb, keyb] at c1
      by_cases c2 : (sweep (l.take i) r F).getD b 0 = r ∧ (sweep (l.take i) r F).getD a 0 < 0
      · rw [if_pos c2, getD_set (by omega), ev, key0]
        rw [ea, keya, eb, keyb] at c2
        by_cases hva : v = a
        · subst hva
          rw [if_pos rfl]
          grind
        · rw [if_neg hva]
          grind
      · rw [if_neg c2, ev, key0]
        rw [ea, keya, eb, keyb] at c2
        by_cases hva : v = a
        · subst hva; grind
        · by_cases hvb : v = b
          · subst hvb; grind
          · grind
/-- The document's distances while they are told. -/
structure DS (w : World) (F : List Int) (W : World) : Prop where
  row : W.heap[w.heap.size]? = some (.cells (F.map iv).toArray 3 (0, 0))
  below : Below w.heap.size w W
theorem DS.at {w : World} {F : List Int} {W : World} (h : DS w F W) {v : Nat} (hv : v < F.length) : W.cell? ⟨w.heap.size, v, none⟩ = some (.int .i64 (F.getD v 0)) ∧ W.frozen? ⟨w.heap.size, v, none⟩ = false :=
  ⟨row_cell h.row v _ (by simp [List.getD_eq_getElem?_getD, hv]), row_free h.row v⟩
theorem DS.set {w : World} {F : List Int} {W : World} (h : DS w F W) (v : Nat) (x : Int) : DS w (F.set v x) (W.setCell ⟨w.heap.size, v, none⟩ (.int .i64 x)) :=
  ⟨by rw [set_row h.row]; simp [List.map_set], h.below.setCell (p := ⟨w.heap.size, v, none⟩) (Nat.le_refl _) _⟩
theorem rw1_set {i n : Nat} (h : i < n) : (rw1 i n).set i (-1) = rw1 (i + 1) n := by
  unfold rw1
  rw [List.set_append_right _ _ (by simp), List.length_replicate, Nat.sub_self, show n - i = (n - (i + 1)) + 1 by omega, List.replicate_succ, List.set_cons_zero, List.replicate_succ', List.append_assoc]
  rfl
end Go.Proofs.Ytpdmpekkmblgmaa
