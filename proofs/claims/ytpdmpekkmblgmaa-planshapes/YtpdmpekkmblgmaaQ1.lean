/-
  The search ring by ring: its mathematics.
-/
import Derived.Test.YtpdmpekkmblgmaaP2b
namespace Go.Proofs.Ytpdmpekkmblgmaa
open Go.ChangeShapes Go.WideShapes Go.ChangeAt Go.RowKit Go.Maps Go.Shelf
set_option linter.unusedVariables false
set_option linter.unusedSimpArgs false

/-- Is a node at distance r beside v? -/
def hit (l : List LK) (r : Int) (F : List Int) (v : Nat) : Bool := (nbs l (v : Int)).any fun u => decide (F.getD u.toNat 0 = r)
/-- What v's distance is behind the r-th ring. -/
def stp (l : List LK) (r : Int) (F : List Int) (v : Nat) : Int := if 0 ≤ F.getD v 0 then F.getD v 0 else if hit l r F v = true then r + 1 else F.getD v 0
def sweep (l : List LK) (r : Int) (F : List Int) : List Int := (List.range F.length).map (stp l r F)
def mix (l : List LK) (r : Int) (F : List Int) (v : Nat) : List Int := (sweep l r F).take v ++ F.drop v
def fur (l : List LK) (r : Int) (F : List Int) (v : Nat) : Bool := (List.range v).any fun j => decide (F.getD j 0 < 0) && hit l r F j
theorem sweep_len (l : List LK) (r : Int) (F : List Int) : (sweep l r F).length = F.length := by simp [sweep]
theorem sweep_at {l : List LK} {r : Int} {F : List Int} {v : Nat} (h : v < F.length) : (sweep l r F).getD v 0 = stp l r F v := by
  rw [List.getD_eq_getElem?_getD]
  simp [sweep, h]
theorem mix_len {l : List LK} {r : Int} {F : List Int} {v : Nat} (h : v ≤ F.length) : (mix l r F v).length = F.length := by
  simp [mix, sweep_len]
  omega
theorem mix_zero (l : List LK) (r : Int) (F : List Int) : mix l r F 0 = F := by simp [mix]
theorem mix_all (l : List LK) (r : Int) (F : List Int) : mix l r F F.length = sweep l r F := by
  unfold mix
  rw [List.drop_length, List.append_nil, List.take_of_length_le (by rw [sweep_len]; exact Nat.le_refl _)]
theorem mix_ge {l : List LK} {r : Int} {F : List Int} {v j : Nat} (hv : v ≤ F.length) (h : v ≤ j) : (mix l r F v).getD j 0 = F.getD j 0 := by
  unfold mix
  have hl : ((sweep l r F).take v).length = v := by rw [List.length_take, sweep_len]; omega
  rw [List.getD_eq_getElem?_getD, List.getElem?_append_right (by omega), hl, List.getElem?_drop, show v + (j - v) = j by omega, ← List.getD_eq_getElem?_getD]
theorem mix_lt {l : List LK} {r : Int} {F : List Int} {v j : Nat} (hv : v ≤ F.length) (h : j < v) : (mix l r F v).getD j 0 = stp l r F j := by
  unfold mix
  have hl : ((sweep l r F).take v).length = v := by rw [List.length_take, sweep_len]; omega
  rw [List.getD_eq_getElem?_getD, List.getElem?_append_left (by omega), List.getElem?_take, if_pos h, ← List.getD_eq_getElem?_getD, sweep_at (by omega)]
theorem mix_succ {l : List LK} {r : Int} {F : List Int} {v : Nat} (hv : v < F.length) : mix l r F (v + 1) = (mix l r F v).set v (stp l r F v) := by
  apply List.ext_getElem?
  intro j
  have e1 : (mix l r F (v + 1)).length = F.length := mix_len (by omega)
  have e2 : (mix l r F v).length = F.length := mix_len (by omega)
  by_cases hj : j < F.length
  · have h1 : (mix l r F (v + 1))[j]? = some ((mix l r F (v + 1)).getD j 0) := by rw [List.getD_eq_getElem?_getD, List.getElem?_eq_getElem (by omega)]; rfl
    have h2 : ((mix l r F v).set v (stp l r F v))[j]? = some (((mix l r F v).set v (stp l r F v)).getD j 0) := by rw [List.getD_eq_getElem?_getD, List.getElem?_eq_getElem (by rw [List.length_set]; omega)]; rfl
    rw [h1, h2]
    congr 1
    by_cases hjv : j = v
    · subst hjv
      rw [mix_lt (by omega) (by omega), List.getD_eq_getElem?_getD, List.getElem?_set_self (by omega)]
      rfl
    · rw [List.getD_eq_getElem?_getD (l := List.set _ _ _), List.getElem?_set_ne (by omega), ← List.getD_eq_getElem?_getD]
      by_cases hlt : j < v
      · rw [mix_lt (by omega) (by omega), mix_lt (by omega) hlt]
      · rw [mix_ge (by omega) (by omega), mix_ge (by omega) (by omega)]
  · rw [List.getElem?_eq_none (by omega), List.getElem?_eq_none (by rw [List.length_set]; omega)]
theorem stp_r {l : List LK} {r : Int} {F : List Int} {j : Nat} (hr : 0 ≤ r) : stp l r F j = r ↔ F.getD j 0 = r := by
  unfold stp
  split
  · exact Iff.rfl
  · split <;> constructor <;> intro h <;> omega
theorem mix_r {l : List LK} {r : Int} {F : List Int} {v : Nat} (hv : v ≤ F.length) (hr : 0 ≤ r) (u : Nat) : (mix l r F v).getD u 0 = r ↔ F.getD u 0 = r := by
  by_cases h : u < v
  · rw [mix_lt hv h, stp_r hr]
  · rw [mix_ge hv (by omega)]
theorem set_same {F : List Int} {v : Nat} (h : v < F.length) : F.set v (F.getD v 0) = F := by
  apply List.ext_getElem?
  intro j
  by_cases e : v = j
  · subst e
    rw [List.getElem?_set_self h, List.getD_eq_getElem?_getD, List.getElem?_eq_getElem h]
    rfl
  · rw [List.getElem?_set_ne e]
/-- v stays as it is. -/
theorem mix_stay {l : List LK} {r : Int} {F : List Int} {v : Nat} (hv : v < F.length) (h : stp l r F v = F.getD v 0) : mix l r F (v + 1) = mix l r F v := by
  rw [mix_succ hv, h, ← mix_ge (l := l) (r := r) (v := v) (by omega) (Nat.le_refl _)]
  exact set_same (by rw [mix_len (by omega)]; exact hv)
theorem fur_succ (l : List LK) (r : Int) (F : List Int) (v : Nat) : fur l r F (v + 1) = (fur l r F v || (decide (F.getD v 0 < 0) && hit l r F v)) := by
  simp [fur, List.range_succ]
theorem hit_yes {l : List LK} {r : Int} {F : List Int} {v : Nat} {u : Int} (hu : u ∈ nbs l (v : Int)) (h : F.getD u.toNat 0 = r) : hit l r F v = true := by
  unfold hit
  rw [List.any_eq_true]
  exact ⟨u, hu, by simpa using h⟩
theorem hit_no {l : List LK} {r : Int} {F : List Int} {v : Nat} (h : ∀ u ∈ nbs l (v : Int), F.getD u.toNat 0 ≠ r) : hit l r F v = false := by
  unfold hit
  rw [List.any_eq_false]
  intro u hu
  simpa using h u hu
theorem hit_iff {l : List LK} {r : Int} {F : List Int} {v : Nat} : hit l r F v = true ↔ ∃ u ∈ nbs l (v : Int), F.getD u.toNat 0 = r := by
  unfold hit
  rw [List.any_eq_true]
  constructor
  · rintro ⟨u, h1, h2⟩; exact ⟨u, h1, by simpa using h2⟩
  · rintro ⟨u, h1, h2⟩; exact ⟨u, h1, by simpa using h2⟩
/-- How many are not reached. -/
def neg (F : List Int) : Nat := F.countP fun x => decide (x < 0)
theorem countP_lt {α : Type} {p q : α → Bool} {l : List α} (h : ∀ x ∈ l, q x = true → p x = true) (hx : ∃ x ∈ l, p x = true ∧ q x = false) : l.countP q < l.countP p := by
  induction l with
  | nil => obtain ⟨x, hx, _⟩ := hx; cases hx
  | cons a l ih =>
    have hm : l.countP q ≤ l.countP p := List.countP_mono_left fun x hx => h x (.tail _ hx)
    rw [List.countP_cons, List.countP_cons]
    obtain ⟨x, hx, h1, h2⟩ := hx
    rcases List.mem_cons.1 hx with rfl | hx
    · rw [h1, h2]; simp; omega
    · have := ih (fun x hx => h x (.tail _ hx)) ⟨x, hx, h1, h2⟩
      have ha := h a (.head _)
      cases hq : q a with
      | true => rw [ha hq]; simp; omega
      | false => simp; omega
theorem neg_range (F : List Int) : neg F = (List.range F.length).countP fun v => decide (F.getD v 0 < 0) := by
  unfold neg
  have e : F = (List.range F.length).map fun v => F.getD v 0 := by
    apply List.ext_getElem?
    intro j
    by_cases h : j < F.length
    · simp [h, List.getD_eq_getElem?_getD]
    · rw [List.getElem?_eq_none (by omega), List.getElem?_eq_none (by simp; omega)]
  conv => lhs; rw [e]
  rw [List.countP_map]
  rfl
theorem neg_sweep {l : List LK} {r : Int} {F : List Int} (hr : 0 ≤ r) (h : fur l r F F.length = true) : neg (sweep l r F) < neg F := by
  rw [neg_range, neg_range F, sweep_len]
  unfold fur at h
  rw [List.any_eq_true] at h
  obtain ⟨j, hj, h1⟩ := h
  rw [Bool.and_eq_true] at h1
  refine countP_lt (fun v hv hq => ?_) ⟨j, hj, h1.1, ?_⟩
  · rw [sweep_at (List.mem_range.1 hv)] at hq
    unfold stp at hq
    split at hq
    · simpa using hq
    · simpa using (show F.getD v 0 < 0 by omega)
  · rw [sweep_at (List.mem_range.1 hj)]
    unfold stp
    have : F.getD j 0 < 0 := by simpa using h1.1
    rw [if_neg (by omega), if_pos h1.2]
    simp
    omega
theorem sweep_still {l : List LK} {r : Int} {F : List Int} (h : fur l r F F.length = false) : sweep l r F = F := by
  rw [← mix_all]
  have go : ∀ v, v ≤ F.length → mix l r F v = F := by
    intro v
    induction v with
    | zero => intro _; exact mix_zero l r F
    | succ v ih =>
      intro hv
      rw [mix_stay (by omega), ih (by omega)]
      unfold fur at h
      rw [List.any_eq_false] at h
      have := h v (List.mem_range.2 (by omega))
      unfold stp
      split
      · rfl
      · rw [if_neg]
        intro hh
        rw [hh, Bool.and_true, decide_eq_true_eq] at this
        omega
  exact go _ (Nat.le_refl _)
/-- Behind so many rings. -/
def lev (l : List LK) (F : List Int) : Nat → List Int
  | 0 => F
  | r + 1 => sweep l (r : Int) (lev l F r)
theorem lev_len (l : List LK) (F : List Int) (r : Nat) : (lev l F r).length = F.length := by
  induction r with
  | zero => rfl
  | succ r ih => rw [lev, sweep_len, ih]
theorem lev_le {l : List LK} {F : List Int} (h : ∀ v, F.getD v 0 ≤ 0) (r : Nat) : ∀ v, (lev l F r).getD v 0 ≤ (r : Int) := by
  induction r with
  | zero => exact h
  | succ r ih =>
    intro v
    by_cases hv : v < F.length
    · rw [lev, sweep_at (by rw [lev_len]; exact hv)]
      unfold stp
      have := ih v
      split
      · omega
      · split <;> omega
    · rw [List.getD_eq_getElem?_getD, List.getElem?_eq_none (by rw [lev_len]; omega)]
      simp
      omega
/-- Where nobody has come to, nobody comes to any more. -/
theorem lev_stays {l : List LK} {F : List Int} (h : ∀ v, F.getD v 0 ≤ 0) {R : Nat} (hR : lev l F (R + 1) = lev l F R) (k : Nat) : lev l F (R + k) = lev l F R := by
  induction k with
  | zero => rfl
  | succ k ih =>
    by_cases hk : k = 0
    · subst hk; exact hR
    · rw [← Nat.add_assoc, lev, ih]
      refine sweep_still ?_
      unfold fur
      rw [List.any_eq_false]
      intro v hv
      rw [hit_no (fun u _ e => by
        have := lev_le (l := l) h R u.toNat
        omega)]
      simp
end Go.Proofs.Ytpdmpekkmblgmaa
