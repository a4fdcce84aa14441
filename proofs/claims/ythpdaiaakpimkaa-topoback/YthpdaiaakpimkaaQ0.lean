/-
  Package topo: the mathematics of Link and Unlink.
-/
import Derived.Test.YthpdaiaakpimkaaW1
namespace Go.Proofs.Ythpdaiaakpimkaa
open Go.ChangeShapes Go.WideShapes Go.ChangeAt Go.RowKit
set_option linter.unusedVariables false
set_option linter.unusedSimpArgs false

theorem Ft_iff {id : Int} {l : List Int} {t : Int} : Ft id l t ↔ nd id = true ∧ l.length ≤ 6 ∧ 0 ≤ t ∧ (t < (l.length : Int) ∨ t = 0) ∧ ∀ i, i < l.length → nd (l.getD i 0) = true ∧ l.getD i 0 ≠ id ∧ ix (l.getD i 0) l = i := by
  unfold Ft
  constructor
  · rintro ⟨h1, h2, h3, h4, h5⟩
    refine ⟨h1, h2, h3, h4, fun i hi => ?_⟩
    have := (fit_at hi h2 rfl).1 (h5 i hi)
    exact ⟨this.1, this.2.1, (px_at hi).1 this.2.2⟩
  · rintro ⟨h1, h2, h3, h4, h5⟩
    refine ⟨h1, h2, h3, h4, fun i hi => ?_⟩
    have := h5 i hi
    exact (fit_at hi h2 rfl).2 ⟨this.1, this.2.1, (px_at hi).2 this.2.2⟩
theorem Nd.inj {l : List Int} (h : Nd l) {i j : Nat} (hi : i < l.length) (hj : j < l.length) (e : l.getD i 0 = l.getD j 0) : i = j := by
  have h1 := h i hi
  have h2 := h j hj
  rw [e] at h1
  omega
theorem nd_of {l : List Int} (h : ∀ i j, i < j → j < l.length → l.getD i 0 ≠ l.getD j 0) : Nd l := by
  intro j hj
  exact ix_at hj (fun i hi => h i j hi hj) rfl
theorem getD_snoc {l : List Int} {v : Int} {i : Nat} : (l ++ [v]).getD i 0 = if i < l.length then l.getD i 0 else if i = l.length then v else 0 := by
  rw [List.getD_eq_getElem?_getD, List.getD_eq_getElem?_getD, List.getElem?_append]
  split
  · rfl
  · rename_i h
    split
    · rename_i h2; subst h2; simp
    · rename_i h2
      rw [List.getElem?_eq_none (by simp; omega)]
      rfl
theorem hs_false {v : Int} {l : List Int} (h : hs v l = false) {i : Nat} (hi : i < l.length) : l.getD i 0 ≠ v := by
  unfold hs at h
  have h1 : ¬ ix v l < l.length := by simpa using h
  exact ix_ne (by omega)
/-- Linked, the list is fit. -/
theorem link_fit {id : Int} {l : List Int} {t v : Int} (h : Ft id l t) (hr : rf id l v = 0) : Ft id (l ++ [v]) t := by
  rw [Ft_iff] at h ⊢
  obtain ⟨h1, h2, h3, h4, h5⟩ := h
  obtain ⟨r1, r2, r3, r4⟩ := rf_zero.1 hr
  refine ⟨h1, by simp; omega, h3, by rw [List.length_append]; simp; omega, fun i hi => ?_⟩
  have hi' : i < l.length + 1 := by simpa using hi
  have hN : Nd (l ++ [v]) := by
    apply nd_of
    intro a b hab hb
    have hb' : b < l.length + 1 := by simpa using hb
    rw [getD_snoc, getD_snoc, if_pos (by omega)]
    by_cases hbl : b < l.length
    · rw [if_pos hbl]
      intro e
      have h6 := (h5 a (by omega)).2.2
      have h7 := (h5 b hbl).2.2
      rw [e] at h6
      omega
    · rw [if_neg hbl, if_pos (by omega)]
      exact hs_false r3 (by omega)
  have hx := hN i hi
  refine ⟨?_, ?_, hx⟩
  · rw [getD_snoc]
    by_cases hil : i < l.length
    · rw [if_pos hil]; exact (h5 i hil).1
    · rw [if_neg hil, if_pos (by omega)]; exact r1
  · rw [getD_snoc]
    by_cases hil : i < l.length
    · rw [if_pos hil]; exact (h5 i hil).2.1
    · rw [if_neg hil, if_pos (by omega)]; exact r2
theorem ix_snoc {v : Int} {l : List Int} (h : hs v l = false) : ix v (l ++ [v]) = l.length := by
  refine ix_at (by simp) (fun j hj => ?_) ?_
  · rw [getD_snoc, if_pos hj]; exact hs_false h hj
  · rw [getD_snoc, if_neg (by omega), if_pos rfl]
theorem hs_snoc {v : Int} {l : List Int} (h : hs v l = false) : hs v (l ++ [v]) = true := by
  unfold hs
  rw [ix_snoc h]
  simp
/-- And back. -/
theorem un_snoc {l : List Int} {t : Nat} {v : Int} (ht : t < l.length ∨ t = 0) (h : hs v l = false) : un (l ++ [v]) t v = (l, (t : Int), 0) := by
  have hx := ix_snoc h
  unfold un
  rw [if_pos (by rw [hx]; simp)]
  have h1 : unL (l ++ [v]) v = l := by unfold unL; rw [hx]; simp
  have h2 : unT (l ++ [v]) t v = t := by
    unfold unT
    rw [hx]
    simp only [if_neg (show ¬ l.length < t by omega), List.length_append, List.length_cons, List.length_nil, Nat.zero_add, Nat.add_sub_cancel]
    split <;> omega
  rw [h1, h2]
theorem getD_unL {l : List Int} {v : Int} (h : ix v l < l.length) {j : Nat} : (unL l v).getD j 0 = if j < ix v l then l.getD j 0 else l.getD (j + 1) 0 := by
  unfold unL
  rw [List.getD_eq_getElem?_getD, List.getElem?_append]
  have hl : (l.take (ix v l)).length = ix v l := by simp; omega
  rw [hl]
  split
  · rename_i h1
    rw [List.getElem?_take, if_pos h1, List.getD_eq_getElem?_getD]
  · rename_i h1
    rw [List.getElem?_drop, List.getD_eq_getElem?_getD, show ix v l + 1 + (j - ix v l) = j + 1 by omega]
/-- The place in the list of what stands at a place of what is left. -/
def bk (k j : Nat) : Nat := if j < k then j else j + 1
theorem getD_bk {l : List Int} {v : Int} (h : ix v l < l.length) {j : Nat} : (unL l v).getD j 0 = l.getD (bk (ix v l) j) 0 := by
  rw [getD_unL h]
  unfold bk
  split <;> rfl
theorem unT_lt {l : List Int} {t : Nat} {v : Int} (ht : t < l.length) (h : ix v l < l.length) : unT l t v < l.length - 1 ∨ unT l t v = 0 := by
  unfold unT
  by_cases h1 : ix v l < t
  · simp only [if_pos h1]
    split <;> omega
  · simp only [if_neg h1]
    split <;> omega
theorem unL_nd {l : List Int} {v : Int} (hn : Nd l) (h : ix v l < l.length) : Nd (unL l v) := by
  apply nd_of
  intro a b hab hb
  rw [unL_len h] at hb
  rw [getD_bk h, getD_bk h]
  intro e
  have := hn.inj (by unfold bk; split <;> omega) (by unfold bk; split <;> omega) e
  unfold bk at this
  split at this <;> split at this <;> omega
/-- Unlinked, the list is fit. -/
theorem unlink_fit {id : Int} {l : List Int} {t : Nat} {v : Int} (hf : Ft id l (t : Int)) (h : ix v l < l.length) : Ft id (unL l v) (unT l t v : Int) := by
  have hn := hf.nd
  have hN := unL_nd hn h
  rw [Ft_iff] at hf ⊢
  obtain ⟨h1, h2, h3, h4, h5⟩ := hf
  have ht := unT_lt (t := t) (by omega) h
  refine ⟨h1, by rw [unL_len h]; omega, by omega, by rw [unL_len h]; omega, fun i hi => ?_⟩
  have hx := hN i hi
  rw [unL_len h] at hi
  refine ⟨?_, ?_, hx⟩
  · rw [getD_bk h]; exact (h5 _ (by unfold bk; split <;> omega)).1
  · rw [getD_bk h]; exact (h5 _ (by unfold bk; split <;> omega)).2.1
theorem hs_unL {l : List Int} {v : Int} (hn : Nd l) (h : ix v l < l.length) : hs v (unL l v) = false := by
  unfold hs
  rw [decide_eq_false_iff_not]
  intro h2
  have h3 := ix_get h2
  rw [unL_len h] at h2
  rw [getD_bk h] at h3
  have h4 := ix_get h
  have := hn.inj (by unfold bk; split <;> omega) h (h3.trans h4.symm)
  unfold bk at this
  split at this <;> omega
/-- Nobody waits longer. -/
theorem ds_cut {k j L t : Nat} (hk : k < L) (ht : t < L) (hj : j < L - 1) : ds j (L - 1) (if (if k < t then t - 1 else t) = L - 1 then 0 else (if k < t then t - 1 else t)) = ds (bk k j) L t ∨ ds j (L - 1) (if (if k < t then t - 1 else t) = L - 1 then 0 else (if k < t then t - 1 else t)) + 1 = ds (bk k j) L t := by
  obtain ⟨q, hq⟩ : ∃ q, (if (if k < t then t - 1 else t) = L - 1 then 0 else (if k < t then t - 1 else t)) = q := ⟨_, rfl⟩
  rw [hq]
  have hqL : q < L - 1 := by
    rw [← hq]
    by_cases h1 : k < t
    · simp only [if_pos h1]
      split <;> omega
    · simp only [if_neg h1]
      split <;> omega
  unfold ds bk
  rw [md (show j + (L - 1) - q < 2 * (L - 1) by omega), md (show (if j < k then j else j + 1) + L - t < 2 * L by split <;> omega)]
  by_cases h1 : k < t
  · simp only [if_pos h1] at hq
    split at hq <;> split <;> split <;> split <;> omega
  · simp only [if_neg h1] at hq
    split at hq <;> split <;> split <;> split <;> omega
theorem wt_cut {l : List Int} {t : Nat} {v : Int} (hn : Nd l) (ht : t < l.length) (h : ix v l < l.length) {j : Nat} (hj : j < l.length - 1) :
    wt (unL l v) (unT l t v) ((unL l v).getD j 0) = wt l t ((unL l v).getD j 0) ∨ wt (unL l v) (unT l t v) ((unL l v).getD j 0) = wt l t ((unL l v).getD j 0) - 1 := by
  have h1 : ix ((unL l v).getD j 0) (unL l v) = j := unL_nd hn h j (by rw [unL_len h]; exact hj)
  have hb : bk (ix v l) j < l.length := by unfold bk; split <;> omega
  have h2 : ix ((unL l v).getD j 0) l = bk (ix v l) j := by rw [getD_bk h]; exact hn _ hb
  have hc := ds_cut h ht hj
  rw [show wt (unL l v) (unT l t v) ((unL l v).getD j 0) = (ds j (l.length - 1) (unT l t v) : Int) + 1 from by unfold wt; rw [h1, unL_len h, if_pos hj]]
  rw [show wt l t ((unL l v).getD j 0) = (ds (bk (ix v l) j) l.length t : Int) + 1 from by unfold wt; rw [h2, if_pos hb]]
  have he : unT l t v = (if (if ix v l < t then t - 1 else t) = l.length - 1 then 0 else (if ix v l < t then t - 1 else t)) := rfl
  rw [he]
  omega
end Go.Proofs.Ythpdaiaakpimkaa
