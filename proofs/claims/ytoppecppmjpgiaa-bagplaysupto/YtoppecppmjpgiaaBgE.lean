/-
  Package bag: where toward looks (halves), as lists.
-/
import Derived.Test.YtoppecppmjpgiaaBg9
namespace Go.Proofs.Ytoppecppmjpgiaa
set_option linter.unusedVariables false

/-- The packets lie in their order. -/
def Asc (ds : List DG) : Prop := ds.Pairwise (fun a b => a.num < b.num)
/-- The places that toward hands out, one after another. -/
def probes (ds : List DG) (num : Int) : Nat → Nat → Nat → List (Nat × DG)
  | 0, _, _ => []
  | f + 1, lo, hi => if lo < hi then (lo + (hi - lo) / 2, ds.getD (lo + (hi - lo) / 2) DG.z) :: (if (ds.getD (lo + (hi - lo) / 2) DG.z).num < num then probes ds num f (lo + (hi - lo) / 2 + 1) hi else probes ds num f lo (lo + (hi - lo) / 2)) else []
theorem probes_end (ds : List DG) (num : Int) (f lo hi : Nat) (h : ¬ lo < hi) : probes ds num f lo hi = [] := by
  cases f with
  | zero => rfl
  | succ f => unfold probes; rw [if_neg h]
theorem probes_in (ds : List DG) (num : Int) : ∀ (f lo hi : Nat) (q : Nat × DG), q ∈ probes ds num f lo hi → lo ≤ q.1 ∧ q.1 < hi ∧ q.2 = ds.getD q.1 DG.z
  | 0, lo, hi, q, h => by cases h
  | f + 1, lo, hi, q, h => by
    unfold probes at h
    split at h
    · rename_i hl
      rcases List.mem_cons.1 h with rfl | h
      · exact ⟨by show lo ≤ lo + _; omega, by show lo + _ < hi; omega, rfl⟩
      · split at h
        · obtain ⟨a, b, c⟩ := probes_in ds num f _ _ q h
          exact ⟨by omega, b, c⟩
        · obtain ⟨a, b, c⟩ := probes_in ds num f _ _ q h
          exact ⟨a, by omega, c⟩
    · cases h
theorem asc_lt {ds : List DG} (h : Asc ds) {i j : Nat} (hj : j < ds.length) (hij : i < j) : (ds.getD i DG.z).num < (ds.getD j DG.z).num := by
  have := List.pairwise_iff_getElem.1 h i j (by omega) hj hij
  simpa [List.getD_eq_getElem?_getD, List.getElem?_eq_getElem hj, List.getElem?_eq_getElem (show i < ds.length by omega)] using this
/-- What is there is found. -/
theorem probes_find {ds : List DG} (h : Asc ds) (num : Int) (j : Nat) (hn : (ds.getD j DG.z).num = num) : ∀ (f lo hi : Nat), hi - lo ≤ f → lo ≤ j → j < hi → hi ≤ ds.length → (j, ds.getD j DG.z) ∈ probes ds num f lo hi
  | 0, lo, hi, hf, h1, h2, _ => by omega
  | f + 1, lo, hi, hf, h1, h2, h3 => by
    unfold probes
    rw [if_pos (by omega)]
    by_cases he : j = lo + (hi - lo) / 2
    · rw [← he]; exact List.mem_cons_self
    · refine List.mem_cons_of_mem _ ?_
      split
      · rename_i hlt
        have : lo + (hi - lo) / 2 < j := by
          rcases Nat.lt_or_gt_of_ne he with h' | h'
          · have := asc_lt h (i := j) (j := lo + (hi - lo) / 2) (by omega) h'
            omega
          · exact h'
        exact probes_find h num j hn f _ _ (by omega) (by omega) h2 h3
      · rename_i hge
        have : j < lo + (hi - lo) / 2 := by
          rcases Nat.lt_or_gt_of_ne he with h' | h'
          · exact h'
          · have := asc_lt h (i := lo + (hi - lo) / 2) (j := j) (by omega) h'
            omega
        exact probes_find h num j hn f _ _ (by omega) h1 this (by omega)
theorem asc_erase {ds : List DG} (h : Asc ds) (i : Nat) : Asc (ds.eraseIdx i) := List.Pairwise.sublist (List.eraseIdx_sublist ds i) h
theorem asc_filter {ds : List DG} (h : Asc ds) (p : DG → Bool) : Asc (ds.filter p) := List.Pairwise.sublist List.filter_sublist h
theorem asc_snoc {ds : List DG} (h : Asc ds) (d : DG) (hd : ∀ e ∈ ds, e.num < d.num) : Asc (ds ++ [d]) := by
  refine List.pairwise_append.2 ⟨h, List.pairwise_singleton _ _, fun a ha b hb => ?_⟩
  rw [List.mem_singleton.1 hb]
  exact hd a ha
end Go.Proofs.Ytoppecppmjpgiaa
