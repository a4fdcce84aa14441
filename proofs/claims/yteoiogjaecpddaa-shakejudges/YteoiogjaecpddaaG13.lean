/-
  Package reg: which one of several registers comes out, however they are merged.
-/
import Derived.Test.YteoiogjaecpddaaF40
namespace Go.Proofs.Yteoiogjaecpddaa
set_option linter.unusedVariables false
set_option linter.unusedSimpArgs false

/-- a is newer than b. -/
def nw (a b : RS) : Bool := newB a.v a.p b.v b.p
theorem nw_iff (a b : RS) : nw a b = true ↔ b.v < a.v ∨ (a.v = b.v ∧ a.p < b.p) := by
  unfold nw newB aboveB
  by_cases h : a.v = b.v
  · simp [h]
  · simp [h]
theorem nw_self (a : RS) : nw a a = false := by
  cases h : nw a a
  · rfl
  · have := (nw_iff a a).1 h; omega
theorem mrg_self (a : RS) : mrg a a = a := by unfold mrg; split <;> rfl
theorem mrg_or (a b : RS) : mrg a b = a ∨ mrg a b = b := by unfold mrg; split <;> simp
/-- a is not older than b. -/
def ge (a b : RS) : Prop := nw b a = false
theorem ge_iff (a b : RS) : ge a b ↔ ¬ (a.v < b.v ∨ (b.v = a.v ∧ b.p < a.p)) := by
  unfold ge
  rw [← nw_iff]
  cases nw b a <;> simp
theorem ge_refl (a : RS) : ge a a := nw_self a
theorem ge_trans {a b c : RS} (h : ge a b) (k : ge b c) : ge a c := by rw [ge_iff] at *; omega
theorem mrg_fst (a b : RS) : ge (mrg a b) a := by
  unfold mrg
  split
  · rename_i h
    have := (nw_iff b a).1 h
    rw [ge_iff]; omega
  · exact ge_refl _
theorem mrg_snd (a b : RS) : ge (mrg a b) b := by
  unfold mrg
  split
  · exact ge_refl _
  · rename_i h
    show nw b a = false
    unfold nw
    simpa using h
/-- No two unlike ones have one stamp. -/
def Dis (l : List RS) (n : Nat) : Prop := ∀ x y, y < n → x < y → (l.getD x RS.z).v = (l.getD y RS.z).v → (l.getD x RS.z).p = (l.getD y RS.z).p → l.getD x RS.z = l.getD y RS.z
def In (l : List RS) (n : Nat) (m : RS) : Prop := ∃ x, x < n ∧ m = l.getD x RS.z
theorem dis_eq {l : List RS} {n : Nat} (h : Dis l n) {a b : RS} (ha : In l n a) (hb : In l n b) (h1 : ge a b) (h2 : ge b a) : a = b := by
  obtain ⟨x, hx, rfl⟩ := ha
  obtain ⟨y, hy, rfl⟩ := hb
  rw [ge_iff] at h1 h2
  rcases Nat.lt_trichotomy x y with c | c | c
  · exact h x y hy c (by omega) (by omega)
  · rw [c]
  · exact (h y x hx c (by omega) (by omega)).symm
def fm (l : List RS) (f n : Nat) : Nat → RS
  | 0 => l.getD f RS.z
  | j + 1 => mrg (l.getD ((f + j) % n) RS.z) (fm l f n j)
theorem fm_in (l : List RS) (f n : Nat) (hf : f < n) : ∀ j, In l n (fm l f n j)
  | 0 => ⟨f, hf, rfl⟩
  | j + 1 => by
    rcases mrg_or (l.getD ((f + j) % n) RS.z) (fm l f n j) with h | h
    · exact ⟨(f + j) % n, Nat.mod_lt _ (by omega), h⟩
    · obtain ⟨x, hx, e⟩ := fm_in l f n hf j
      exact ⟨x, hx, by show mrg _ _ = _; rw [h]; exact e⟩
theorem fm_ge (l : List RS) (f n : Nat) : ∀ j t, t < j → ge (fm l f n j) (l.getD ((f + t) % n) RS.z)
  | j + 1, t, h => by
    show ge (mrg _ _) _
    by_cases e : t = j
    · subst e; exact mrg_fst _ _
    · exact ge_trans (mrg_snd _ _) (fm_ge l f n j t (by omega))
theorem turn_place (f n i : Nat) (hf : f < n) (hi : i < n) : ∃ t, t < n ∧ (f + t) % n = i := by
  by_cases h : f ≤ i
  · exact ⟨i - f, by omega, by rw [show f + (i - f) = i by omega, Nat.mod_eq_of_lt hi]⟩
  · refine ⟨i + n - f, by omega, ?_⟩
    rw [show f + (i + n - f) = i + n by omega, Nat.add_mod_right, Nat.mod_eq_of_lt hi]
theorem fm_all (l : List RS) (f n i : Nat) (hf : f < n) (hi : i < n) : ge (fm l f n n) (l.getD i RS.z) := by
  obtain ⟨t, ht, e⟩ := turn_place f n i hf hi
  have := fm_ge l f n n t ht
  rwa [e] at this
theorem mo_in (l : List RS) (n : Nat) : ∀ j, j < n → In l n (mo l j)
  | 0, h => ⟨0, h, rfl⟩
  | j + 1, h => by
    rcases mrg_or (mo l j) (l.getD (j + 1) RS.z) with e | e
    · obtain ⟨x, hx, e'⟩ := mo_in l n j (by omega)
      exact ⟨x, hx, by show mrg _ _ = _; rw [e]; exact e'⟩
    · exact ⟨j + 1, h, e⟩
theorem mo_ge (l : List RS) : ∀ j t, t ≤ j → ge (mo l j) (l.getD t RS.z)
  | 0, t, h => by obtain rfl : t = 0 := by omega
                  exact ge_refl _
  | j + 1, t, h => by
    show ge (mrg _ _) _
    by_cases e : t = j + 1
    · subst e; exact mrg_snd _ _
    · exact ge_trans (mrg_fst _ _) (mo_ge l j t (by omega))
theorem mof_fm (l : List RS) (f n : Nat) (hl : l.length = n) (hf : f < n) (h : Dis l n) : mof l = fm l f n n := by
  unfold mof
  rw [if_neg (by omega)]
  refine dis_eq h (mo_in l n _ (by omega)) (fm_in l f n hf n) ?_ ?_
  · obtain ⟨x, hx, e⟩ := fm_in l f n hf n
    rw [e]
    exact mo_ge l _ x (by omega)
  · obtain ⟨x, hx, e⟩ := mo_in l n (l.length - 1) (by omega)
    rw [e]
    exact fm_all l f n x hf hx
theorem most_new (l : List RS) (f n i : Nat) (hf : f < n) (hi : i < n) : nw (l.getD i RS.z) (fm l f n n) = false := fm_all l f n i hf hi
theorem most_mrg (l : List RS) (f n i : Nat) (hf : f < n) (hi : i < n) (h : Dis l n) : mrg (l.getD i RS.z) (fm l f n n) = fm l f n n ∧ mrg (fm l f n n) (l.getD i RS.z) = fm l f n n := by
  have h1 := most_new l f n i hf hi
  refine ⟨?_, by unfold mrg; rw [if_neg]; have : newB _ _ _ _ = false := h1; rw [this]; decide⟩
  unfold mrg
  split
  · rfl
  · rename_i hn
    have hn' : ge (l.getD i RS.z) (fm l f n n) := by show nw _ _ = false; unfold nw; simpa using hn
    exact dis_eq h ⟨i, hi, rfl⟩ (fm_in l f n hf n) hn' h1
/-- One round more of the search for two of one stamp. -/
theorem dis_succ {l : List RS} {i : Nat} (h : Dis l i) (k : ∀ x, x < i → (l.getD x RS.z).v = (l.getD i RS.z).v → (l.getD x RS.z).p = (l.getD i RS.z).p → l.getD x RS.z = l.getD i RS.z) : Dis l (i + 1) := by
  intro x y hy hx h1 h2
  by_cases e : y = i
  · subst e; exact k x hx h1 h2
  · exact h x y (by omega) hx h1 h2
end Go.Proofs.Yteoiogjaecpddaa
