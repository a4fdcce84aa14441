/-
  Terms put together again: the fraction of a fraction's terms is the fraction; and terms beyond 2^31 give ErrRange whoever reckons.
-/
import Derived.Test.YtonndlhppihdiaaDoorFrom
import Derived.Test.YtonndlhppihdiaaDoorRatio
import Derived.Test.YtonndlhppihdiaaDoorEnv
import Derived.Test.YtonndlhppihdiaaDoorWholes
namespace Go.Proofs.YtonndlhppihdiaaDoor
open Go.ChangeShapes Go.WideShapes Go.ChangeAt Go.RowKit
set_option linter.unusedVariables false
set_option linter.unusedSimpArgs false

theorem valid_parts {n d : Int} (h : validB n d = true) : Sm n ∧ 0 < d ∧ d ≤ 2147483647 ∧ mkG n d = 1 := by
  unfold validB at h
  rw [decide_eq_true_eq] at h
  unfold Sm
  omega
theorem valid_of {n d : Int} (h : Sm n) (h1 : 0 < d) (h2 : d ≤ 2147483647) (h3 : mkG n d = 1) : validB n d = true := by
  unfold validB
  rw [decide_eq_true_eq]
  unfold Sm at h
  omega
theorem g_step (t n d : Int) : mkG (t * n + d) n = mkG n d := by
  unfold mkG sz
  have := Int.gcd_mul_right_add_left n d t
  rw [Int.gcd_comm d n] at this
  exact this
theorem g_mod (n d : Int) : mkG n d = mkG d (n % d) := by
  have h : n = (n / d) * d + n % d := by have := Int.mul_ediv_add_emod n d; rw [Int.mul_comm] at this; omega
  have := g_step (n / d) d (n % d)
  rw [← h] at this
  exact this

/-- A term beyond 2^31 ahead of a fraction that is 1 or more: beyond the range. -/
theorem on_big {t n d : Int} (hn : 0 < d) (hd : d ≤ n) (hg : mkG n d = 1) (ht : 2147483648 < sz t) : mkE (t * n + d) n = 10 ∧ mkN (t * n + d) n = 0 ∧ mkD (t * n + d) n = 0 := by
  have h0 : n ≠ 0 := by omega
  have hG : mkG (t * n + d) n = 1 := by rw [g_step]; exact hg
  have hT : 2147483647 < mkT (t * n + d) n := by
    unfold mkT
    rw [hG, Nat.div_one]
    have hA : (t * n).natAbs = t.natAbs * n.natAbs := Int.natAbs_mul t n
    have hM : 2147483649 * n.natAbs ≤ t.natAbs * n.natAbs := Nat.mul_le_mul_right _ (by unfold sz at ht; omega)
    unfold sz
    omega
  have hE : mkE (t * n + d) n = 10 := by unfold mkE bigB; simp [h0, hT]
  exact ⟨hE, by simp [mkN, hE], by simp [mkD, hE]⟩
/-- What comes of one term more, reckoned at once. -/
theorem on_eq {t n d : Int} (hn : 0 < d) (hd : d ≤ n) (hg : mkG n d = 1) : (onN t n d, onD t n d, onE t n d) = (mkN (t * n + d) n, mkD (t * n + d) n, mkE (t * n + d) n) := by
  unfold onN onD onE
  split
  · rename_i h
    have := on_big hn hd hg h
    rw [this.1, this.2.1, this.2.2]
  · rfl

theorem fromL_two (x y : Int) (r : List Int) : fromL (x :: y :: r) = if (fromL (y :: r)).2.2 = 0 then (onN x (fromL (y :: r)).1 (fromL (y :: r)).2.1, onD x (fromL (y :: r)).1 (fromL (y :: r)).2.1, onE x (fromL (y :: r)).1 (fromL (y :: r)).2.1) else fromL (y :: r) := rfl
theorem fromL_zero : ∀ l : List Int, (fromL l).2.2 ≠ 0 → (fromL l).1 = 0 ∧ (fromL l).2.1 = 0
  | [], _ => ⟨rfl, rfl⟩
  | [x], h => by simp only [fromL] at h ⊢; exact ⟨by simp [mkN, h], by simp [mkD, h]⟩
  | x :: y :: r, h => by
    rw [fromL_two] at h ⊢
    by_cases e : (fromL (y :: r)).2.2 = 0
    · rw [if_pos e] at h ⊢
      simp only [onN, onD, onE] at h ⊢
      by_cases c : 2147483648 < sz x
      · simp [c]
      · simp only [c, if_false] at h ⊢
        exact ⟨by simp [mkN, h], by simp [mkD, h]⟩
    · rw [if_neg e] at h ⊢
      exact fromL_zero _ h

theorem fromL_pos : ∀ l : List Int, l ≠ [] → (∀ x ∈ l, 1 ≤ x) → (fromL l).2.2 = 0 → validB (fromL l).1 (fromL l).2.1 = true ∧ (fromL l).2.1 ≤ (fromL l).1
  | [], h, _, _ => absurd rfl h
  | [x], _, hx, he => by
    simp only [fromL] at he ⊢
    have h1 := hx x (by simp)
    have := mk_eq he
    have e : mkN x 1 = x * mkD x 1 := by omega
    have k := Int.mul_le_mul_of_nonneg_right h1 (by omega : 0 ≤ mkD x 1)
    exact ⟨mk_valid he, by omega⟩
  | x :: y :: r, _, hx, he => by
    rw [fromL_two] at he ⊢
    by_cases e : (fromL (y :: r)).2.2 = 0
    · rw [if_pos e] at he ⊢
      obtain ⟨v, h⟩ := fromL_pos (y :: r) (by simp) (fun z hz => hx z (List.mem_cons_of_mem _ hz)) e
      obtain ⟨v1, v2, v3, v4⟩ := valid_parts v
      have q := on_eq (t := x) v2 h v4
      simp only [Prod.mk.injEq] at q
      simp only at he ⊢
      rw [q.1, q.2.1]
      rw [q.2.2] at he
      obtain ⟨k1, k2⟩ := mk_eq he
      refine ⟨mk_valid he, ?_⟩
      have h1 := hx x (by simp)
      generalize mkN (x * (fromL (y :: r)).1 + (fromL (y :: r)).2.1) (fromL (y :: r)).1 = A at *
      generalize mkD (x * (fromL (y :: r)).1 + (fromL (y :: r)).2.1) (fromL (y :: r)).1 = B at *
      generalize (fromL (y :: r)).1 = n at *
      generalize (fromL (y :: r)).2.1 = d at *
      have e1 : n ≤ x * n + d := by have := Int.mul_le_mul_of_nonneg_right h1 (by omega : 0 ≤ n); omega
      have e2 : n * B ≤ (x * n + d) * B := Int.mul_le_mul_of_nonneg_right e1 (by omega)
      rw [← k1, Int.mul_comm n B] at e2
      exact Int.le_of_mul_le_mul_right e2 (by omega)
    · rw [if_neg e] at he
      exact absurd he e

theorem tms_ge : ∀ (f : Nat) (n d : Int), d.toNat ≤ f → 0 ≤ d → d ≤ n → ∀ x ∈ (tms n d).map Prod.fst, 1 ≤ x
  | 0, n, d, hf, h0, h, x, hx => by
    have : d = 0 := by omega
    subst this
    simp [tms_zero] at hx
  | f + 1, n, d, hf, h0, h, x, hx => by
    by_cases e : d = 0
    · subst e; simp [tms_zero] at hx
    · have p : 0 < d := by omega
      have m0 := Int.emod_nonneg n e
      have m1 := Int.emod_lt_of_pos n p
      rw [tms_pos n p, List.map_cons, List.mem_cons] at hx
      rcases hx with rfl | hx
      · exact (Int.le_ediv_iff_mul_le p).2 (by omega)
      · exact tms_ge f d (n % d) (by omega) m0 (by omega) x hx
theorem tms_sm : ∀ (f : Nat) (n d : Int), d.toNat ≤ f → Sm n → 0 ≤ d → d ≤ 2147483647 → ∀ x ∈ (tms n d).map Prod.fst, Sm x
  | 0, n, d, hf, hs, h0, h, x, hx => by
    have : d = 0 := by omega
    subst this
    simp [tms_zero] at hx
  | f + 1, n, d, hf, hs, h0, h, x, hx => by
    by_cases e : d = 0
    · subst e; simp [tms_zero] at hx
    · have p : 0 < d := by omega
      have m0 := Int.emod_nonneg n e
      have m1 := Int.emod_lt_of_pos n p
      rw [tms_pos n p, List.map_cons, List.mem_cons] at hx
      rcases hx with rfl | hx
      · have := fl_bd hs p; unfold Sm; omega
      · exact tms_sm f d (n % d) (by omega) (by unfold Sm; omega) m0 (by omega) x hx
theorem tms_bdk (n d : Int) (h : Sm n) (h0 : 0 ≤ d) (h1 : d ≤ 2147483647) (k : Nat) : -9223372036854775808 ≤ ((tms n d).map Prod.fst).getD k 0 ∧ ((tms n d).map Prod.fst).getD k 0 ≤ 9223372036854775807 :=
  bd_all (fun x hx => by have := tms_sm _ n d (Nat.le_refl _) h h0 h1 x hx; unfold Sm at this; omega) k

/-- The terms of a fraction in its least form give it back. -/
theorem fold_tms : ∀ (f : Nat) (n d : Int), d.toNat ≤ f → validB n d = true → fromL ((tms n d).map Prod.fst) = (n, d, 0)
  | 0, n, d, hf, hv => by have := valid_parts hv; omega
  | f + 1, n, d, hf, hv => by
    obtain ⟨v1, p, v3, v4⟩ := valid_parts hv
    have m0 := Int.emod_nonneg n (by omega : d ≠ 0)
    have m1 := Int.emod_lt_of_pos n p
    have ee := Int.mul_ediv_add_emod n d
    rw [g_mod] at v4
    have S := mk_self hv
    rw [tms_pos n p, List.map_cons]
    by_cases e : n % d = 0
    · rw [e] at v4 ee ⊢
      rw [tms_zero]
      have hd : d = 1 := by unfold mkG sz at v4; simp at v4; omega
      subst hd
      simp only [List.map_nil, fromL, Int.ediv_one]
      rw [S.1, S.2.1, S.2.2]
    · have hv2 : validB d (n % d) = true := valid_of (by unfold Sm; omega) (by omega) (by omega) v4
      have ih := fold_tms f d (n % d) (by omega) hv2
      have hne : ∃ y r, (tms d (n % d)).map Prod.fst = y :: r := by rw [tms_pos d (by omega : 0 < n % d)]; exact ⟨_, _, rfl⟩
      obtain ⟨y, r, hyr⟩ := hne
      rw [hyr] at ih ⊢
      rw [fromL_two, ih, if_pos rfl, on_eq (by omega) (by omega) v4]
      have : n / d * d + n % d = n := by rw [Int.mul_comm]; exact ee
      rw [this, S.1, S.2.1, S.2.2]
theorem from_tms {n d : Int} (hv : validB n d = true) : fromA ((tms n d).map Prod.fst) = (n, d, 0) := by
  obtain ⟨v1, p, v3, v4⟩ := valid_parts hv
  have m0 := Int.emod_nonneg n (by omega : d ≠ 0)
  have m1 := Int.emod_lt_of_pos n p
  have F := fold_tms _ n d (Nat.le_refl _) hv
  have hb : badT ((tms n d).map Prod.fst) = false := by
    unfold badT
    rw [tms_pos n p, List.map_cons, List.drop_one, List.tail_cons, List.any_eq_false]
    intro x hx
    have := tms_ge _ d (n % d) (Nat.le_refl _) m0 (by omega) x hx
    simp; omega
  have hn : (tms n d).map Prod.fst ≠ [] := by rw [tms_pos n p]; simp
  rw [fromA, if_neg hn, hb]
  exact F

end Go.Proofs.YtonndlhppihdiaaDoor
