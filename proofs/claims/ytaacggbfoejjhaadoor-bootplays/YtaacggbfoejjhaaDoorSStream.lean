/-
  Streams of frames: what All and Salvage tell.
-/
import Derived.Test.YtaacggbfoejjhaaDoorSFrame
namespace Go.Proofs.YtaacggbfoejjhaaDoor.S
set_option linter.unusedVariables false
set_option linter.unusedSimpArgs false

theorem opn_pos {l b : List Int} {n : Nat} (h : opn l = .ok (b, n)) : 8 ≤ n ∧ n ≤ l.length := by
  unfold opn at h
  split at h
  · cases h
  split at h
  · cases h
  split at h
  · cases h
  rename_i h3
  split at h
  · cases h
  simp only [Except.ok.injEq, Prod.mk.injEq] at h
  omega
theorem opn_err {l : List Int} {e : Int} (h : opn l = .error e) : e = 20 ∨ e = 21 ∨ e = 22 := by
  unfold opn at h
  split at h
  · cases h; omega
  split at h
  · cases h; omega
  split at h
  · cases h; omega
  split at h
  · cases h; omega
  · cases h
/-- What All tells: bodies, how many bytes they were, and the error. -/
def allF : Nat → List Int → List (List Int) × Nat × Int
  | 0, _ => ([], 0, 0)
  | f + 1, l => if l = [] then ([], 0, 0) else
    match opn l with
    | .error e => ([], 0, e)
    | .ok (b, n) => (b :: (allF f (l.drop n)).1, n + (allF f (l.drop n)).2.1, (allF f (l.drop n)).2.2)
/-- What Salvage tells: bodies, each with its place. -/
def salF : Nat → Nat → List Int → List (List Int × Nat)
  | 0, _, _ => []
  | f + 1, at0, l => if l = [] then [] else
    match opn l with
    | .error _ => salF f (at0 + 1) (l.drop 1)
    | .ok (b, n) => (b, at0) :: salF f (at0 + n) (l.drop n)
theorem allF_nil (f : Nat) : allF f [] = ([], 0, 0) := by cases f <;> rfl
theorem salF_nil (f at0 : Nat) : salF f at0 [] = [] := by cases f <;> rfl
theorem allF_err {f : Nat} {l : List Int} {e : Int} (hl : l ≠ []) (h : opn l = .error e) : allF (f + 1) l = ([], 0, e) := by
  rw [allF, if_neg hl, h]
theorem allF_ok {f : Nat} {l b : List Int} {n : Nat} (h : opn l = .ok (b, n)) : allF (f + 1) l = (b :: (allF f (l.drop n)).1, n + (allF f (l.drop n)).2.1, (allF f (l.drop n)).2.2) := by
  have hp := opn_pos h
  rw [allF, if_neg (by rintro rfl; simp at hp; omega), h]
theorem salF_err {f at0 : Nat} {l : List Int} {e : Int} (hl : l ≠ []) (h : opn l = .error e) : salF (f + 1) at0 l = salF f (at0 + 1) (l.drop 1) := by
  rw [salF, if_neg hl, h]
theorem salF_ok {f at0 : Nat} {l b : List Int} {n : Nat} (h : opn l = .ok (b, n)) : salF (f + 1) at0 l = (b, at0) :: salF f (at0 + n) (l.drop n) := by
  have hp := opn_pos h
  rw [salF, if_neg (by rintro rfl; simp at hp; omega), h]
/-- Enough steps are enough. -/
theorem allF_fuel : ∀ (f g : Nat) (l : List Int), l.length ≤ f → l.length ≤ g → allF f l = allF g l
  | 0, g, l, hf, hg => by
    obtain rfl : l = [] := List.length_eq_zero_iff.1 (by omega)
    rw [allF_nil, allF_nil]
  | f + 1, 0, l, hf, hg => by
    obtain rfl : l = [] := List.length_eq_zero_iff.1 (by omega)
    rw [allF_nil, allF_nil]
  | f + 1, g + 1, l, hf, hg => by
    by_cases hl : l = []
    · subst hl; rw [allF_nil, allF_nil]
    · cases h : opn l with
      | error e => rw [allF_err hl h, allF_err hl h]
      | ok q =>
        obtain ⟨b, n⟩ := q
        have hp := opn_pos h
        have hd : (l.drop n).length = l.length - n := List.length_drop
        rw [allF_ok h, allF_ok h, allF_fuel f g (l.drop n) (by omega) (by omega)]
theorem salF_fuel : ∀ (f g at0 : Nat) (l : List Int), l.length ≤ f → l.length ≤ g → salF f at0 l = salF g at0 l
  | 0, g, at0, l, hf, hg => by
    obtain rfl : l = [] := List.length_eq_zero_iff.1 (by omega)
    rw [salF_nil, salF_nil]
  | f + 1, 0, at0, l, hf, hg => by
    obtain rfl : l = [] := List.length_eq_zero_iff.1 (by omega)
    rw [salF_nil, salF_nil]
  | f + 1, g + 1, at0, l, hf, hg => by
    by_cases hl : l = []
    · subst hl; rw [salF_nil, salF_nil]
    · have hpos : 0 < l.length := List.length_pos_iff.2 hl
      cases h : opn l with
      | error e =>
        have hd : (l.drop 1).length = l.length - 1 := List.length_drop
        rw [salF_err hl h, salF_err hl h, salF_fuel f g _ (l.drop 1) (by omega) (by omega)]
      | ok q =>
        obtain ⟨b, n⟩ := q
        have hp := opn_pos h
        have hd : (l.drop n).length = l.length - n := List.length_drop
        rw [salF_ok h, salF_ok h, salF_fuel f g _ (l.drop n) (by omega) (by omega)]
/-- All tells a beginning of what Salvage tells; all of it, where no error is told. -/
theorem all_sal : ∀ (f at0 : Nat) (l : List Int), l.length ≤ f →
    (∃ r, (salF f at0 l).map (·.1) = (allF f l).1 ++ r) ∧ ((allF f l).2.2 = 0 → (salF f at0 l).map (·.1) = (allF f l).1)
  | 0, at0, l, hf => ⟨⟨[], rfl⟩, fun _ => rfl⟩
  | f + 1, at0, l, hf => by
    by_cases hl : l = []
    · subst hl
      rw [salF_nil, allF_nil]
      exact ⟨⟨[], rfl⟩, fun _ => rfl⟩
    · cases h : opn l with
      | error e =>
        rw [allF_err hl h]
        refine ⟨⟨_, rfl⟩, fun he => ?_⟩
        have := opn_err h
        simp only at he
        omega
      | ok q =>
        obtain ⟨b, n⟩ := q
        have hp := opn_pos h
        have hd : (l.drop n).length = l.length - n := List.length_drop
        obtain ⟨⟨r, hr⟩, he⟩ := all_sal f (at0 + n) (l.drop n) (by omega)
        rw [allF_ok h, salF_ok h]
        refine ⟨⟨r, by simp [hr]⟩, fun h0 => by simp [he h0]⟩
theorem all_len : ∀ (f : Nat) (l : List Int), l.length ≤ f → (allF f l).2.1 ≤ l.length
  | 0, l, _ => Nat.zero_le _
  | f + 1, l, hf => by
    by_cases hl : l = []
    · subst hl; rw [allF_nil]; exact Nat.zero_le _
    · cases h : opn l with
      | error e => rw [allF_err hl h]; exact Nat.zero_le _
      | ok q =>
        obtain ⟨b, n⟩ := q
        have hp := opn_pos h
        have hd : (l.drop n).length = l.length - n := List.length_drop
        have := all_len f (l.drop n) (by omega)
        rw [allF_ok h]
        simp only
        omega
/-- Bytes that are no mark's first byte hold no frame. -/
theorem opn_other {z : Int} (hz : z ≠ 237) (l : List Int) : opn (z :: l) = .error 20 := by
  unfold opn
  rw [if_pos (.inl ⟨by simp, by simpa using hz⟩)]
theorem sal_ahead : ∀ (ahead m : List Int) (f at0 : Nat), (∀ z ∈ ahead, z ≠ 237) → ahead.length + m.length ≤ f → salF f at0 (ahead ++ m) = salF m.length (at0 + ahead.length) m
  | [], m, f, at0, _, hf => salF_fuel _ _ _ _ (by simpa using hf) (Nat.le_refl _)
  | z :: r, m, f, at0, hz, hf => by
    obtain ⟨g, rfl⟩ : ∃ g, f = g + 1 := ⟨f - 1, by simp at hf; omega⟩
    rw [List.cons_append, salF_err (by simp) (opn_other (hz z (by simp)) _)]
    show salF g (at0 + 1) (r ++ m) = _
    rw [sal_ahead r m g (at0 + 1) (fun x hx => hz x (List.mem_cons_of_mem _ hx)) (by simp at hf; omega), List.length_cons]
    congr 1
    omega
/-- Bodies, each with the place of its frame, one frame right behind the other. -/
def placed : Nat → List (List Int) → List (List Int × Nat)
  | _, [] => []
  | at0, b :: r => (b, at0) :: placed (at0 + (b.length + 8)) r
theorem placed_fst : ∀ (bs : List (List Int)) (at0 : Nat), (placed at0 bs).map (·.1) = bs
  | [], _ => rfl
  | b :: r, at0 => by simp [placed, placed_fst r]
theorem sal_frames : ∀ (bs : List (List Int)) (f at0 : Nat), (∀ b ∈ bs, b.length ≤ 65535) → (bs.flatMap frm).length ≤ f → salF f at0 (bs.flatMap frm) = placed at0 bs
  | [], f, at0, _, _ => salF_nil _ _
  | b :: r, f, at0, hb, hf => by
    rw [List.flatMap_cons, List.length_append, frm_len] at hf
    obtain ⟨g, rfl⟩ : ∃ g, f = g + 1 := ⟨f - 1, by omega⟩
    have ho := opn_frm b (r.flatMap frm) (hb b (by simp))
    rw [List.flatMap_cons, salF_ok ho]
    have hd : (frm b ++ r.flatMap frm).drop (b.length + 8) = r.flatMap frm := List.drop_left' (frm_len b)
    rw [hd, sal_frames r g _ (fun x hx => hb x (List.mem_cons_of_mem _ hx)) (by omega)]
    rfl

end Go.Proofs.YtaacggbfoejjhaaDoor.S
