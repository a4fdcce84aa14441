/-
  The document's own Learn and Merge.
-/
import Derived.Test.YtoeebofappbneaaGreatR1
namespace Go.Proofs.YtoeebofappbneaaGreat
open Go.ChangeShapes Go.WideShapes Go.ChangeAt Go.RowKit Go.Maps Go.Shelf
set_option linter.unusedVariables false
set_option linter.unusedSimpArgs false

theorem ins_mem {l : List CH} {c x : CH} (h : x ∈ ins l c) : x = c ∨ x ∈ l := by
  induction l with
  | nil => left; simpa [ins] using h
  | cons a t ih =>
    rw [ins] at h
    split at h
    · rcases List.mem_cons.1 h with rfl | h
      · exact .inr (.head _)
      · exact (ih h).imp _root_.id (.tail _)
    · split at h
      · rcases List.mem_cons.1 h with rfl | h
        · exact .inl rfl
        · exact .inr h
      · rcases List.mem_cons.1 h with rfl | h
        · exact .inl rfl
        · exact .inr (.tail _ h)
theorem ins_rise {l : List CH} (c : CH) (h : Rise l) : Rise (ins l c) := by
  induction l with
  | nil => exact List.pairwise_cons.2 ⟨fun y hy => (by cases hy), List.Pairwise.nil⟩
  | cons a t ih =>
    have hp := List.pairwise_cons.1 h
    rw [ins]
    rcases three a.nm c.nm with ⟨h1, h2, h3⟩ | ⟨h1, h2, h3⟩ | ⟨h1, h2, h3⟩
    · rw [if_pos h1]
      refine List.pairwise_cons.2 ⟨fun y hy => ?_, ih hp.2⟩
      rcases ins_mem hy with rfl | hy
      · exact h1
      · exact hp.1 y hy
    · rw [if_neg (by rw [h2]; decide), if_pos h1]
      refine List.pairwise_cons.2 ⟨fun y hy => ?_, h⟩
      rcases List.mem_cons.1 hy with rfl | hy
      · exact h1
      · exact lt_trans' h1 (hp.1 y hy)
    · rw [if_neg (by rw [h2]; decide), if_neg (by rw [h3]; decide)]
      exact List.pairwise_cons.2 ⟨fun y hy => by rw [← h1]; exact hp.1 y hy, hp.2⟩
theorem lrn_rise {l : List CH} (c : CH) (h : Rise l) : Rise (lrnL l c) := by
  unfold lrnL
  split
  · split
    · exact h
    · exact ins_rise c h
  · split
    · exact ins_rise c h
    · exact h
theorem ins_len (l : List CH) (c : CH) : (ins l c).length ≤ l.length + 1 := by
  induction l with
  | nil => simp [ins]
  | cons a t ih =>
    rw [ins]
    split
    · simp only [List.length_cons]; omega
    · split <;> simp only [List.length_cons] <;> omega
theorem lrn_len (l : List CH) (c : CH) : (lrnL l c).length ≤ l.length + 1 := by
  have := ins_len l c
  unfold lrnL
  split <;> split <;> omega
def mgT (l m : List CH) (i : Nat) : List CH := (m.take i).foldl lrnL l
theorem mgT_step {l m : List CH} {i : Nat} {x : CH} (h : m[i]? = some x) : mgT l m (i + 1) = lrnL (mgT l m i) x := by
  unfold mgT
  rw [List.take_add_one, h, List.foldl_append]
  rfl
theorem mg_rise : ∀ (m l : List CH), Rise l → Rise (m.foldl lrnL l)
  | [], l, h => h
  | c :: m, l, h => mg_rise m _ (lrn_rise c h)
theorem mg_len : ∀ (m l : List CH), (m.foldl lrnL l).length ≤ l.length + m.length
  | [], l => Nat.le_refl _
  | c :: m, l => by
    have h1 := mg_len m (lrnL l c)
    have h2 := lrn_len l c
    simp only [List.foldl_cons, List.length_cons]
    omega
theorem mgT_all {l m : List CH} {n : Nat} (h : m.length = n) : mgT l m n = m.foldl lrnL l := by unfold mgT; rw [List.take_of_length_le (by omega)]
end Go.Proofs.YtoeebofappbneaaGreat
