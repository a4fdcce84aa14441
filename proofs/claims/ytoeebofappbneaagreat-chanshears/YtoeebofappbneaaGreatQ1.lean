/-
  Merged one after another; what is made is newer.
-/
import Derived.Test.YtoeebofappbneaaGreatC1
import Derived.Test.YtoeebofappbneaaGreatF1
namespace Go.Proofs.YtoeebofappbneaaGreat
open Go.ChangeShapes Go.WideShapes Go.ChangeAt Go.RowKit
set_option linter.unusedVariables false
set_option linter.unusedSimpArgs false

theorem ins_none {c : CH} {l : List CH} (h : lk c.nm l = none) : (ins l c).length = l.length + 1 := by
  induction l with
  | nil => rfl
  | cons a t ih =>
    rw [lk] at h
    split at h
    · cases h
    · rename_i hn
      rw [ins]
      rcases three a.nm c.nm with ⟨h1, h2, h3⟩ | ⟨h1, h2, h3⟩ | ⟨h1, h2, h3⟩
      · rw [if_pos h1]; simp only [List.length_cons, ih h]
      · rw [if_neg (by rw [h2]; decide), if_pos h1]; rfl
      · exact absurd h1 hn
theorem ins_some {c o : CH} {l : List CH} (hl : Rise l) (h : lk c.nm l = some o) : (ins l c).length = l.length := by
  induction l with
  | nil => cases h
  | cons a t ih =>
    have hp := List.pairwise_cons.1 hl
    rw [ins]
    rcases three a.nm c.nm with ⟨h1, h2, h3⟩ | ⟨h1, h2, h3⟩ | ⟨h1, h2, h3⟩
    · rw [lk, if_neg h3] at h
      rw [if_pos h1]; simp only [List.length_cons, ih hp.2 h]
    · have hn : lk c.nm (a :: t) = none := lk_lt fun y hy => by
        rcases List.mem_cons.1 hy with rfl | hy
        · exact h1
        · exact lt_trans' h1 (hp.1 y hy)
      rw [hn] at h
      cases h
    · rw [if_neg (by rw [h2]; decide), if_neg (by rw [h3]; decide)]; rfl
theorem insM_len {l : List CH} (c : CH) (hl : Rise l) : insM (8 - (l.length : Int)) l c = 8 - ((lrnL l c).length : Int) := by
  unfold insM lrnL
  cases h : lk c.nm l with
  | none =>
    dsimp only
    by_cases h8 : 8 ≤ l.length
    · rw [if_neg (by omega), if_pos h8]
    · rw [if_pos (by omega), if_neg h8, ins_none h]
      omega
  | some o =>
    dsimp only
    split
    · rw [ins_some hl h]
    · rfl
theorem GL_fold : ∀ (m l : List CH), Rise l → Rise m → GL (8 - (l.length : Int)) (Z l m) = m.foldl lrnL l
  | [], l, _, _ => GL_none _ _
  | c :: m, l, hl, hm => by
    have hp := List.pairwise_cons.1 hm
    rw [GL_step _ _ _ _ hl hp.1, insM_len c hl, ← lrn_ins, GL_fold m _ (lrn_rise c hl) hp.2]
    rfl
theorem lk_nm {k : ByteArray} {l : List CH} {o : CH} (h : lk k l = some o) : o.nm = k ∧ o ∈ l := by
  induction l with
  | nil => cases h
  | cons a t ih =>
    rw [lk] at h
    split at h
    · cases h
      rename_i e
      exact ⟨e, .head _⟩
    · exact ⟨(ih h).1, .tail _ (ih h).2⟩
theorem nw_next (e m m' : Int) : nwZ (e + 1) m e m' = true := by
  unfold nwZ
  rw [if_neg (by omega)]
  exact decide_eq_true (by omega)
theorem cr_ok {l : List CH} {name : ByteArray} {kind scale : Int} (h : crE l name kind scale = 0) : nameB name = true ∧ kindB kind = true ∧ scaleB kind scale = true ∧ (fdc (lk name l)).al = false ∧ (lk name l = none → l.length < 8) ∧ (fdc (lk name l)).ep < 1099511627776 := by
  unfold crE at h
  split at h
  · cases h
  · rename_i h1
    split at h
    · cases h
    · rename_i h2
      split at h
      · cases h
      · rename_i h3
        split at h
        · cases h
        · rename_i h4
          split at h
          · cases h
          · rename_i h5
            split at h
            · cases h
            · rename_i h6
              exact ⟨by simpa using h1, by simpa using h2, by simpa using h3, by simpa using h4, fun hn => by rw [hn] at h5; simp at h5; omega, by omega⟩
theorem cr_lrn {l : List CH} {maker : Int} {name : ByteArray} {kind scale : Int} (h : crE l name kind scale = 0) : lrnL l (crM l maker name kind scale) = ins l (crM l maker name kind scale) := by
  obtain ⟨_, _, _, _, h8, _⟩ := cr_ok h
  unfold lrnL
  have e : lk (crM l maker name kind scale).nm l = lk name l := rfl
  rw [e]
  cases hk : lk name l with
  | none => dsimp only; rw [if_neg (by have := h8 hk; omega)]
  | some o =>
    dsimp only
    rw [if_pos]
    unfold crM CH.nw
    rw [hk]
    exact nw_next _ _ _
theorem dl_ok {l : List CH} {name : ByteArray} (h : dlE l name = 0) : ∃ o, lk name l = some o ∧ o.al = true ∧ o.ep < 1099511627776 := by
  unfold dlE at h
  split at h
  · cases h
  · rename_i h1
    split at h
    · cases h
    · rename_i h2
      cases hk : lk name l with
      | none => rw [hk] at h1; exact absurd rfl h1
      | some o =>
        rw [hk] at h1 h2
        refine ⟨o, rfl, by simpa [fdc] using h1, ?_⟩
        have : (fdc (some o)).ep = o.ep := rfl
        omega
theorem dl_lrn {l : List CH} {maker : Int} {name : ByteArray} (h : dlE l name = 0) : lrnL l (dlM l maker name) = ins l (dlM l maker name) := by
  obtain ⟨o, hk, _, _⟩ := dl_ok h
  have hn := (lk_nm hk).1
  have e : lk (dlM l maker name).nm l = some o := by unfold dlM; rw [hk]; show lk o.nm l = _; rw [hn, hk]
  unfold lrnL
  rw [e]
  dsimp only
  rw [if_pos]
  unfold dlM CH.nw
  rw [hk]
  exact nw_next _ _ _
theorem cr_same {l : List CH} (hl : Rise l) {maker : Int} {name : ByteArray} {kind scale : Int} : (if crE l name kind scale = 0 then GL (8 - (l.length : Int)) (Z l [crM l maker name kind scale]) else l) = (if crE l name kind scale = 0 then ptL l (crM l maker name kind scale) else l) := by
  split
  · rename_i h
    rw [GL_one _ _ hl, cr_lrn h, ptL_ins hl]
  · rfl
theorem dl_same {l : List CH} (hl : Rise l) {maker : Int} {name : ByteArray} : (if dlE l name = 0 then GL (8 - (l.length : Int)) (Z l [dlM l maker name]) else l) = (if dlE l name = 0 then ptL l (dlM l maker name) else l) := by
  split
  · rename_i h
    rw [GL_one _ _ hl, dl_lrn h, ptL_ins hl]
  · rfl
theorem fit_ep {x : CH} (h : x.fit = true) : 1 ≤ x.ep ∧ x.ep ≤ 1099511627776 := by
  unfold CH.fit inB at h
  simp only [Bool.and_eq_true, decide_eq_true_eq] at h
  exact h.2.1
theorem fd_ep {l : List CH} (h : fitsB l = true) (name : ByteArray) : 0 ≤ (fdc (lk name l)).ep := by
  cases hk : lk name l with
  | none => decide
  | some o => have := fit_ep (fitsB_fit h o (lk_nm hk).2); show 0 ≤ o.ep; omega
end Go.Proofs.YtoeebofappbneaaGreat
