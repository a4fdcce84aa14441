/-
  What a record put in its place changes, and what it does not.
-/
import Derived.Test.YtoeebofappbneaaGreatQ1
namespace Go.Proofs.YtoeebofappbneaaGreat
open Go.ChangeShapes Go.WideShapes Go.ChangeAt Go.RowKit
set_option linter.unusedVariables false
set_option linter.unusedSimpArgs false

theorem lk_ins {l : List CH} {c : CH} {k : ByteArray} (hl : Rise l) : lk k (ins l c) = if c.nm = k then some c else lk k l := by
  induction l with
  | nil => rfl
  | cons a t ih =>
    have hp := List.pairwise_cons.1 hl
    rw [ins]
    rcases three a.nm c.nm with ⟨h1, h2, h3⟩ | ⟨h1, h2, h3⟩ | ⟨h1, h2, h3⟩
    · rw [if_pos h1, lk, lk, ih hp.2]
      by_cases e : a.nm = k
      · rw [if_pos e, if_neg (fun e2 => h3 (e.trans e2.symm)), if_pos e]
      · rw [if_neg e, if_neg e]
    · rw [if_neg (by rw [h2]; decide), if_pos h1]
      rfl
    · rw [if_neg (by rw [h2]; decide), if_neg (by rw [h3]; decide), lk]
      by_cases e : c.nm = k
      · rw [if_pos e, if_pos e]
      · rw [if_neg e, if_neg e, lk, if_neg (fun e2 => e (h1.symm.trans e2))]
theorem lk_self {l : List CH} (hl : Rise l) {d : CH} (hd : d ∈ l) : lk d.nm l = some d := by
  induction l with
  | nil => cases hd
  | cons a t ih =>
    have hp := List.pairwise_cons.1 hl
    rw [lk]
    rcases List.mem_cons.1 hd with rfl | hd
    · rw [if_pos rfl]
    · rw [if_neg (fun e => by have := hp.1 d hd; rw [e, lt_irr] at this; cases this)]
      exact ih hp.2 hd
theorem nw_irr (e m : Int) : nwZ e m e m = false := by
  unfold nwZ
  rw [if_pos rfl]
  exact decide_eq_false (by omega)
theorem nw_asym {e m e' m' : Int} (h : nwZ e m e' m' = true) : nwZ e' m' e m = false := by
  unfold nwZ at h ⊢
  by_cases c : e = e'
  · rw [if_pos c] at h
    rw [if_pos c.symm]
    have := of_decide_eq_true h
    exact decide_eq_false (by omega)
  · rw [if_neg c] at h
    rw [if_neg (fun x => c x.symm)]
    have := of_decide_eq_true h
    exact decide_eq_false (by omega)
/-- A list that is fit and bears each record of l, or a newer one. -/
def Up (l T : List CH) : Prop := fitsB T = true ∧ ∀ d, d ∈ l → ∃ x, lk d.nm T = some x ∧ nwZ d.ep d.mr x.ep x.mr = false
theorem up_self {l : List CH} (h : fitsB l = true) : Up l l := ⟨h, fun d hd => ⟨d, lk_self (fitsB_rise h) hd, nw_irr _ _⟩⟩
theorem up_ins {l : List CH} {c : CH} (h : fitsB l = true) (hc : c.fit = true) (hn : lk c.nm l = none → l.length < 8) (ho : ∀ o, lk c.nm l = some o → c.nw o = true) : Up l (ins l c) := by
  have hl := fitsB_rise h
  have h8 := (fitsB_iff.1 h).1
  refine ⟨fitsB_of ?_ (fun x hx => ?_) (ins_rise c hl), fun d hd => ?_⟩
  · cases hk : lk c.nm l with
    | none => rw [ins_none hk]; have := hn hk; omega
    | some o => rw [ins_some hl hk]; exact h8
  · rcases ins_mem hx with rfl | hx
    · exact hc
    · exact fitsB_fit h x hx
  · rw [lk_ins hl]
    by_cases e : c.nm = d.nm
    · rw [if_pos e]
      refine ⟨c, rfl, ?_⟩
      have h1 := lk_self hl hd
      rw [← e] at h1
      exact nw_asym (ho d h1)
    · rw [if_neg e]
      exact ⟨d, lk_self hl hd, nw_irr _ _⟩
theorem up_lrn {l : List CH} {c : CH} (h : fitsB l = true) (hc : c.fit = true) : Up l (lrnL l c) := by
  unfold lrnL
  cases hk : lk c.nm l with
  | none =>
    dsimp only
    split
    · exact up_self h
    · exact up_ins h hc (fun _ => by omega) (fun o ho => by rw [hk] at ho; cases ho)
  | some o =>
    dsimp only
    split
    · rename_i hw
      exact up_ins h hc (fun hn => by rw [hk] at hn; cases hn) (fun o2 ho => by rw [hk] at ho; cases ho; exact hw)
    · exact up_self h
theorem fit_mk {n : ByteArray} {e m : Int} {a : Bool} {k s : Int} (h1 : nameB n = true) (h2 : 1 ≤ e ∧ e ≤ 1099511627776) (h3 : 0 ≤ m ∧ m < 16) (h4 : kindB k = true) (h5 : scaleB k s = true) : CH.fit ⟨n, e, m, a, k, s⟩ = true := by
  unfold CH.fit inB nodeB
  dsimp only
  rw [h1, h4, h5, decide_eq_true h2, decide_eq_true h3]
  rfl
theorem fit_parts {c : CH} (h : c.fit = true) : nameB c.nm = true ∧ kindB c.kd = true ∧ scaleB c.kd c.sc = true := by
  unfold CH.fit at h
  simp only [Bool.and_eq_true] at h
  exact ⟨h.1, h.2.2.2.1, h.2.2.2.2⟩
def crX (l : List CH) (maker : Int) (name : ByteArray) (kind scale : Int) : List CH := if crE l name kind scale = 0 then GL (8 - (l.length : Int)) (Z l [crM l maker name kind scale]) else l
def dlX (l : List CH) (maker : Int) (name : ByteArray) : List CH := if dlE l name = 0 then GL (8 - (l.length : Int)) (Z l [dlM l maker name]) else l
theorem crX_ok {l : List CH} (hl : Rise l) {maker : Int} {name : ByteArray} {kind scale : Int} (h : crE l name kind scale = 0) : crX l maker name kind scale = ins l (crM l maker name kind scale) := by
  unfold crX
  rw [if_pos h, GL_one _ _ hl, cr_lrn h]
theorem dlX_ok {l : List CH} (hl : Rise l) {maker : Int} {name : ByteArray} (h : dlE l name = 0) : dlX l maker name = ins l (dlM l maker name) := by
  unfold dlX
  rw [if_pos h, GL_one _ _ hl, dl_lrn h]
theorem up_cr {l : List CH} (h : fitsB l = true) {maker : Int} (hm : 0 ≤ maker ∧ maker < 16) {name : ByteArray} {kind scale : Int} : Up l (crX l maker name kind scale) := by
  by_cases h0 : crE l name kind scale = 0
  · rw [crX_ok (fitsB_rise h) h0]
    obtain ⟨h1, h2, h3, h4, h5, h6⟩ := cr_ok h0
    have he := fd_ep h name
    refine up_ins h (fit_mk h1 (by omega) hm h2 h3) (fun hn => h5 hn) (fun o ho => ?_)
    have ho' : lk name l = some o := ho
    unfold crM CH.nw
    rw [ho']
    exact nw_next _ _ _
  · unfold crX
    rw [if_neg h0]
    exact up_self h
theorem up_dl {l : List CH} (h : fitsB l = true) {maker : Int} (hm : 0 ≤ maker ∧ maker < 16) {name : ByteArray} : Up l (dlX l maker name) := by
  by_cases h0 : dlE l name = 0
  · rw [dlX_ok (fitsB_rise h) h0]
    obtain ⟨o, hk, ha, he⟩ := dl_ok h0
    have hf := fitsB_fit h o (lk_nm hk).2
    have hn := (lk_nm hk).1
    obtain ⟨p1, p2, p3⟩ := fit_parts hf
    have hep := fit_ep hf
    have e1 : dlM l maker name = ⟨o.nm, o.ep + 1, maker, false, o.kd, o.sc⟩ := by unfold dlM; rw [hk]; rfl
    have e2 : lk (dlM l maker name).nm l = some o := by rw [e1]; show lk o.nm l = _; rw [hn, hk]
    refine up_ins h (by rw [e1]; exact fit_mk p1 (by omega) hm p2 p3) (fun hnn => by rw [e2] at hnn; cases hnn) (fun o2 ho => ?_)
    rw [e2] at ho
    cases ho
    rw [e1]
    exact nw_next _ _ _
  · unfold dlX
    rw [if_neg h0]
    exact up_self h
/-- What Create made is found. -/
theorem cr_find {l : List CH} (hl : Rise l) {maker : Int} {name : ByteArray} {kind scale : Int} (h : crE l name kind scale = 0) : lk name (crX l maker name kind scale) = some (crM l maker name kind scale) := by
  rw [crX_ok hl h, lk_ins hl]
  exact if_pos rfl
theorem dl_find {l : List CH} (hl : Rise l) {maker : Int} {name : ByteArray} (h : dlE l name = 0) : lk name (dlX l maker name) = some (dlM l maker name) := by
  obtain ⟨o, hk, _, _⟩ := dl_ok h
  rw [dlX_ok hl h, lk_ins hl, if_pos]
  unfold dlM
  rw [hk]
  exact (lk_nm hk).1
/-- What Learn tells, and what it did. -/
theorem lrn_tells {l : List CH} (hl : Rise l) {c : CH} : (((lrnW l c == 3) = true ∨ ((lrnW l c == 3) = false ∧ (lrnW l c == 4) = true)) ∧ fdc (lk c.nm (lrnL l c)) = c ∧ sameL (lrnL l c) l = false) ∨ ((lrnW l c == 3) = false ∧ (lrnW l c == 4) = false ∧ sameL (lrnL l c) l = true) := by
  unfold lrnW lrnL
  cases hk : lk c.nm l with
  | none =>
    dsimp only
    by_cases h8 : 8 ≤ l.length
    · rw [if_pos h8, if_pos h8]
      exact .inr ⟨rfl, rfl, (sameL_iff l l).2 rfl⟩
    · rw [if_neg h8, if_neg h8]
      refine .inl ⟨.inr ⟨rfl, rfl⟩, ?_, sameL_len (by rw [ins_none hk]; omega)⟩
      rw [lk_ins hl, if_pos rfl]
      rfl
  | some o =>
    dsimp only
    by_cases hw : c.nw o = true
    · rw [if_pos hw, if_pos hw]
      refine .inl ⟨.inl rfl, by rw [lk_ins hl, if_pos rfl]; rfl, ?_⟩
      cases hs : sameL (ins l c) l with
      | false => rfl
      | true =>
        have e := (sameL_iff _ _).1 hs
        have h1 : lk c.nm (ins l c) = some c := by rw [lk_ins hl, if_pos rfl]
        rw [e, hk] at h1
        cases h1
        unfold CH.nw at hw
        rw [nw_irr] at hw
        cases hw
    · rw [if_neg hw, if_neg hw]
      right
      split <;> exact ⟨rfl, rfl, (sameL_iff l l).2 rfl⟩
end Go.Proofs.YtoeebofappbneaaGreat
