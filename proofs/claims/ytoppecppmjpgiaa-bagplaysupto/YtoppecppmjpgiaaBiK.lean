/-
  Package bag: severed and mended, the map and the list stay alike.
-/
import Derived.Test.YtoppecppmjpgiaaBiI
import Derived.Test.YtoppecppmjpgiaaBiJ
namespace Go.Proofs.Ytoppecppmjpgiaa
open Go.ChangeShapes Go.WideShapes Go.ChangeAt Go.RowKit Go.Maps
set_option linter.unusedVariables false
set_option linter.unusedSimpArgs false

theorem mem_pr {ls : List LK} {x : Int × Int} : x ∈ ls.map pr ↔ toLK x ∈ ls := by
  rw [List.mem_map]
  constructor
  · rintro ⟨q, hq, rfl⟩
    exact hq
  · exact fun h => ⟨toLK x, h, rfl⟩
/-- A list with one pair more. -/
def sevL (p : LK) (ls : List LK) : List LK := if 0 ≤ idxK (eqK p) ls then ls else ls.take (ahd p ls) ++ [p] ++ ls.drop (ahd p ls)
theorem sevL_mem (p q : LK) (ls : List LK) : q ∈ sevL p ls ↔ q = p ∨ q ∈ ls := by
  unfold sevL
  split
  · rename_i h
    rw [idxK_mem] at h
    constructor
    · exact .inr
    · rintro (rfl | h')
      · exact h
      · exact h'
  · have e : q ∈ ls ↔ q ∈ ls.take (ahd p ls) ∨ q ∈ ls.drop (ahd p ls) := by rw [← List.mem_append, List.take_append_drop]
    rw [List.mem_append, List.mem_append, List.mem_singleton, e]
    constructor
    · rintro ((h | h) | h)
      · exact .inr (.inl h)
      · exact .inl h
      · exact .inr (.inr h)
    · rintro (h | h | h)
      · exact .inl (.inr h)
      · exact .inl (.inl h)
      · exact .inr h
theorem less_trans {p q s : LK} (h : lessK p q = true) (k : lessK q s = true) : lessK p s = true := by
  rw [← ltP_pr] at *
  unfold ltP at *
  omega
theorem less_total {p q : LK} (h : lessK p q = false) (k : p ≠ q) : lessK q p = true := by
  obtain ⟨a, b⟩ := p
  obtain ⟨c, d⟩ := q
  have k' : ¬ (a = c ∧ b = d) := fun h => k (by rw [h.1, h.2])
  simp [lessK] at *
  omega
theorem ahd_cons (p q : LK) (ls : List LK) : ahd p (q :: ls) = if lessK q p = true then ahd p ls + 1 else 0 := by
  unfold ahd
  rw [List.takeWhile_cons]
  split <;> simp
theorem ins_rise (p : LK) : ∀ ls : List LK, ls.Pairwise (fun a b => lessK a b = true) → p ∉ ls → (ls.take (ahd p ls) ++ [p] ++ ls.drop (ahd p ls)).Pairwise (fun a b => lessK a b = true)
  | [], _, _ => by simp [ahd]
  | q :: ls, h, hp => by
    rw [ahd_cons]
    rw [List.pairwise_cons] at h
    have hpq : p ≠ q := fun e => hp (by simp [e])
    have hpl : p ∉ ls := fun e => hp (by simp [e])
    split
    · rename_i hq
      have ih := ins_rise p ls h.2 hpl
      show (q :: (ls.take (ahd p ls) ++ [p] ++ ls.drop (ahd p ls))).Pairwise _
      rw [List.pairwise_cons]
      refine ⟨fun z hz => ?_, ih⟩
      rw [List.mem_append, List.mem_append, List.mem_singleton] at hz
      rcases hz with (hz | rfl) | hz
      · exact h.1 z (List.mem_of_mem_take hz)
      · exact hq
      · exact h.1 z (List.mem_of_mem_drop hz)
    · rename_i hq
      have hpq' : lessK p q = true := less_total (by simpa using hq) (fun e => hpq e.symm)
      show (p :: q :: ls).Pairwise _
      rw [List.pairwise_cons]
      refine ⟨fun z hz => ?_, List.pairwise_cons.2 h⟩
      rcases List.mem_cons.1 hz with rfl | hz
      · exact hpq'
      · exact less_trans hpq' (h.1 z hz)
theorem sevL_rise {p : LK} {ls : List LK} (h : Rise (ls.map pr)) : Rise ((sevL p ls).map pr) := by
  rw [rise_iff] at *
  unfold sevL
  split
  · exact h
  · rename_i hc
    exact ins_rise p ls h (fun hp => hc ((idxK_mem p ls).2 hp))
theorem Lnk.sever {D : DataW Unit} {ls : List LK} (h : Lnk D ls) (hD : Tidy D) {p : LK} (h1 : I64 p.fst) (h2 : I64 p.snd) : Lnk (D.put (klOf p.fst p.snd) (.agg [])) (sevL p ls) := by
  have hr := sevL_rise (p := p) h.rise
  refine ⟨⟨rise_nodup hr, fun x => ?_⟩, hr⟩
  rw [mem_pr, sevL_mem, ← mem_pr, h.keys.2 x]
  by_cases hw : Wf x.1 ∧ Wf x.2
  · by_cases e : toLK x = p
    · have hx : x = pr p := by rw [← e]; rfl
      subst hx
      exact ⟨fun _ => ⟨hw, has_put_same hD.isMap (show WideAt.IsKeyLit (klOf p.fst p.snd) from trivial) _⟩, fun _ => .inl rfl⟩
    · have hne : klOf x.1 x.2 ≠ klOf p.fst p.snd := fun he => by
        obtain ⟨e1, e2⟩ := kl_inj hw.1 hw.2 (wf_of h1) (wf_of h2) he
        exact e (by obtain ⟨a, b⟩ := p; simp [toLK] at *; exact ⟨e1, e2⟩)
      rw [has_put_other hne]
      exact ⟨fun h => by rcases h with h | h; (· exact absurd h e); (· exact h), fun h => .inr h⟩
  · constructor
    · rintro (e | ⟨h, _⟩)
      · have hx : x = pr p := by rw [← e]; rfl
        subst hx
        exact absurd ⟨wf_of h1, wf_of h2⟩ hw
      · exact absurd h hw
    · rintro ⟨h, _⟩
      exact absurd h hw
/-- A list with one pair less. -/
def menL (p : LK) (ls : List LK) : List LK := match ls.findIdx? (eqK p) with | some i => ls.take i ++ ls.drop (i + 1) | none => ls
theorem menL_sub (p : LK) (ls : List LK) : (menL p ls).Sublist ls := by
  unfold menL
  split
  · rw [← List.eraseIdx_eq_take_drop_succ]; exact List.eraseIdx_sublist _ _
  · exact List.Sublist.refl _
theorem menL_mem {p q : LK} {ls : List LK} (hn : ls.Nodup) : q ∈ menL p ls ↔ q ∈ ls ∧ q ≠ p := by
  unfold menL
  split
  · rename_i i hi
    rw [List.findIdx?_eq_some_iff_getElem] at hi
    obtain ⟨hl, h1, _⟩ := hi
    rw [eqK_iff] at h1
    rw [← List.eraseIdx_eq_take_drop_succ, List.mem_eraseIdx_iff_getElem]
    constructor
    · rintro ⟨j, hj, hji, rfl⟩
      refine ⟨List.getElem_mem hj, fun e => hji ?_⟩
      rw [← h1] at e
      have P := List.pairwise_iff_getElem.1 hn
      rcases Nat.lt_trichotomy j i with c | c | c
      · exact absurd e (P j i hj hl c)
      · exact c
      · exact absurd e.symm (P i j hl hj c)
    · rintro ⟨hq, hne⟩
      obtain ⟨j, hj, rfl⟩ := List.getElem_of_mem hq
      exact ⟨j, hj, fun e => hne (by subst e; exact h1), rfl⟩
  · rename_i hi
    rw [List.findIdx?_eq_none_iff] at hi
    refine ⟨fun h => ⟨h, fun e => ?_⟩, fun h => h.1⟩
    have := hi q h
    rw [(eqK_iff p q).2 e] at this
    cases this
theorem nodup_pr {ls : List LK} (h : (ls.map pr).Nodup) : ls.Nodup := by
  exact (List.pairwise_map.1 h).imp fun {a b} h e => h (by rw [e])
theorem Lnk.mend {D : DataW Unit} {ls : List LK} (h : Lnk D ls) {p : LK} (h1 : I64 p.fst) (h2 : I64 p.snd) : Lnk (D.del (klOf p.fst p.snd)) (menL p ls) := by
  have hr : Rise ((menL p ls).map pr) := h.rise.sublist ((menL_sub p ls).map pr)
  refine ⟨⟨rise_nodup hr, fun x => ?_⟩, hr⟩
  rw [mem_pr, menL_mem (nodup_pr h.keys.1), ← mem_pr, h.keys.2 x]
  constructor
  · rintro ⟨⟨hw, hx⟩, hne⟩
    refine ⟨hw, ?_⟩
    rw [has_del_other (fun he => ?_)]
    · exact hx
    · obtain ⟨e1, e2⟩ := kl_inj hw.1 hw.2 (wf_of h1) (wf_of h2) he
      exact hne (by obtain ⟨a, b⟩ := p; simp [toLK] at *; exact ⟨e1, e2⟩)
  · rintro ⟨hw, hx⟩
    by_cases e : klOf x.1 x.2 = klOf p.fst p.snd
    · rw [e, has_del_same] at hx; cases hx
    · rw [has_del_other e] at hx
      exact ⟨⟨hw, hx⟩, fun e' => e (by rw [← e']; rfl)⟩
theorem lnk_nil : Lnk (.map []) [] := ⟨⟨List.nodup_nil, fun x => ⟨fun h => (by cases h), fun h => (by have := h.2; simp [Maps.has_eq] at this)⟩⟩, List.Pairwise.nil⟩
end Go.Proofs.Ytoppecppmjpgiaa
