/-
  What was seen, as mathematics: fit lists, what stands there of a peer, an entry put among the others.
-/
import Derived.Test.YteoiogjaecpddaaS4
namespace Go.Proofs.Yteoiogjaecpddaa
open Go.ChangeShapes Go.WideShapes Go.ChangeAt Go.RowKit
set_option linter.unusedVariables false
set_option linter.unusedSimpArgs false

def EntP (x : SN) : Prop := (0 ≤ x.peer ∧ x.peer < 16) ∧ (0 ≤ x.boot ∧ x.boot ≤ 1099511627776) ∧ (0 ≤ x.life ∧ x.life ≤ 1099511627776) ∧ (0 ≤ x.mine ∧ x.mine ≤ 1099511627776) ∧ (0 < x.boot ∨ (x.life = 0 ∧ 0 < x.mine))
def FitP (id : Int) (l : List SN) : Prop := nodeB id = true ∧ l.Pairwise (fun x y => x.peer < y.peer) ∧ ∀ x ∈ l, x.peer ≠ id ∧ EntP x
theorem getD_get (l : List SN) (i : Nat) (h : i < l.length) : l.getD i SN.z = l[i] := by simp [List.getD_eq_getElem?_getD, h]
theorem fit_iff {id : Int} {l : List SN} : fitS id l = true ↔ FitP id l := by
  constructor
  · intro h
    unfold fitS at h
    rw [Bool.and_eq_true, List.all_eq_true] at h
    have ok : ∀ i (hi : i < l.length), lastS l i < l[i].peer ∧ l[i].peer ≠ id ∧ EntP l[i] := fun i hi => by
      have := h.2 i (List.mem_range.2 hi)
      unfold okS at this
      rw [getD_get _ _ hi] at this
      exact ok_iff.1 this
    refine ⟨h.1, List.pairwise_iff_getElem.2 ?_, ?_⟩
    · have key : ∀ d i (hj : i + d + 1 < l.length), (l[i]'(by omega)).peer < (l[i + d + 1]'hj).peer := by
        intro d
        induction d with
        | zero =>
          intro i hj
          have := (ok (i + 1) hj).1
          rw [lastS_succ, getD_get _ _ (by omega)] at this
          exact this
        | succ d ih =>
          intro i hj
          have h1 := ih i (by omega)
          have h2 := (ok (i + (d + 1) + 1) hj).1
          rw [lastS_succ, getD_get _ _ (by omega)] at h2
          exact Int.lt_trans h1 h2
      intro i j hi hj hij
      obtain ⟨d, rfl⟩ : ∃ d, j = i + d + 1 := ⟨j - i - 1, by omega⟩
      exact key d i hj
    · intro x hx
      obtain ⟨i, hi, rfl⟩ := List.getElem_of_mem hx
      exact (ok i hi).2
  · rintro ⟨h1, h2, h3⟩
    unfold fitS
    rw [Bool.and_eq_true, List.all_eq_true]
    refine ⟨h1, fun i hi => ?_⟩
    have hi := List.mem_range.1 hi
    unfold okS
    rw [getD_get _ _ hi]
    have h4 := h3 l[i] (List.getElem_mem hi)
    refine ok_iff.2 ⟨?_, h4⟩
    cases i with
    | zero => show (-1 : Int) < _; have := h4.2.1; omega
    | succ i =>
      rw [lastS_succ, getD_get _ _ (by omega)]
      exact List.pairwise_iff_getElem.1 h2 i (i + 1) (by omega) hi (by omega)
theorem fit_false {id : Int} {l : List SN} (h : ¬ FitP id l) : fitS id l = false := Bool.eq_false_iff.2 fun k => h (fit_iff.1 k)
theorem rise_len : ∀ (l : List SN) (lo : Int), lo ≤ 16 → l.Pairwise (fun x y => x.peer < y.peer) → (∀ x ∈ l, lo ≤ x.peer ∧ x.peer < 16) → (l.length : Int) ≤ 16 - lo
  | [], lo, h, _, _ => by simp; omega
  | x :: r, lo, h, hp, hx => by
    have h1 := hx x (by simp)
    have h2 := rise_len r (x.peer + 1) (by omega) (List.pairwise_cons.1 hp).2 (fun y hy => ⟨by have := (List.pairwise_cons.1 hp).1 y hy; omega, (hx y (by simp [hy])).2⟩)
    simp
    omega
theorem fit_len {id : Int} {l : List SN} (h : FitP id l) : l.length ≤ 16 := by
  have := rise_len l 0 (by omega) h.2.1 (fun x hx => (h.2.2 x hx).2.1)
  omega
/-! ### What stands there of a peer -/
def getL (k : Int) : List SN → SN
  | [] => ⟨k, 0, 0, 0⟩
  | x :: r => if x.peer < k then getL k r else if x.peer = k then x else ⟨k, 0, 0, 0⟩
def hasL (k : Int) : List SN → Bool
  | [] => false
  | x :: r => if x.peer < k then hasL k r else decide (x.peer = k)
theorem posS_cons (k : Int) (x : SN) (r : List SN) : posS k (x :: r) = if x.peer < k then posS k r + 1 else 0 := by
  unfold posS
  rw [pos]
  simp [ltI]
theorem hitS_L (k : Int) : ∀ l : List SN, hitS k l = hasL k l
  | [] => rfl
  | x :: r => by
    have ih := hitS_L k r
    have e := posS_cons k x r
    unfold hitS hit at ih ⊢
    unfold hasL
    by_cases h : x.peer < k
    · rw [if_pos h] at e ⊢
      rw [← ih]
      unfold posS at e
      rw [e]
      rfl
    · rw [if_neg h] at e ⊢
      unfold posS at e
      rw [e]
      rfl
def getS (k : Int) (l : List SN) : SN := if hitS k l = true then l.getD (posS k l) SN.z else ⟨k, 0, 0, 0⟩
theorem getS_L (k : Int) : ∀ l : List SN, getS k l = getL k l
  | [] => rfl
  | x :: r => by
    have ih := getS_L k r
    unfold getS at ih ⊢
    rw [hitS_L] at ih ⊢
    rw [posS_cons]
    unfold hasL getL
    by_cases h : x.peer < k
    · simp only [if_pos h]
      exact ih
    · simp only [if_neg h]
      by_cases e : x.peer = k
      · simp [e]
      · simp [e]
theorem get_peer (k : Int) : ∀ l : List SN, (getL k l).peer = k
  | [] => rfl
  | x :: r => by
    unfold getL
    split
    · exact get_peer k r
    · split
      · assumption
      · rfl
theorem get_has {k : Int} : ∀ {l : List SN}, hasL k l = true → getL k l ∈ l
  | [], h => by cases h
  | x :: r, h => by
    unfold hasL at h
    unfold getL
    by_cases e : x.peer < k
    · rw [if_pos e] at h ⊢
      exact List.mem_cons_of_mem _ (get_has h)
    · rw [if_neg e] at h ⊢
      rw [if_pos (of_decide_eq_true h)]
      exact List.mem_cons_self
theorem get_hasnt {k : Int} : ∀ {l : List SN}, hasL k l = false → getL k l = ⟨k, 0, 0, 0⟩
  | [], h => rfl
  | x :: r, h => by
    unfold hasL at h
    unfold getL
    by_cases e : x.peer < k
    · rw [if_pos e] at h ⊢
      exact get_hasnt h
    · rw [if_neg e] at h ⊢
      rw [if_neg (of_decide_eq_false h)]
theorem get_rng {id k : Int} {l : List SN} (h : FitP id l) : (0 ≤ (getL k l).boot ∧ (getL k l).boot ≤ 1099511627776) ∧ (0 ≤ (getL k l).life ∧ (getL k l).life ≤ 1099511627776) ∧ (0 ≤ (getL k l).mine ∧ (getL k l).mine ≤ 1099511627776) := by
  cases e : hasL k l with
  | true => have := (h.2.2 _ (get_has e)).2; exact ⟨this.2.1, this.2.2.1, this.2.2.2.1⟩
  | false => rw [get_hasnt e]; simp
/-- In a rising list the first one that is the peer's is what stands there. -/
theorem has_at {k : Int} {l : List SN} {i : Nat} (hi : i < l.length) (hr : l.Pairwise (fun x y => x.peer < y.peer)) (h : l[i].peer = k) : posS k l = i ∧ hitS k l = true := by
  refine ⟨?_, ?_⟩
  · refine pos_at (x := l[i]) (fun q hq => ?_) (List.getElem?_eq_getElem hi) (decide_eq_false (by rw [h]; omega))
    obtain ⟨j, hj, rfl⟩ := List.getElem_of_mem hq
    have hj' : j < i := by simp at hj; omega
    rw [List.getElem_take]
    exact decide_eq_true (by rw [← h]; exact List.pairwise_iff_getElem.1 hr j i (by omega) hi hj')
  · have := hit_at (lt := fun x : SN => ltI x.peer k) (eq := fun x => eqI x.peer k) (x := l[i]) (l := l) (i := i) (fun q hq => by
      obtain ⟨j, hj, rfl⟩ := List.getElem_of_mem hq
      have hj' : j < i := by simp at hj; omega
      rw [List.getElem_take]
      exact decide_eq_true (by rw [← h]; exact List.pairwise_iff_getElem.1 hr j i (by omega) hi hj')) (List.getElem?_eq_getElem hi) (decide_eq_false (by rw [h]; omega))
    exact this.2.trans (decide_eq_true h)
theorem has_no {k : Int} {l : List SN} (h : ∀ j, j < l.length → (l.getD j SN.z).peer ≠ k) : hitS k l = false := by
  rw [hitS_L]
  cases e : hasL k l with
  | false => rfl
  | true =>
    obtain ⟨j, hj, hx⟩ := List.getElem_of_mem (get_has e)
    have := h j hj
    rw [getD_get _ _ hj, hx] at this
    exact absurd (get_peer k l) this
/-! ### An entry among the others -/
def insS (s : SN) : List SN → List SN
  | [] => [s]
  | x :: r => if x.peer < s.peer then x :: insS s r else if x.peer = s.peer then s :: r else s :: x :: r
theorem insS_cut (s : SN) : ∀ l : List SN, insS s l = l.take (posS s.peer l) ++ [s] ++ l.drop (if hitS s.peer l = true then posS s.peer l + 1 else posS s.peer l)
  | [] => rfl
  | x :: r => by
    have ih := insS_cut s r
    rw [hitS_L] at ih ⊢
    rw [posS_cons]
    unfold insS hasL
    by_cases h : x.peer < s.peer
    · simp only [if_pos h]
      rw [ih]
      split <;> simp
    · simp only [if_neg h]
      by_cases e : x.peer = s.peer
      · simp [e]
      · simp [e]
theorem ins_len (s : SN) : ∀ l : List SN, (insS s l).length ≤ l.length + 1
  | [] => by simp [insS]
  | x :: r => by
    have := ins_len s r
    unfold insS
    split
    · simp; omega
    · split <;> simp
theorem get_ins (k : Int) (s : SN) : ∀ l : List SN, getL k (insS s l) = if k = s.peer then s else getL k l
  | [] => by
    by_cases h : k = s.peer
    · rw [if_pos h]; simp [insS, getL, h]
    · rw [if_neg h]
      simp only [insS, getL]
      by_cases h1 : s.peer < k
      · rw [if_pos h1]
      · rw [if_neg h1, if_neg (fun e => h e.symm)]
  | x :: r => by
    have ih := get_ins k s r
    unfold insS
    by_cases h : x.peer < s.peer
    · rw [if_pos h]
      unfold getL
      rw [ih]
      by_cases e : k = s.peer
      · subst e; simp [h]
      · simp only [if_neg e]
    · rw [if_neg h]
      by_cases e : x.peer = s.peer
      · rw [if_pos e]
        by_cases ek : k = s.peer
        · subst ek; simp [getL]
        · rw [if_neg ek]
          simp only [getL, e]
          by_cases h1 : s.peer < k
          · simp [h1]
          · simp only [if_neg h1]
            rw [if_neg (fun q => ek q.symm), if_neg (fun q => ek q.symm)]
      · rw [if_neg e]
        by_cases ek : k = s.peer
        · subst ek; simp [getL]
        · rw [if_neg ek]
          by_cases h1 : s.peer < k
          · rw [getL, if_pos h1]
          · rw [getL, if_neg h1, if_neg (fun q => ek q.symm), getL, if_neg (by omega), if_neg (by omega)]
theorem mem_ins {s y : SN} : ∀ {l : List SN}, y ∈ insS s l → y = s ∨ y ∈ l
  | [], h => by simp [insS] at h; exact .inl h
  | x :: r, h => by
    unfold insS at h
    split at h
    · rcases List.mem_cons.1 h with h | h
      · exact .inr (by simp [h])
      · rcases mem_ins h with h | h
        · exact .inl h
        · exact .inr (by simp [h])
    · split at h
      · rcases List.mem_cons.1 h with h | h
        · exact .inl h
        · exact .inr (by simp [h])
      · rcases List.mem_cons.1 h with h | h
        · exact .inl h
        · exact .inr h
theorem rise_ins {s : SN} : ∀ {l : List SN}, l.Pairwise (fun x y => x.peer < y.peer) → (insS s l).Pairwise (fun x y => x.peer < y.peer)
  | [], _ => by simp [insS]
  | x :: r, h => by
    have h2 := List.pairwise_cons.1 h
    unfold insS
    split
    · refine List.pairwise_cons.2 ⟨fun y hy => ?_, rise_ins h2.2⟩
      rcases mem_ins hy with rfl | hy
      · assumption
      · exact h2.1 y hy
    · split
      · rename_i _ e
        exact List.pairwise_cons.2 ⟨fun y hy => by have := h2.1 y hy; omega, h2.2⟩
      · refine List.pairwise_cons.2 ⟨fun y hy => ?_, h⟩
        rcases List.mem_cons.1 hy with rfl | hy
        · omega
        · have := h2.1 y hy; omega
theorem fit_ins {id : Int} {s : SN} {l : List SN} (h : FitP id l) (hs : s.peer ≠ id) (he : EntP s) : FitP id (insS s l) :=
  ⟨h.1, rise_ins h.2.1, fun x hx => by
    rcases mem_ins hx with rfl | hx
    · exact ⟨hs, he⟩
    · exact h.2.2 x hx⟩
theorem ins_same {k : Int} : ∀ {l : List SN}, hasL k l = true → insS (getL k l) l = l
  | [], h => by cases h
  | x :: r, h => by
    have hp := get_peer k (x :: r)
    unfold hasL at h
    unfold insS
    rw [hp]
    by_cases e : x.peer < k
    · rw [if_pos e] at h
      rw [if_pos e, getL, if_pos e, ins_same h]
    · rw [if_neg e] at h
      have e2 := of_decide_eq_true h
      rw [if_neg e, if_pos e2, getL, if_neg e, if_pos e2]
/-! ### See, Dropped -/
def seen1 (s : SN) (b f : Int) : SN := ⟨s.peer, b, f, s.mine⟩
def drop1 (s : SN) : SN := ⟨s.peer, s.boot, s.life, (if 1099511627775 < s.mine then 1099511627775 else s.mine) + 1⟩
def seeL (k b f : Int) (l : List SN) : List SN := if ltr b f (getL k l).boot (getL k l).life = true then insS (seen1 (getL k l) b f) l else l
def drpL (k : Int) (l : List SN) : List SN := insS (drop1 (getL k l)) l
theorem see_has {id k b f : Int} {l : List SN} (h : FitP id l) (hb : 1 ≤ b) (hn : ltr b f (getL k l).boot (getL k l).life = false) : hasL k l = true := by
  cases e : hasL k l with
  | true => rfl
  | false =>
    rw [get_hasnt e] at hn
    have := ltr_no.1 hn
    simp at this
    omega
theorem fit_see {id k b f : Int} {l : List SN} (h : FitP id l) (hk : 0 ≤ k ∧ k < 16) (hki : k ≠ id) (hb : 1 ≤ b ∧ b ≤ 1099511627776) (hf : 0 ≤ f ∧ f ≤ 1099511627776) : FitP id (seeL k b f l) := by
  unfold seeL
  split
  · have hr := get_rng (k := k) h
    exact fit_ins h (by rw [seen1, get_peer]; exact hki) ⟨by rw [seen1, get_peer]; exact hk, ⟨by show 0 ≤ b; omega, hb.2⟩, hf, hr.2.2, .inl (by show 0 < b; omega)⟩
  · exact h
theorem fit_drp {id k : Int} {l : List SN} (h : FitP id l) (hk : 0 ≤ k ∧ k < 16) (hki : k ≠ id) : FitP id (drpL k l) := by
  unfold drpL
  have hr := get_rng (k := k) h
  refine fit_ins h (by rw [drop1, get_peer]; exact hki) ⟨by rw [drop1, get_peer]; exact hk, hr.1, hr.2.1, ?_, ?_⟩
  · have hm : (drop1 (getL k l)).mine = (if 1099511627775 < (getL k l).mine then 1099511627775 else (getL k l).mine) + 1 := rfl
    rw [hm]
    split <;> omega
  · have hm : (drop1 (getL k l)).mine = (if 1099511627775 < (getL k l).mine then 1099511627775 else (getL k l).mine) + 1 := rfl
    rw [hm]
    show 0 < (getL k l).boot ∨ ((getL k l).life = 0 ∧ _)
    cases e : hasL k l with
    | false =>
      rw [get_hasnt e]
      right
      simp
    | true =>
      rcases (h.2.2 _ (get_has e)).2.2.2.2.2 with h1 | h1
      · exact .inl h1
      · refine .inr ⟨h1.1, ?_⟩
        split <;> omega
theorem get_see (p k b f : Int) (l : List SN) : getL p (seeL k b f l) = if p = k ∧ ltr b f (getL k l).boot (getL k l).life = true then seen1 (getL k l) b f else getL p l := by
  unfold seeL
  by_cases h : ltr b f (getL k l).boot (getL k l).life = true
  · rw [if_pos h, get_ins]
    have e : (seen1 (getL k l) b f).peer = k := get_peer k l
    rw [e]
    by_cases hp : p = k
    · rw [if_pos hp, if_pos ⟨hp, h⟩]
    · rw [if_neg hp, if_neg (fun q => hp q.1)]
  · rw [if_neg h, if_neg (fun q => h q.2)]
theorem get_drp (p k : Int) (l : List SN) : getL p (drpL k l) = if p = k then drop1 (getL k l) else getL p l := by
  unfold drpL
  rw [get_ins]
  have e : (drop1 (getL k l)).peer = k := get_peer k l
  rw [e]
end Go.Proofs.Yteoiogjaecpddaa
