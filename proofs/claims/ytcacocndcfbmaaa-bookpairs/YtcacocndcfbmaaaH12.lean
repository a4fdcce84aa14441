/-
  Rising peers: where Find finds, what Put and Drop leave.
-/
import Derived.Test.YtcacocndcfbmaaaH11
import Derived.Test.YtcacocndcfbmaaaH4
import Derived.Test.YtcacocndcfbmaaaG0
namespace Go.Proofs.Ytcacocndcfbmaaa
set_option linter.unusedVariables false
set_option linter.unusedSimpArgs false

def Rise (hs : List HS) : Prop := ∀ i j, i < j → j < hs.length → (hs.getD i HS.z).peer < (hs.getD j HS.z).peer
theorem fits_each {id : Int} {hs : List HS} (h : fitsB id hs = true) : ∀ j, j < hs.length → (hs.getD j HS.z).fit id = true := fun j hj => by
  unfold fitsB at h
  rw [Bool.and_eq_true, List.all_eq_true] at h
  have := h.2 j (List.mem_range.2 hj)
  unfold fitsAt at this
  rw [Bool.and_eq_true] at this
  exact this.1
theorem fits_next {id : Int} {hs : List HS} (h : fitsB id hs = true) (j : Nat) (hj : j + 1 < hs.length) : (hs.getD j HS.z).peer < (hs.getD (j + 1) HS.z).peer := by
  unfold fitsB at h
  rw [Bool.and_eq_true, List.all_eq_true] at h
  have := h.2 (j + 1) (List.mem_range.2 hj)
  unfold fitsAt at this
  rw [Bool.and_eq_true, Bool.or_eq_true] at this
  rcases this.2 with h1 | h1
  · have := of_decide_eq_true h1; omega
  · exact of_decide_eq_true h1
theorem fits_rise {id : Int} {hs : List HS} (h : fitsB id hs = true) : Rise hs := by
  intro i j hij
  induction j with
  | zero => omega
  | succ j ih =>
    intro hj
    have h1 := fits_next h j hj
    by_cases e : i = j
    · subst e; exact h1
    · have := ih (by omega) (by omega)
      omega
theorem fits_node {id : Int} {hs : List HS} (h : fitsB id hs = true) : nodeB id = true := by
  unfold fitsB at h
  rw [Bool.and_eq_true] at h
  exact h.1
theorem fits_of {id : Int} {hs : List HS} (hn : nodeB id = true) (hf : ∀ j, j < hs.length → (hs.getD j HS.z).fit id = true) (hr : Rise hs) : fitsB id hs = true := by
  rw [fits_yes fun j hj => ?_, hn]
  unfold fitsAt
  rw [hf j hj]
  by_cases e : j = 0
  · subst e; rfl
  · rw [show ltI (hs.getD (j - 1) HS.z).peer (hs.getD j HS.z).peer = true from decide_eq_true (hr (j - 1) j (by omega) hj)]
    simp
theorem fit_top {id : Int} {x : HS} (h : x.fit id = true) : 0 ≤ x.peer ∧ x.peer < 16 := by
  unfold HS.fit at h
  simp only [Bool.and_eq_true] at h
  exact of_decide_eq_true h.2.1
theorem rise_low {hs : List HS} (hr : Rise hs) (h0 : ∀ j, j < hs.length → 0 ≤ (hs.getD j HS.z).peer) : ∀ j, j < hs.length → (j : Int) ≤ (hs.getD j HS.z).peer := by
  intro j
  induction j with
  | zero => intro hj; exact h0 0 hj
  | succ j ih =>
    intro hj
    have h1 := ih (by omega)
    have h2 := hr j (j + 1) (by omega) hj
    omega
theorem fits_few {id : Int} {hs : List HS} (h : fitsB id hs = true) : hs.length ≤ 16 := by
  by_cases e : hs.length = 0
  · omega
  · have h1 := rise_low (fits_rise h) (fun j hj => (fit_top (fits_each h j hj)).1) (hs.length - 1) (by omega)
    have h2 := (fit_top (fits_each h (hs.length - 1) (by omega))).2
    omega
theorem pos_unique {α : Type} {lt : α → Bool} (z : α) : ∀ {l : List α} {p : Nat}, p ≤ l.length → (∀ j, j < p → lt (l.getD j z) = true) → (p < l.length → lt (l.getD p z) = false) → pos lt l = p
  | [], p, hp, _, _ => by simp at hp; subst hp; rfl
  | x :: r, 0, _, _, h => by
    have := h (by simp)
    simp at this
    simp [pos, this]
  | x :: r, p + 1, hp, h0, h => by
    have h1 := h0 0 (by omega)
    simp at h1
    have ih := pos_unique (lt := lt) z (l := r) (p := p) (by simpa using hp) (fun j hj => by have := h0 (j + 1) (by omega); simpa using this) (fun hp' => by have := h (by simpa using hp'); simpa using this)
    simp [pos, h1, ih]
theorem hit_pos {k : Int} {hs : List HS} : hitH k hs = (decide (posH k hs < hs.length) && eqI (hs.getD (posH k hs) HS.z).peer k) := by
  unfold hitH hit
  by_cases h : posH k hs < hs.length
  · rw [List.getElem?_eq_getElem h, decide_eq_true h, List.getD_eq_getElem?_getD, List.getElem?_eq_getElem h]
    rfl
  · rw [List.getElem?_eq_none (Nat.le_of_not_lt h), decide_eq_false h]
    rfl
/-- Find of what stands at a place of a rising list is it. -/
theorem find_at {hs : List HS} (hr : Rise hs) (i : Nat) (hi : i < hs.length) : posH (hs.getD i HS.z).peer hs = i ∧ hitH (hs.getD i HS.z).peer hs = true ∧ findH (hs.getD i HS.z).peer hs = hs.getD i HS.z := by
  have hp : posH (hs.getD i HS.z).peer hs = i := pos_unique HS.z (by omega) (fun j hj => decide_eq_true (hr j i hj hi)) (fun _ => decide_eq_false (by omega))
  have hh : hitH (hs.getD i HS.z).peer hs = true := by
    rw [hit_pos, hp, decide_eq_true hi]
    exact decide_eq_true rfl
  refine ⟨hp, hh, ?_⟩
  unfold findH
  rw [if_pos hh, hp]
theorem hit_peer {k : Int} {hs : List HS} (h : hitH k hs = true) : posH k hs < hs.length ∧ (hs.getD (posH k hs) HS.z).peer = k := by
  rw [hit_pos, Bool.and_eq_true] at h
  exact ⟨of_decide_eq_true h.1, of_decide_eq_true h.2⟩
theorem no_above {k : Int} {hs : List HS} (hr : Rise hs) (h : hitH k hs = false) (j : Nat) (hj : posH k hs ≤ j) (hl : j < hs.length) : k < (hs.getD j HS.z).peer := by
  have h0 := at_pos (lt := fun x : HS => ltI x.peer k) HS.z (l := hs) (by show posH k hs < hs.length; omega)
  have h1 : ¬ (hs.getD (posH k hs) HS.z).peer < k := of_decide_eq_false h0
  have h2 : (hs.getD (posH k hs) HS.z).peer ≠ k := by
    rw [hit_pos, decide_eq_true (show posH k hs < hs.length by omega), Bool.true_and] at h
    exact of_decide_eq_false h
  by_cases e : posH k hs = j
  · rw [← e]; omega
  · have := hr (posH k hs) j (by omega) hl
    omega
theorem below_pos {k : Int} {hs : List HS} (j : Nat) (hj : j < posH k hs) : (hs.getD j HS.z).peer < k := of_decide_eq_true (lt_of_pos (lt := fun x : HS => ltI x.peer k) HS.z (l := hs) hj)
theorem put_hit {x : HS} {hs : List HS} (h : hitH x.peer hs = true) : putH x hs = hs.set (posH x.peer hs) x := by unfold putH; rw [if_pos h]
theorem put_no {x : HS} {hs : List HS} (h : hitH x.peer hs = false) : putH x hs = hs.take (posH x.peer hs) ++ x :: hs.drop (posH x.peer hs) := by unfold putH; rw [if_neg (by rw [h]; decide)]
theorem ins_len {α : Type} (l : List α) (p : Nat) (x : α) (hp : p ≤ l.length) : (l.take p ++ x :: l.drop p).length = l.length + 1 := by
  rw [List.length_append, List.length_cons, List.length_take, List.length_drop]; omega
theorem put_rise {x : HS} {hs : List HS} (hr : Rise hs) : Rise (putH x hs) := by
  cases h : hitH x.peer hs with
  | true =>
    obtain ⟨hp, he⟩ := hit_peer h
    rw [put_hit h]
    intro i j hij hj
    rw [List.length_set] at hj
    have pe : ∀ i, ((hs.set (posH x.peer hs) x).getD i HS.z).peer = (hs.getD i HS.z).peer := fun i => by
      rw [getD_set _ _ _ _ _ hp]
      split
      · rename_i e; rw [e, he]
      · rfl
    rw [pe, pe]
    exact hr i j hij hj
  | false =>
    have hp : posH x.peer hs ≤ hs.length := pos_le _ _
    rw [put_no h]
    intro i j hij hj
    rw [ins_len _ _ _ hp] at hj
    rw [getD_ins _ _ _ _ _ hp, getD_ins _ _ _ _ _ hp]
    by_cases h1 : i < posH x.peer hs
    · rw [if_pos h1]
      by_cases h2 : j < posH x.peer hs
      · rw [if_pos h2]; exact hr i j hij (by omega)
      · rw [if_neg h2]
        by_cases h3 : j = posH x.peer hs
        · rw [if_pos h3]; exact below_pos i h1
        · rw [if_neg h3]; exact hr i (j - 1) (by omega) (by omega)
    · rw [if_neg h1, if_neg (show ¬ j < posH x.peer hs by omega), if_neg (show ¬ j = posH x.peer hs by omega)]
      by_cases h3 : i = posH x.peer hs
      · rw [if_pos h3]; exact no_above hr h (j - 1) (by omega) (by omega)
      · rw [if_neg h3]; exact hr (i - 1) (j - 1) (by omega) (by omega)
/-- Where Put put it. -/
theorem put_at {x : HS} {hs : List HS} : posH x.peer hs < (putH x hs).length ∧ (putH x hs).getD (posH x.peer hs) HS.z = x := by
  have hp : posH x.peer hs ≤ hs.length := pos_le _ _
  cases h : hitH x.peer hs with
  | true =>
    obtain ⟨hp', he⟩ := hit_peer h
    rw [put_hit h, List.length_set, getD_set _ _ _ _ _ hp', if_pos rfl]
    exact ⟨hp', rfl⟩
  | false =>
    rw [put_no h, ins_len _ _ _ hp, getD_ins _ _ _ _ _ hp, if_neg (by omega), if_pos rfl]
    exact ⟨by omega, rfl⟩
theorem put_found {x : HS} {hs : List HS} (hr : Rise hs) : posH x.peer (putH x hs) = posH x.peer hs ∧ hitH x.peer (putH x hs) = true ∧ findH x.peer (putH x hs) = x := by
  have h := find_at (put_rise (x := x) hr) _ (put_at (x := x) (hs := hs)).1
  rw [put_at.2] at h
  exact h
/-- The others stay. -/
theorem put_other {x : HS} {hs : List HS} (hr : Rise hs) (i : Nat) (hi : i < hs.length) (hne : (hs.getD i HS.z).peer ≠ x.peer) : hitH (hs.getD i HS.z).peer (putH x hs) = true ∧ findH (hs.getD i HS.z).peer (putH x hs) = hs.getD i HS.z := by
  have hp : posH x.peer hs ≤ hs.length := pos_le _ _
  obtain ⟨j, hj, e⟩ : ∃ j, j < (putH x hs).length ∧ (putH x hs).getD j HS.z = hs.getD i HS.z := by
    cases h : hitH x.peer hs with
    | true =>
      obtain ⟨hp', he⟩ := hit_peer h
      refine ⟨i, by rw [put_hit h, List.length_set]; exact hi, ?_⟩
      rw [put_hit h, getD_set _ _ _ _ _ hp', if_neg (fun e => hne (by rw [e]; exact he))]
    | false =>
      rw [put_no h, ins_len _ _ _ hp]
      by_cases h1 : i < posH x.peer hs
      · exact ⟨i, by omega, by rw [getD_ins _ _ _ _ _ hp, if_pos h1]⟩
      · exact ⟨i + 1, by omega, by rw [getD_ins _ _ _ _ _ hp, if_neg (by omega), if_neg (by omega)]; rfl⟩
  have := find_at (put_rise (x := x) hr) j hj
  rw [e] at this
  exact this.2
theorem put_fits {id : Int} {x : HS} {hs : List HS} (h : fitsB id hs = true) (hx : x.fit id = true) : fitsB id (putH x hs) = true := by
  have hp : posH x.peer hs ≤ hs.length := pos_le _ _
  refine fits_of (fits_node h) (fun j hj => ?_) (put_rise (fits_rise h))
  cases hh : hitH x.peer hs with
  | true =>
    obtain ⟨hp', he⟩ := hit_peer hh
    rw [put_hit hh, List.length_set] at hj
    rw [put_hit hh, getD_set _ _ _ _ _ hp']
    split
    · exact hx
    · exact fits_each h j hj
  | false =>
    rw [put_no hh, ins_len _ _ _ hp] at hj
    rw [put_no hh, getD_ins _ _ _ _ _ hp]
    split
    · exact fits_each h j (by omega)
    · split
      · exact hx
      · exact fits_each h (j - 1) (by omega)
theorem drop_put {x : HS} {hs : List HS} (hr : Rise hs) : (dropH x.peer (putH x hs)).length + 1 = (putH x hs).length := by
  obtain ⟨h1, h2, h3⟩ := put_found (x := x) hr
  have h4 := (put_at (x := x) (hs := hs)).1
  unfold dropH
  rw [if_pos h2, h1, List.length_eraseIdx, if_pos h4]
  omega
theorem drop_back {x : HS} {hs : List HS} (hr : Rise hs) (h : hitH x.peer hs = false) : dropH x.peer (putH x hs) = hs := by
  obtain ⟨h1, h2, h3⟩ := put_found (x := x) hr
  have hp : posH x.peer hs ≤ hs.length := pos_le _ _
  unfold dropH
  rw [if_pos h2, h1, put_no h, List.eraseIdx_append_of_length_le (by rw [List.length_take]; omega)]
  rw [show posH x.peer hs - (hs.take (posH x.peer hs)).length = 0 by rw [List.length_take]; omega]
  simp
end Go.Proofs.Ytcacocndcfbmaaa
