/-
  The document's Find and Drop of rising half-edges.
-/
import Derived.Test.YteoiogjaecpddaaH1
import Derived.Test.YteoiogjaecpddaaG1
import Derived.Test.YteoiogjaecpddaaH9
import Derived.Test.YteoiogjaecpddaaC9
import Derived.Test.YteoiogjaecpddaaH4
import Derived.Test.YteoiogjaecpddaaG0
import Derived.Test.YteoiogjaecpddaaMH
namespace Go.Proofs.Yteoiogjaecpddaa
open Go.ChangeShapes Go.WideShapes Go.ChangeAt Go.RowKit Go.Maps Go.Shelf
set_option linter.unusedVariables false
set_option linter.unusedSimpArgs false
attribute [local go_sem] Oper.semAt_some

/-- Copies of the first i half-edges, each with lines of its own. -/
structure Cpy (w : World) (hs : List HS) (i : Nat) (v : Value) (es : List HR) (W : World) : Prop where
  below : Below w.heap.size w W
  row : W.ownsRow w.heap.size 70 6 v i (csH es)
  len : es.length = i
  each : ∀ j, j < i → ∃ a c, es.getD j HR.z = (hs.getD j HS.z).on a c ∧ Own w.heap.size W (hs.getD j HS.z) a c
theorem Cpy.nil (w : World) (hs : List HS) : Cpy w hs 0 (.slice none 0 0) [] w := ⟨Below.refl _ _, World.ownsRow_nil _ _ 70 6, rfl, fun j hj => by omega⟩
theorem Cpy.later {w : World} {hs : List HS} {i : Nat} {v : Value} {es : List HR} {W W' : World} (C : Cpy w hs i v es W) (b : Below W.heap.size W W') : Cpy w hs i v es W' :=
  ⟨C.below.trans (b.mono C.below.size), owns_later C.row b, C.len, fun j hj => by
    obtain ⟨a, c, e, o⟩ := C.each j hj
    exact ⟨a, c, e, o.below b⟩⟩
theorem own_grow {base i : Nat} {W W' : World} {v : Value} {es : List HR} {h : HS} {a : Option Addr} {c : Nat} (row : W.ownsRow base 70 6 v i (csH es)) (r : W.grownBy W' v.ownBlock) (o : Own base W h a c) : Own base W' h a c := by
  refine ⟨?_, o.new⟩
  refine o.lst.of_block fun g off e => ?_
  rcases o.lst.mem with ⟨e', _⟩ | ⟨g', off', cur, e', hh, _⟩
  · rw [e'] at e; cases e
  · rw [e'] at e; cases e
    exact r.block g (row_lt hh) (owns_ne row hh (by decide))
theorem Cpy.next {w : World} {hs : List HS} {i : Nat} {v v' : Value} {es : List HR} {W W' : World} {a : Option Addr} {c : Nat} (C : Cpy w hs i v es W) (O : Own w.heap.size W (hs.getD i HS.z) a c)
    (r : W.grownBy W' v.ownBlock) (b : Below w.heap.size W W') (o : W'.ownsRow w.heap.size 70 6 v' (i + 1) (csH (es ++ [(hs.getD i HS.z).on a c]))) : Cpy w hs (i + 1) v' (es ++ [(hs.getD i HS.z).on a c]) W' := by
  refine ⟨C.below.trans b, o, by simp [C.len], fun j hj => ?_⟩
  by_cases e : j = i
  · subst e
    refine ⟨a, c, ?_, own_grow C.row r O⟩
    rw [List.getD_eq_getElem?_getD, List.getElem?_append_right (by rw [C.len]; exact Nat.le_refl _), C.len]
    simp
  · obtain ⟨a', c', e', o'⟩ := C.each j (by omega)
    refine ⟨a', c', ?_, own_grow C.row r o'⟩
    rw [← e', List.getD_eq_getElem?_getD, List.getElem?_append_left (by rw [C.len]; omega), ← List.getD_eq_getElem?_getD]
theorem Cpy.hs {w : World} {hs : List HS} {v : Value} {es : List HR} {W : World} (C : Cpy w hs hs.length v es W) (hn : hs.length * 64 ≤ 140737488355328) (hl : ∀ j, j < hs.length → (hs.getD j HS.z).ls.length * 40 ≤ 140737488355328) : ∃ a c, v = .slice a hs.length c ∧ Hs W a hs.length c hs := by
  obtain ⟨a, c, e, L, _⟩ := own_lstH C.row C.len
  refine ⟨a, c, e, rfl, es, L.rd hn, fun i hi => ?_⟩
  obtain ⟨a', c', e', o'⟩ := C.each i hi
  exact ⟨a', c', e', o'.rd (hl i hi)⟩
theorem Hs.few {W : World} {A : Option Addr} {n cap : Nat} {hs : List HS} (h : Hs W A n cap hs) : ∀ j, j < n → (hs.getD j HS.z).ls.length * 40 ≤ 140737488355328 := fun j hj => by
  obtain ⟨g, off, a, c, _, _, _, R⟩ := h.at j hj
  exact R.few
end Go.Proofs.Yteoiogjaecpddaa

namespace Go.Proofs.Yteoiogjaecpddaa
open Go.ChangeShapes Go.WideShapes Go.ChangeAt Go.RowKit Go.Maps Go.Shelf
set_option linter.unusedVariables false
set_option linter.unusedSimpArgs false
attribute [local go_sem] Oper.semAt_some

/-- Half-edges' cells and what they stand for, each with lines of its own. -/
def Ech (base : Nat) (W : World) (es : List HR) (hs : List HS) : Prop := ∀ i, i < hs.length → ∃ a c, es.getD i HR.z = (hs.getD i HS.z).on a c ∧ Own base W (hs.getD i HS.z) a c
theorem Ech.only {base n cap : Nat} {W W' : World} {es ds : List HR} {hs : List HS} {a : Option Addr} (h : Ech base W es hs) (L : LstH W a n cap ds) (o : Only (atL a) W W') : Ech base W' es hs := fun i hi => by
  obtain ⟨a', c', e, O⟩ := h i hi
  refine ⟨a', c', e, O.lst.of_block fun g off e' => o.block g (O.lst.lt' e') ?_, O.new⟩
  rintro ⟨off2, e2⟩
  subst e2
  rcases O.lst.mem with ⟨e3, _⟩ | ⟨g', off', cur, e3, hh, _⟩
  · rw [e3] at e'; cases e'
  · rw [e3] at e'; cases e'
    exact L.ne_cells hh (by decide) rfl
theorem Ech.hs {base n cap : Nat} {W : World} {es : List HR} {hs : List HS} {a : Option Addr} (h : Ech base W es hs) (L : LstH W a n cap es) (hl : es.length = hs.length) (hn : hs.length * 64 ≤ 140737488355328) (hf : ∀ j, j < hs.length → (hs.getD j HS.z).ls.length * 40 ≤ 140737488355328) : n = hs.length ∧ Hs W a hs.length cap hs := by
  have e : n = hs.length := L.size.symm.trans hl
  subst e
  refine ⟨rfl, rfl, es, L.rd hn, fun i hi => ?_⟩
  obtain ⟨a', c', e', O⟩ := h i hi
  exact ⟨a', c', e', O.rd (hf i hi)⟩
theorem getD_erase {α : Type} (l : List α) (p i : Nat) (z : α) : (l.eraseIdx p).getD i z = if i < p then l.getD i z else l.getD (i + 1) z := by
  rw [List.getD_eq_getElem?_getD, List.getElem?_eraseIdx]
  split <;> rw [List.getD_eq_getElem?_getD]
theorem Ech.erase {base : Nat} {W : World} {es : List HR} {hs : List HS} (h : Ech base W es hs) (p : Nat) (hp : p < hs.length) : Ech base W (es.eraseIdx p) (hs.eraseIdx p) := fun i hi => by
  rw [List.length_eraseIdx, if_pos hp] at hi
  rw [getD_erase, getD_erase]
  split
  · exact h i (by omega)
  · exact h (i + 1) (by omega)
def dropH (k : Int) (l : List HS) : List HS := if hitH k l = true then l.eraseIdx (posH k l) else l
theorem erase_few {hs : List HS} (p : Nat) (hp : p < hs.length) (h : ∀ j, j < hs.length → (hs.getD j HS.z).ls.length * 40 ≤ 140737488355328) : ∀ j, j < (hs.eraseIdx p).length → ((hs.eraseIdx p).getD j HS.z).ls.length * 40 ≤ 140737488355328 := fun j hj => by
  rw [List.length_eraseIdx, if_pos hp] at hj
  rw [getD_erase]
  split
  · exact h j (by omega)
  · exact h (j + 1) (by omega)
end Go.Proofs.Yteoiogjaecpddaa

namespace Go.Proofs.Yteoiogjaecpddaa
open Go.ChangeShapes Go.WideShapes Go.ChangeAt Go.RowKit
set_option linter.unusedVariables false
set_option linter.unusedSimpArgs false

theorem getD_set {α : Type} (l : List α) (p i : Nat) (x z : α) (hp : p < l.length) : (l.set p x).getD i z = if i = p then x else l.getD i z := by
  rw [List.getD_eq_getElem?_getD, List.getElem?_set]
  by_cases h : p = i
  · subst h; simp [hp]
  · rw [if_neg h, if_neg (fun e => h e.symm), List.getD_eq_getElem?_getD]
theorem getD_ins {α : Type} (l : List α) (p i : Nat) (x z : α) (hp : p ≤ l.length) : (l.take p ++ x :: l.drop p).getD i z = if i < p then l.getD i z else if i = p then x else l.getD (i - 1) z := by
  rw [List.getD_eq_getElem?_getD]
  have hl : (l.take p).length = p := by rw [List.length_take]; omega
  by_cases h : i < p
  · rw [if_pos h, List.getElem?_append_left (by omega), List.getElem?_take, if_pos h, List.getD_eq_getElem?_getD]
  · rw [if_neg h, List.getElem?_append_right (by omega), hl]
    by_cases e : i = p
    · subst e; simp
    · rw [if_neg e, show i - p = (i - p - 1) + 1 by omega, List.getElem?_cons_succ, List.getElem?_drop, List.getD_eq_getElem?_getD, show p + (i - p - 1) = i - 1 by omega]
theorem Ech.mono {base base' : Nat} {W : World} {es : List HR} {hs : List HS} (h : Ech base W es hs) (hb : base' ≤ base) : Ech base' W es hs := fun i hi => by
  obtain ⟨a, c, e, O⟩ := h i hi
  exact ⟨a, c, e, O.mono hb⟩
theorem Ech.below {base : Nat} {W W' : World} {es : List HR} {hs : List HS} (h : Ech base W es hs) (b : Below W.heap.size W W') : Ech base W' es hs := fun i hi => by
  obtain ⟨a, c, e, O⟩ := h i hi
  exact ⟨a, c, e, O.below b⟩
theorem Ech.set {base : Nat} {W : World} {es : List HR} {hs : List HS} {x : HS} {a : Option Addr} {c : Nat} (h : Ech base W es hs) (hl : es.length = hs.length) (O : Own base W x a c) (p : Nat) (hp : p < hs.length) : Ech base W (es.set p (x.on a c)) (hs.set p x) := fun i hi => by
  rw [List.length_set] at hi
  rw [getD_set _ _ _ _ _ (by omega), getD_set _ _ _ _ _ hp]
  split
  · exact ⟨a, c, rfl, O⟩
  · exact h i hi
theorem Ech.ins {base : Nat} {W : World} {es : List HR} {hs : List HS} {x : HS} {a : Option Addr} {c : Nat} (h : Ech base W es hs) (hl : es.length = hs.length) (O : Own base W x a c) (p : Nat) (hp : p ≤ hs.length) : Ech base W (es.take p ++ x.on a c :: es.drop p) (hs.take p ++ x :: hs.drop p) := fun i hi => by
  have hi' : i < hs.length + 1 := by
    rw [List.length_append, List.length_cons, List.length_take, List.length_drop] at hi
    omega
  rw [getD_ins _ _ _ _ _ (by omega), getD_ins _ _ _ _ _ hp]
  split
  · exact h i (by omega)
  · split
    · exact ⟨a, c, rfl, O⟩
    · exact h (i - 1) (by omega)
def putH (x : HS) (l : List HS) : List HS := if hitH x.peer l = true then l.set (posH x.peer l) x else l.take (posH x.peer l) ++ x :: l.drop (posH x.peer l)
end Go.Proofs.Yteoiogjaecpddaa

namespace Go.Proofs.Yteoiogjaecpddaa
set_option linter.unusedVariables false
set_option linter.unusedSimpArgs false

def Rise (hs : List HS) : Prop := ∀ i j, i < j → j < hs.length → (hs.getD i HS.z).peer < (hs.getD j HS.z).peer
theorem fits_each {id : Int} {hs : List HS} (h : fitsB id hs = true) : ∀ j, j < hs.length → (hs.getD j HS.z).fit id = true := fun j hj => by
  unfold fitsB at h
  rw [Bool.and_eq_true, List.all_eq_true] at h
  have := h.2 j (List.mem_range.2 hj)
  unfold fitsAt at this
  rw [Bool.and_eq_true] at this
  exact this.1
theorem fits_next {id : Int} {hs : List HS} (h : fitsB id hs = true) (j : Nat) (hj : j + 1 < hs.length) : (hs.getD j HS.z).peer < (hs.getD (j + 1) HS.z).peer := by
  unfold fitsB at h
  rw [Bool.and_eq_true, List.all_eq_true] at h
  have := h.2 (j + 1) (List.mem_range.2 hj)
  unfold fitsAt at this
  rw [Bool.and_eq_true, Bool.or_eq_true] at this
  rcases this.2 with h1 | h1
  · have := of_decide_eq_true h1; omega
  · exact of_decide_eq_true h1
theorem fits_rise {id : Int} {hs : List HS} (h : fitsB id hs = true) : Rise hs := by
  intro i j hij
  induction j with
  | zero => omega
  | succ j ih =>
    intro hj
    have h1 := fits_next h j hj
    by_cases e : i = j
    · subst e; exact h1
    · have := ih (by omega) (by omega)
      omega
theorem fits_node {id : Int} {hs : List HS} (h : fitsB id hs = true) : nodeB id = true := by
  unfold fitsB at h
  rw [Bool.and_eq_true] at h
  exact h.1
theorem fits_of {id : Int} {hs : List HS} (hn : nodeB id = true) (hf : ∀ j, j < hs.length → (hs.getD j HS.z).fit id = true) (hr : Rise hs) : fitsB id hs = true := by
  rw [fits_yes fun j hj => ?_, hn]
  unfold fitsAt
  rw [hf j hj]
  by_cases e : j = 0
  · subst e; rfl
  · rw [show ltI (hs.getD (j - 1) HS.z).peer (hs.getD j HS.z).peer = true from decide_eq_true (hr (j - 1) j (by omega) hj)]
    simp
theorem fit_top {id : Int} {x : HS} (h : x.fit id = true) : 0 ≤ x.peer ∧ x.peer < 16 := by
  unfold HS.fit at h
  simp only [Bool.and_eq_true] at h
  exact of_decide_eq_true h.2.1
theorem rise_low {hs : List HS} (hr : Rise hs) (h0 : ∀ j, j < hs.length → 0 ≤ (hs.getD j HS.z).peer) : ∀ j, j < hs.length → (j : Int) ≤ (hs.getD j HS.z).peer := by
  intro j
  induction j with
  | zero => intro hj; exact h0 0 hj
  | succ j ih =>
    intro hj
    have h1 := ih (by omega)
    have h2 := hr j (j + 1) (by omega) hj
    omega
theorem fits_few {id : Int} {hs : List HS} (h : fitsB id hs = true) : hs.length ≤ 16 := by
  by_cases e : hs.length = 0
  · omega
  · have h1 := rise_low (fits_rise h) (fun j hj => (fit_top (fits_each h j hj)).1) (hs.length - 1) (by omega)
    have h2 := (fit_top (fits_each h (hs.length - 1) (by omega))).2
    omega
theorem pos_unique {α : Type} {lt : α → Bool} (z : α) : ∀ {l : List α} {p : Nat}, p ≤ l.length → (∀ j, j < p → lt (l.getD j z) = true) → (p < l.length → lt (l.getD p z) = false) → pos lt l = p
  | [], p, hp, _, _ => by simp at hp; subst hp; rfl
  | x :: r, 0, _, _, h => by
    have := h (by simp)
    simp at this
    simp [pos, this]
  | x :: r, p + 1, hp, h0, h => by
    have h1 := h0 0 (by omega)
    simp at h1
    have ih := pos_unique (lt := lt) z (l := r) (p := p) (by simpa using hp) (fun j hj => by have := h0 (j + 1) (by omega); simpa using this) (fun hp' => by have := h (by simpa using hp'); simpa using this)
    simp [pos, h1, ih]
theorem hit_pos {k : Int} {hs : List HS} : hitH k hs = (decide (posH k hs < hs.length) && eqI (hs.getD (posH k hs) HS.z).peer k) := by
  unfold hitH hit
  by_cases h : posH k hs < hs.length
  · rw [List.getElem?_eq_getElem h, decide_eq_true h, List.getD_eq_getElem?_getD, List.getElem?_eq_getElem h]
    rfl
  · rw [List.getElem?_eq_none (Nat.le_of_not_lt h), decide_eq_false h]
    rfl
/-- Find of what stands at a place of a rising list is it. -/
theorem find_at {hs : List HS} (hr : Rise hs) (i : Nat) (hi : i < hs.length) : posH (hs.getD i HS.z).peer hs = i ∧ hitH (hs.getD i HS.z).peer hs = true ∧ findH (hs.getD i HS.z).peer hs = hs.getD i HS.z := by
  have hp : posH (hs.getD i HS.z).peer hs = i := pos_unique HS.z (by omega) (fun j hj => decide_eq_true (hr j i hj hi)) (fun _ => decide_eq_false (by omega))
  have hh : hitH (hs.getD i HS.z).peer hs = true := by
    rw [hit_pos, hp, decide_eq_true hi]
    exact decide_eq_true rfl
  refine ⟨hp, hh, ?_⟩
  unfold findH
  rw [if_pos hh, hp]
theorem hit_peer {k : Int} {hs : List HS} (h : hitH k hs = true) : posH k hs < hs.length ∧ (hs.getD (posH k hs) HS.z).peer = k := by
  rw [hit_pos, Bool.and_eq_true] at h
  exact ⟨of_decide_eq_true h.1, of_decide_eq_true h.2⟩
theorem no_above {k : Int} {hs : List HS} (hr : Rise hs) (h : hitH k hs = false) (j : Nat) (hj : posH k hs ≤ j) (hl : j < hs.length) : k < (hs.getD j HS.z).peer := by
  have h0 := at_pos (lt := fun x : HS => ltI x.peer k) HS.z (l := hs) (by show posH k hs < hs.length; omega)
  have h1 : ¬ (hs.getD (posH k hs) HS.z).peer < k := of_decide_eq_false h0
  have h2 : (hs.getD (posH k hs) HS.z).peer ≠ k := by
    rw [hit_pos, decide_eq_true (show posH k hs < hs.length by omega), Bool.true_and] at h
    exact of_decide_eq_false h
  by_cases e : posH k hs = j
  · rw [← e]; omega
  · have := hr (posH k hs) j (by omega) hl
    omega
theorem below_pos {k : Int} {hs : List HS} (j : Nat) (hj : j < posH k hs) : (hs.getD j HS.z).peer < k := of_decide_eq_true (lt_of_pos (lt := fun x : HS => ltI x.peer k) HS.z (l := hs) hj)
theorem put_hit {x : HS} {hs : List HS} (h : hitH x.peer hs = true) : putH x hs = hs.set (posH x.peer hs) x := by unfold putH; rw [if_pos h]
theorem put_no {x : HS} {hs : List HS} (h : hitH x.peer hs = false) : putH x hs = hs.take (posH x.peer hs) ++ x :: hs.drop (posH x.peer hs) := by unfold putH; rw [if_neg (by rw [h]; decide)]
theorem ins_lenH {α : Type} (l : List α) (p : Nat) (x : α) (hp : p ≤ l.length) : (l.take p ++ x :: l.drop p).length = l.length + 1 := by
  rw [List.length_append, List.length_cons, List.length_take, List.length_drop]; omega
theorem put_rise {x : HS} {hs : List HS} (hr : Rise hs) : Rise (putH x hs) := by
  cases h : hitH x.peer hs with
  | true =>
    obtain ⟨hp, he⟩ := hit_peer h
    rw [put_hit h]
    intro i j hij hj
    rw [List.length_set] at hj
    have pe : ∀ i, ((hs.set (posH x.peer hs) x).getD i HS.z).peer = (hs.getD i HS.z).peer := fun i => by
      rw [getD_set _ _ _ _ _ hp]
      split
      · rename_i e; rw [e, he]
      · rfl
    rw [pe, pe]
    exact hr i j hij hj
  | false =>
    have hp : posH x.peer hs ≤ hs.length := pos_le _ _
    rw [put_no h]
    intro i j hij hj
    rw [ins_lenH _ _ _ hp] at hj
    rw [getD_ins _ _ _ _ _ hp, getD_ins _ _ _ _ _ hp]
    by_cases h1 : i < posH x.peer hs
    · rw [if_pos h1]
      by_cases h2 : j < posH x.peer hs
      · rw [if_pos h2]; exact hr i j hij (by omega)
      · rw [if_neg h2]
        by_cases h3 : j = posH x.peer hs
        · rw [if_pos h3]; exact below_pos i h1
        · rw [if_neg h3]; exact hr i (j - 1) (by omega) (by omega)
    · rw [if_neg h1, if_neg (show ¬ j < posH x.peer hs by omega), if_neg (show ¬ j = posH x.peer hs by omega)]
      by_cases h3 : i = posH x.peer hs
      · rw [if_pos h3]; exact no_above hr h (j - 1) (by omega) (by omega)
      · rw [if_neg h3]; exact hr (i - 1) (j - 1) (by omega) (by omega)
/-- Where Put put it. -/
theorem put_at {x : HS} {hs : List HS} : posH x.peer hs < (putH x hs).length ∧ (putH x hs).getD (posH x.peer hs) HS.z = x := by
  have hp : posH x.peer hs ≤ hs.length := pos_le _ _
  cases h : hitH x.peer hs with
  | true =>
    obtain ⟨hp', he⟩ := hit_peer h
    rw [put_hit h, List.length_set, getD_set _ _ _ _ _ hp', if_pos rfl]
    exact ⟨hp', rfl⟩
  | false =>
    rw [put_no h, ins_lenH _ _ _ hp, getD_ins _ _ _ _ _ hp, if_neg (by omega), if_pos rfl]
    exact ⟨by omega, rfl⟩
theorem put_found {x : HS} {hs : List HS} (hr : Rise hs) : posH x.peer (putH x hs) = posH x.peer hs ∧ hitH x.peer (putH x hs) = true ∧ findH x.peer (putH x hs) = x := by
  have h := find_at (put_rise (x := x) hr) _ (put_at (x := x) (hs := hs)).1
  rw [put_at.2] at h
  exact h
/-- The others stay. -/
theorem put_other {x : HS} {hs : List HS} (hr : Rise hs) (i : Nat) (hi : i < hs.length) (hne : (hs.getD i HS.z).peer ≠ x.peer) : hitH (hs.getD i HS.z).peer (putH x hs) = true ∧ findH (hs.getD i HS.z).peer (putH x hs) = hs.getD i HS.z := by
  have hp : posH x.peer hs ≤ hs.length := pos_le _ _
  obtain ⟨j, hj, e⟩ : ∃ j, j < (putH x hs).length ∧ (putH x hs).getD j HS.z = hs.getD i HS.z := by
    cases h : hitH x.peer hs with
    | true =>
      obtain ⟨hp', he⟩ := hit_peer h
      refine ⟨i, by rw [put_hit h, List.length_set]; exact hi, ?_⟩
      rw [put_hit h, getD_set _ _ _ _ _ hp', if_neg (fun e => hne (by rw [e]; exact he))]
    | false =>
      rw [put_no h, ins_lenH _ _ _ hp]
      by_cases h1 : i < posH x.peer hs
      · exact ⟨i, by omega, by rw [getD_ins _ _ _ _ _ hp, if_pos h1]⟩
      · exact ⟨i + 1, by omega, by rw [getD_ins _ _ _ _ _ hp, if_neg (by omega), if_neg (by omega)]; rfl⟩
  have := find_at (put_rise (x := x) hr) j hj
  rw [e] at this
  exact this.2
theorem put_fits {id : Int} {x : HS} {hs : List HS} (h : fitsB id hs = true) (hx : x.fit id = true) : fitsB id (putH x hs) = true := by
  have hp : posH x.peer hs ≤ hs.length := pos_le _ _
  refine fits_of (fits_node h) (fun j hj => ?_) (put_rise (fits_rise h))
  cases hh : hitH x.peer hs with
  | true =>
    obtain ⟨hp', he⟩ := hit_peer hh
    rw [put_hit hh, List.length_set] at hj
    rw [put_hit hh, getD_set _ _ _ _ _ hp']
    split
    · exact hx
    · exact fits_each h j hj
  | false =>
    rw [put_no hh, ins_lenH _ _ _ hp] at hj
    rw [put_no hh, getD_ins _ _ _ _ _ hp]
    split
    · exact fits_each h j (by omega)
    · split
      · exact hx
      · exact fits_each h (j - 1) (by omega)
theorem drop_put {x : HS} {hs : List HS} (hr : Rise hs) : (dropH x.peer (putH x hs)).length + 1 = (putH x hs).length := by
  obtain ⟨h1, h2, h3⟩ := put_found (x := x) hr
  have h4 := (put_at (x := x) (hs := hs)).1
  unfold dropH
  rw [if_pos h2, h1, List.length_eraseIdx, if_pos h4]
  omega
theorem drop_back {x : HS} {hs : List HS} (hr : Rise hs) (h : hitH x.peer hs = false) : dropH x.peer (putH x hs) = hs := by
  obtain ⟨h1, h2, h3⟩ := put_found (x := x) hr
  have hp : posH x.peer hs ≤ hs.length := pos_le _ _
  unfold dropH
  rw [if_pos h2, h1, put_no h, List.eraseIdx_append_of_length_le (by rw [List.length_take]; omega)]
  rw [show posH x.peer hs - (hs.take (posH x.peer hs)).length = 0 by rw [List.length_take]; omega]
  simp
end Go.Proofs.Yteoiogjaecpddaa

namespace Go.Proofs.Yteoiogjaecpddaa
open Go.ChangeShapes Go.WideShapes Go.ChangeAt Go.RowKit
set_option linter.unusedVariables false
set_option linter.unusedSimpArgs false

/-- append(own, list...). -/
theorem run_grow_lstH {W : World} {base k : Nat} {v : Value} {es : List HR} {a : Option Addr} {n c : Nat} {ds : List HR} (ty : TypeId) (hown : W.ownsRow base 70 6 v k (csH es)) (L : RdH W a n c ds) (hn : ((k + n) + (k + n) / 4 + 192) * 64 ≤ 281474976710656) (hb : base ≤ W.heap.size) :
    ∃ v' w', (Builtin.append_ #[37, 37] ty #[v, .slice a n c]).run Try.prog W = .ok v' w' ∧ w'.ownsRow base 70 6 v' (k + n) (csH (es ++ ds)) ∧ W.grownBy w' v.ownBlock ∧ Below base W w' := by
  obtain ⟨i0, hi, hz0, hz1, hz2⟩ := info_parts info24
  rcases L.mem with ⟨rfl, rfl, rfl⟩ | ⟨rfl, x, rfl⟩ | ⟨g, off, rfl, hg, hr⟩
  · have e := List.eq_nil_of_length_eq_zero L.size
    subst e
    rw [List.append_nil, Nat.add_zero]
    exact ⟨v, W, run_append_owned_none (P := Try.prog) (w := W) base 37 ty 70 i0 6 Try.underlying37 hi v k (csH es) hown, hown, World.grownBy.refl _ _, Below.refl _ _⟩
  · have e := List.eq_nil_of_length_eq_zero L.size
    subst e
    exact run_more_lstH ty hown rfl (fun j u hu => by cases hu) hn hb
  · exact run_more_lstH ty hown L.size (fun j u hu => by rw [add_plain]; exact hr j u hu) hn hb
/-- The first ones of a list. -/
theorem RdH.to {W : World} {a : Option Addr} {n cap : Nat} {ds : List HR} (L : RdH W a n cap ds) (k : Nat) (hk : k ≤ n) : RdH W a k cap (ds.take k) := by
  have hs := L.size
  have hm := L.max
  refine ⟨by rw [List.length_take]; omega, by have := L.le; omega, by omega, ?_⟩
  rcases L.mem with ⟨rfl, rfl, rfl⟩ | ⟨rfl, x, rfl⟩ | ⟨g, off, rfl, hg, hr⟩
  · exact .inl ⟨rfl, by omega, rfl⟩
  · exact .inr (.inl ⟨by omega, x, rfl⟩)
  · refine .inr (.inr ⟨g, off, rfl, hg, fun j u hu => ?_⟩)
    rw [csH_take, List.getElem?_take] at hu
    split at hu
    · exact hr j u hu
    · cases hu
/-- Those from a place on. -/
theorem RdH.from {W : World} {a : Option Addr} {n cap : Nat} {ds : List HR} (L : RdH W a n cap ds) (k : Nat) (hk : k ≤ n) : RdH W (if cap = k then a else a.map (·.add (k * 6))) (n - k) (cap - k) (ds.drop k) := by
  have hs := L.size
  have hm := L.max
  have hc := L.le
  refine ⟨by rw [List.length_drop]; omega, by omega, by omega, ?_⟩
  rcases L.mem with ⟨rfl, rfl, rfl⟩ | ⟨rfl, x, rfl⟩ | ⟨g, off, rfl, hg, hr⟩
  · exact .inl ⟨by simp, by omega, by omega⟩
  · refine .inr (.inl ⟨by omega, ?_⟩)
    split
    · exact ⟨x, rfl⟩
    · exact ⟨_, rfl⟩
  · by_cases e : cap = k
    · rw [if_pos e]
      exact .inr (.inl ⟨by omega, _, rfl⟩)
    · rw [if_neg e]
      refine .inr (.inr ⟨g, off + k * 6, by rw [Option.map_some, add_plain], hg, fun j u hu => ?_⟩)
      rw [csH_drop, List.getElem?_drop] at hu
      have := hr _ u hu
      rw [show off + k * 6 + j = off + (6 * k + j) by omega]
      exact this
section
variable {ops : Array Oper} {rest : List Oper} {o : Oper} {A : Act} {W : World} {Q : Exit → Act → World → Prop} {K : Act → World → Prop}
theorem wp_grow_lstH (s x : Operand) (ho : o.op = .call { callee := .builtin .append, args := #[s, x], argTypes := #[37, 37] }) {base k : Nat} {v : Value} {es : List HR} {a : Option Addr} {n c : Nat} {ds : List HR}
    (hs : A.eval s = v) (hx : A.eval x = .slice a n c) (hown : W.ownsRow base 70 6 v k (csH es)) (L : RdH W a n c ds) (hn : ((k + n) + (k + n) / 4 + 192) * 64 ≤ 281474976710656) (hb : base ≤ W.heap.size)
    (h : ∀ v' w', w'.ownsRow base 70 6 v' (k + n) (csH (es ++ ds)) → W.grownBy w' v.ownBlock → Below base W w' → K (A.put o.dst v') w') : o.wp Try.prog A W K Q := by
  obtain ⟨v', w', hrun, r1, r2, r3⟩ := run_grow_lstH o.type hown L hn hb
  unfold Oper.wp
  simp [execOp, ho, resolve, invoke, builtin, hs, hx, hrun, Result.andThen]
  exact h v' w' r1 r2 r3
theorem wpList_grow_lstH (hgd : o.guard = none) (s x : Operand) (ho : o.op = .call { callee := .builtin .append, args := #[s, x], argTypes := #[37, 37] }) {base k : Nat} {v : Value} {es : List HR} {a : Option Addr} {n c : Nat} {ds : List HR}
    (hs : A.eval s = v) (hx : A.eval x = .slice a n c) (hown : W.ownsRow base 70 6 v k (csH es)) (L : RdH W a n c ds) (hn : ((k + n) + (k + n) / 4 + 192) * 64 ≤ 281474976710656) (hb : base ≤ W.heap.size)
    (h : ∀ v' w', w'.ownsRow base 70 6 v' (k + n) (csH (es ++ ds)) → W.grownBy w' v.ownBlock → Below base W w' → wpList Try.prog ops Q rest (A.put o.dst v') w') : wpList Try.prog ops Q (o :: rest) A W :=
  wpList_plain hgd fun _ hK => wp_grow_lstH s x ho hs hx hown L hn hb fun v' w' h1 h2 h3 => hK _ _ (h v' w' h1 h2 h3)
theorem exec_toH {ρ : Operand → Value} {x y : Operand} (ho : o.op = .slice 37 x none (some y) none) {a : Option Addr} {n cap k : Nat} (hx : ρ x = .slice a n cap) (hy : ρ y = .int .i64 (k : Int)) (hk : k ≤ cap) : (execOp ρ o).run Try.prog W = .ok (.value (.slice a k cap)) W := by
  have hz : (sizeOf (Try.prog.elem 37)).run Try.prog W = .ok 6 W := by kernel_rfl
  have hu : Try.prog.underlying 37 = some (.slice (Try.prog.elem 37)) := by kernel_rfl
  have h0 : (if cap = 0 then a else a.map (·.add (0 * 6))) = a := by
    split
    · rfl
    · cases a with
      | none => rfl
      | some x => obtain ⟨b, o, s⟩ := x; cases s <;> simp [Addr.add]
  simp only [execOp, ho, hx, hy, Option.map_none, Option.map_some, Sem.run_bind, run_sliceAt_slice _ _ _ _ _ _ hu, run_slice_h W 37 a n cap hu .i64 (k : Int) (by omega) (by omega), hz, Result.andThen_ok, sliced, Int.toNat_natCast, Nat.sub_zero, h0]
  rfl
theorem exec_fromH {ρ : Operand → Value} {x y : Operand} (ho : o.op = .slice 37 x (some y) none none) {a : Option Addr} {n cap k : Nat} (hx : ρ x = .slice a n cap) (hy : ρ y = .int .i64 (k : Int)) (hk : k ≤ n) : (execOp ρ o).run Try.prog W = .ok (.value (.slice (if cap = k then a else a.map (·.add (k * 6))) (n - k) (cap - k))) W := by
  have hz : (sizeOf (Try.prog.elem 37)).run Try.prog W = .ok 6 W := by kernel_rfl
  have hu : Try.prog.underlying 37 = some (.slice (Try.prog.elem 37)) := by kernel_rfl
  simp only [execOp, ho, hx, hy, Option.map_none, Option.map_some, Sem.run_bind, run_sliceAt_slice _ _ _ _ _ _ hu, run_slice_l W 37 a n cap hu .i64 (k : Int) (by omega) (by omega), hz, Result.andThen_ok, sliced, Int.toNat_natCast]
  rfl
theorem wpList_toH (hgd : o.guard = none) (x y : Operand) (ho : o.op = .slice 37 x none (some y) none) {a : Option Addr} {n cap k : Nat} (hx : A.eval x = .slice a n cap) (hy : A.eval y = .int .i64 (k : Int)) (hk : k ≤ cap)
    (h : wpList Try.prog ops Q rest (A.put o.dst (.slice a k cap)) W) : wpList Try.prog ops Q (o :: rest) A W := by
  refine wpList_plain hgd fun K hK => ?_
  unfold Oper.wp
  rw [exec_toH ho hx hy hk]
  exact hK _ _ h
theorem wpList_fromH (hgd : o.guard = none) (x y : Operand) (ho : o.op = .slice 37 x (some y) none none) {a : Option Addr} {n cap k : Nat} (hx : A.eval x = .slice a n cap) (hy : A.eval y = .int .i64 (k : Int)) {ds : List HR} (L : RdH W a n cap ds) (hk : k ≤ n)
    (h : ∀ a', RdH W a' (n - k) (cap - k) (ds.drop k) → wpList Try.prog ops Q rest (A.put o.dst (.slice a' (n - k) (cap - k))) W) : wpList Try.prog ops Q (o :: rest) A W := by
  refine wpList_plain hgd fun K hK => ?_
  unfold Oper.wp
  rw [exec_fromH ho hx hy hk]
  exact hK _ _ (h _ (L.from k hk))
end
end Go.Proofs.Yteoiogjaecpddaa

namespace Go.Proofs.Yteoiogjaecpddaa
open Go.ChangeShapes Go.WideShapes Go.ChangeAt Go.RowKit Go.Maps Go.Shelf
set_option linter.unusedVariables false
set_option linter.unusedSimpArgs false
attribute [local go_sem] Oper.semAt_some

theorem rise_cons {x : HS} {r : List HS} (h : Rise (x :: r)) : Rise r ∧ ∀ y ∈ r, x.peer < y.peer := by
  refine ⟨fun i j hij hj => ?_, fun y hy => ?_⟩
  · have := h (i + 1) (j + 1) (by omega) (by simpa using hj)
    simpa using this
  · obtain ⟨n, hn, e⟩ := List.getElem_of_mem hy
    have := h 0 (n + 1) (by omega) (by simpa using hn)
    rw [List.getD_eq_getElem?_getD, List.getD_eq_getElem?_getD, List.getElem?_cons_succ, List.getElem?_eq_getElem hn, e] at this
    simpa using this
def filtH (k : Int) (l : List HS) : List HS := l.filter (fun x => !eqI x.peer k)
def fndH (k : Int) (l : List HS) : Bool := l.any (fun x => eqI x.peer k)
theorem filt_all {k : Int} {l : List HS} (h : ∀ y ∈ l, k < y.peer) : filtH k l = l ∧ fndH k l = false := by
  refine ⟨List.filter_eq_self.2 fun y hy => ?_, List.any_eq_false.2 fun y hy => ?_⟩
  · have := h y hy
    rw [show eqI y.peer k = false from decide_eq_false (by omega)]; rfl
  · have := h y hy
    rw [show eqI y.peer k = false from decide_eq_false (by omega)]; decide
theorem pos_cons {k : Int} {x : HS} {r : List HS} (h : x.peer < k) : posH k (x :: r) = posH k r + 1 ∧ hitH k (x :: r) = hitH k r := by
  have e : posH k (x :: r) = posH k r + 1 := by
    show (if ltI x.peer k = true then _ else 0) = _
    rw [if_pos (show ltI x.peer k = true from decide_eq_true h)]
  refine ⟨e, ?_⟩
  rw [hit_pos, hit_pos, e]
  simp
theorem pos_head {k : Int} {x : HS} {r : List HS} (h : k ≤ x.peer) : posH k (x :: r) = 0 ∧ hitH k (x :: r) = eqI x.peer k := by
  have e : posH k (x :: r) = 0 := by
    show (if ltI x.peer k = true then _ else 0) = _
    rw [if_neg (show ¬ ltI x.peer k = true from by rw [show ltI x.peer k = false from decide_eq_false (by omega)]; decide)]
  refine ⟨e, ?_⟩
  rw [hit_pos, e]
  simp
theorem filt_drop {k : Int} : ∀ {l : List HS}, Rise l → filtH k l = dropH k l ∧ fndH k l = hitH k l
  | [], _ => ⟨rfl, rfl⟩
  | x :: r, h => by
    obtain ⟨hr, hx⟩ := rise_cons h
    obtain ⟨i1, i2⟩ := filt_drop hr
    by_cases c : x.peer < k
    · obtain ⟨p1, p2⟩ := pos_cons (r := r) c
      have e2 : eqI x.peer k = false := decide_eq_false (by omega)
      have f1 : filtH k (x :: r) = x :: filtH k r := by unfold filtH; rw [List.filter_cons, e2]; rfl
      have f2 : fndH k (x :: r) = fndH k r := by unfold fndH; rw [List.any_cons, e2]; rfl
      rw [f1, f2, i1, i2, p2]
      refine ⟨?_, rfl⟩
      unfold dropH
      rw [p2, p1]
      split <;> simp
    · obtain ⟨p1, p2⟩ := pos_head (r := r) (show k ≤ x.peer by omega)
      obtain ⟨a1, a2⟩ := filt_all (k := k) (l := r) (fun y hy => by have := hx y hy; omega)
      by_cases e : x.peer = k
      · have e2 : eqI x.peer k = true := decide_eq_true e
        rw [e2] at p2
        unfold dropH
        rw [p2, p1]
        refine ⟨?_, by unfold fndH; rw [List.any_cons, e2]; rfl⟩
        unfold filtH at a1 ⊢
        rw [List.filter_cons, e2]
        simpa using a1
      · have e2 : eqI x.peer k = false := decide_eq_false e
        rw [e2] at p2
        unfold dropH
        rw [p2]
        unfold filtH at a1 ⊢
        unfold fndH at a2 ⊢
        rw [List.filter_cons, List.any_cons, e2, a1, a2]
        exact ⟨rfl, rfl⟩
theorem filt_next {k : Int} {l : List HS} {i : Nat} (hi : i < l.length) : filtH k (l.take (i + 1)) = (if (l.getD i HS.z).peer = k then filtH k (l.take i) else filtH k (l.take i) ++ [l.getD i HS.z]) ∧ fndH k (l.take (i + 1)) = (if (l.getD i HS.z).peer = k then true else fndH k (l.take i)) := by
  have e : l.take (i + 1) = l.take i ++ [l.getD i HS.z] := by
    rw [List.take_add_one, List.getD_eq_getElem?_getD, List.getElem?_eq_getElem hi]; rfl
  rw [e]
  unfold filtH fndH
  rw [List.filter_append, List.any_append]
  by_cases c : (l.getD i HS.z).peer = k
  · rw [if_pos c, if_pos c, List.filter_cons, List.any_cons, show eqI (l.getD i HS.z).peer k = true from decide_eq_true c]
    simp
  · rw [if_neg c, if_neg c, List.filter_cons, List.any_cons, show eqI (l.getD i HS.z).peer k = false from decide_eq_false c]
    simp
theorem Cpy.snoc {w : World} {ds : List HS} {v v' : Value} {es : List HR} {W W' : World} {x : HS} {a : Option Addr} {c : Nat} (C : Cpy w ds ds.length v es W) (O : Own w.heap.size W x a c)
    (r : W.grownBy W' v.ownBlock) (b : Below w.heap.size W W') (o : W'.ownsRow w.heap.size 70 6 v' (ds.length + 1) (csH (es ++ [x.on a c]))) : Cpy w (ds ++ [x]) (ds ++ [x]).length v' (es ++ [x.on a c]) W' := by
  have hl : (ds ++ [x]).length = ds.length + 1 := by simp
  rw [hl]
  refine ⟨C.below.trans b, o, by simp [C.len], fun j hj => ?_⟩
  by_cases e : j = ds.length
  · subst e
    refine ⟨a, c, ?_, ?_⟩
    · rw [List.getD_eq_getElem?_getD, List.getElem?_append_right (by rw [C.len]; exact Nat.le_refl _), C.len]
      simp
    · rw [show (ds ++ [x]).getD ds.length HS.z = x by simp]
      exact own_grow C.row r O
  · obtain ⟨a', c', e', o'⟩ := C.each j (by omega)
    have e2 : (ds ++ [x]).getD j HS.z = ds.getD j HS.z := by rw [List.getD_eq_getElem?_getD, List.getElem?_append_left (by omega), ← List.getD_eq_getElem?_getD]
    rw [e2]
    refine ⟨a', c', ?_, own_grow C.row r o'⟩
    rw [← e', List.getD_eq_getElem?_getD, List.getElem?_append_left (by rw [C.len]; omega), ← List.getD_eq_getElem?_getD]
set_option maxRecDepth 100000 in
set_option maxHeartbeats 8000000 in
theorem rfind_any (key : Int) (A : Option Addr) (c : Nat) (hs : List HS) (w : World) (P : Hs w A hs.length c hs) (hr : Rise hs) : Calls Try.prog 55 #[.slice A hs.length c, .int .i64 key] w fun e w' => ∃ a' c', e = .returned (.tuple #[((findH key hs).on a' c').val, .bool (hitH key hs)]) ∧ Own w.heap.size w' (findH key hs) a' c' ∧ Below w.heap.size w w' := by
  have HSM : Hid (hs.length * 64 ≤ 140737488355328) := P.small
  have HRS : Hid (Rise hs) := hr
  clear hr
  go_enter Try.func55, Try.ntmps55
  go_wp2
  go_loopg [6] hs.length (fun gk v6 wr => ∃ (i : Nat), v6 = .int .i64 (i : Int) ∧ i + gk = hs.length ∧ (∀ j, j < i → (hs.getD j HS.z).peer ≠ key) ∧ wr.heap[w.heap.size]? = some (.cells z6 70 (0, 0)) ∧ Below w.heap.size w wr)
  case atStart => exact ⟨0, by first | rfl | go_num, by omega, fun j hj => by omega, heap_new rfl, (Below.refl _ _).alloc (Nat.le_refl _) _⟩
  case round =>
    obtain ⟨i, rfl, hgk, hok, T, B⟩ := hrel
    have HOK : Hid (∀ j, j < i → (hs.getD j HS.z).peer ≠ key) := hok
    clear hok
    by_cases hi : i < hs.length
    case pos =>
      have HI : Hid (i < hs.length) := hi
      have hiI : (i : Int) < (hs.length : Int) := by omega
      have hwr : IntKind.i64.wrap ((i : Int) + 1) = (i : Int) + 1 := by rw [IntKind.wrap_i64]; have := HSM.out; omega
      obtain ⟨g, o, a1, c1, rfl, k10, r10, R10⟩ := P.at i hi
      obtain ⟨x, e1⟩ : ∃ x, hs.getD i HS.z = x := ⟨_, rfl⟩
      rw [e1] at r10 R10
      have HX : Hid (hs.getD i HS.z = x) := e1
      clear e1
      have r1 := range_later r10 k10 B
      have R1 : RdO wr x a1 c1 := RdL.below R10 B
      have kc : wr.cell? ⟨g, o + i * 6, none⟩ = some (.int .i64 x.peer) := peer_cell r1
      clear r10 R10
      by_cases hcmp : x.peer = key
      case pos =>
        have F := find_at HRS.out i HI.out
        rw [HX.out, hcmp] at F
        have HF1 : Hid (hitH key hs = true) := F.2.1
        have HF2 : Hid (findH key hs = x) := F.2.2
        have hq : (x.peer == key) = true := by simpa using hcmp
        clear F hcmp
        go_wp2_with (first
          | ((with_reducible show wpList _ _ _ (Oper.mk _ (Op.load 70 _) _ _ _ _ :: _) _ _); refine wpList_load24 rfl _ rfl g (o + i * 6) (x.on a1 c1) rfl r1 ?_)
          | (go_at_call 66; refine (one_any x a1 c1 _ R1).mono ?_; rintro e w5 ⟨a2, c2, rfl, O5, b5⟩; have X5 := (b5.block _ (row_lt T)).trans T; have hz3 := row_lt T; have B5 := B.trans (b5.mono B.size))
          | ((with_reducible show wpList _ _ _ (Oper.mk _ (Op.store 70 _ _) _ _ _ _ :: _) _ _); refine wpList_store24row rfl _ _ rfl (x.on a2 c2) X5 rfl rfl rfl ?_))
        rw [HF1.out, HF2.out]
        refine bodyPost_ret (results_ct rfl _ _ w.heap.size _ rfl (load_24 (d := x.on a2 c2) (setRow_heap _ _ _ _ _ _ X5))) rfl ⟨a2, c2, rfl, ⟨O5.lst.of_block fun g off e => setRow_other _ _ _ _ (by have := O5.new g off e; omega), fun g off e => by have := O5.new g off e; omega⟩, below_row B5 (Nat.le_refl _) _⟩
      case neg =>
        have hq : (x.peer == key) = false := by simpa using hcmp
        have HF : Hid ((hs.getD i HS.z).peer ≠ key) := by show _ ≠ _; rw [HX.out]; exact hcmp
        clear hcmp
        go_wp2
        go_roundg (gk - 1)
        case measure => omega
        case rel => exact ⟨i + 1, by first | rfl | go_num, by omega, fun j hj => (Nat.lt_succ_iff_lt_or_eq.1 hj).elim (HOK.out j) (fun e => by rw [e]; exact HF.out), T, B⟩
    case neg =>
      have hiI : ¬ (i : Int) < (hs.length : Int) := by omega
      have HF1 : Hid (hitH key hs = false) := by
        cases hh : hitH key hs with
        | false => exact (rfl : false = false)
        | true =>
          obtain ⟨h1, h2⟩ := hit_peer hh
          exact absurd h2 (HOK.out _ (by omega))
      have HF2 : Hid (findH key hs = HS.z) := by show _ = _; unfold findH; rw [HF1.out]; rfl
      go_wp2_with ((with_reducible show wpList _ _ _ (Oper.mk _ (Op.store 70 _ _) _ _ _ _ :: _) _ _); refine wpList_store24row rfl _ _ rfl HR.z T rfl rfl rfl ?_)
      rw [HF1.out, HF2.out]
      refine bodyPost_ret (results_ct rfl _ _ w.heap.size _ rfl (load_24 (d := HR.z) (setRow_heap _ _ _ _ _ _ T))) rfl ⟨none, 0, rfl, ⟨lstL_nil _, fun g off e => by cases e⟩, below_row B (Nat.le_refl _) _⟩
end Go.Proofs.Yteoiogjaecpddaa
