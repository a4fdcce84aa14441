/-
  Registers merged again and again: the newest of them is left.
-/
import Derived.Test.YteoiogjaecpddaaG13
import Derived.Test.YteoiogjaecpddaaC9
import Derived.Test.YteoiogjaecpddaaF31
namespace Go.Proofs.Yteoiogjaecpddaa
set_option linter.unusedVariables false
set_option linter.unusedSimpArgs false

theorem less_trans : ∀ a b c : List UInt8, Op.bytesLess a b = true → Op.bytesLess b c = true → Op.bytesLess a c = true
  | _, [], c, h, _ => by cases ‹List UInt8› <;> simp [Op.bytesLess] at h
  | _, _ :: _, [], _, k => by simp [Op.bytesLess] at k
  | [], _ :: _, _ :: _, _, _ => rfl
  | a :: x, b :: y, c :: z, h, k => by
    simp only [Op.bytesLess, Bool.or_eq_true, Bool.and_eq_true, decide_eq_true_eq, beq_iff_eq] at h k ⊢
    rcases h with h | ⟨rfl, h⟩
    · rcases k with k | ⟨rfl, k⟩
      · exact .inl (UInt8.lt_iff_toNat_lt.2 (Nat.lt_trans (UInt8.lt_iff_toNat_lt.1 h) (UInt8.lt_iff_toNat_lt.1 k)))
      · exact .inl h
    · rcases k with k | ⟨rfl, k⟩
      · exact .inl k
      · exact .inr ⟨rfl, less_trans x y z h k⟩
theorem ltN_trans {a b c : ByteArray} (h : ltN a b = true) (k : ltN b c = true) : ltN a c = true := less_trans _ _ _ h k
theorem ltN_irr (a : ByteArray) : ltN a a = false := less_irrefl _
theorem eqN_iff {a b : ByteArray} : eqN a b = true ↔ a.toList = b.toList := by unfold eqN; simp
theorem ltN_eq {a b : ByteArray} (h : ltN a b = true) : eqN a b = false := by
  cases e : eqN a b with
  | false => rfl
  | true => rw [less_of_eq e] at h; cases h
theorem ltN_eq' {a b : ByteArray} (h : ltN b a = true) : eqN a b = false := by
  cases e : eqN a b with
  | false => rfl
  | true =>
    have : eqN b a = true := eqN_iff.2 (eqN_iff.1 e).symm
    rw [less_of_eq this] at h; cases h
theorem lt_tri {a b : ByteArray} (h : ltN a b = false) (k : eqN a b = false) : ltN b a = true := by
  have := less_total a.toList b.toList
  unfold ltN at h ⊢
  unfold eqN at k
  rw [h, k] at this
  cases e : Op.bytesLess b.toList a.toList with
  | true => rfl
  | false => rw [e] at this; cases this
theorem lt_of_pos {α : Type} {lt : α → Bool} (z : α) : ∀ {l : List α} {j : Nat}, j < pos lt l → lt (l.getD j z) = true
  | [], j, h => by simp [pos] at h
  | y :: l, j, h => by
    unfold pos at h
    split at h
    · rename_i hy
      cases j with
      | zero => exact hy
      | succ j => exact lt_of_pos z (l := l) (j := j) (by omega)
    · omega
theorem at_pos {α : Type} {lt : α → Bool} (z : α) : ∀ {l : List α}, pos lt l < l.length → lt (l.getD (pos lt l) z) = false
  | [], h => by simp at h
  | y :: l, h => by
    unfold pos at h ⊢
    split
    · rename_i hy
      rw [if_pos hy] at h
      exact at_pos z (l := l) (by simpa using h)
    · rename_i hy
      simpa using hy
theorem up {id peer : Int} {ls : List LS} (h : linesB id peer ls = true) : ∀ i j, i < j → j < ls.length → ltN (ls.getD i LS.z).name (ls.getD j LS.z).name = true := by
  intro i j hij
  induction j with
  | zero => omega
  | succ j ih =>
    intro hj
    have h1 := lines_at h (j + 1) hj
    unfold okAt at h1
    rw [prevN_succ] at h1
    simp only [Bool.and_eq_true] at h1
    by_cases e : i = j
    · rw [e]; exact h1.1
    · exact ltN_trans (ih (by omega) (by omega)) h1.1
theorem hit_iff {name : ByteArray} {ls : List LS} (h : hitN name ls = true) : posN name ls < ls.length ∧ eqN (ls.getD (posN name ls) LS.z).name name = true := by
  have hl : posN name ls < ls.length := hit_lt h
  refine ⟨hl, ?_⟩
  unfold hitN hit at h
  rw [get_zL ls _ hl] at h
  exact h
theorem hit_no {name : ByteArray} {ls : List LS} (h : hitN name ls = false) (hl : posN name ls < ls.length) : eqN (ls.getD (posN name ls) LS.z).name name = false := by
  unfold hitN hit at h
  rw [get_zL ls _ hl] at h
  exact h
theorem reg_eq {id peer : Int} {ls : List LS} (name : ByteArray) (h : linesB id peer ls = true) : regF name ls = regN name ls := by
  have below : ∀ j, j < posN name ls → eqN (ls.getD j LS.z).name name = false := fun j hj => ltN_eq (lt_of_pos (lt := fun x : LS => ltN x.name name) LS.z hj)
  unfold regN
  cases hh : hitN name ls with
  | true =>
    obtain ⟨hl, he⟩ := hit_iff hh
    rw [if_pos rfl]
    exact regF_at below hl he
  | false =>
    rw [if_neg (by decide)]
    refine regF_none fun j hj => ?_
    by_cases hp : j < posN name ls
    · exact below j hp
    · have hl : posN name ls < ls.length := by omega
      have e1 := hit_no hh hl
      have e2 := at_pos (lt := fun x : LS => ltN x.name name) LS.z hl
      have e3 : ltN name (ls.getD (posN name ls) LS.z).name = true := lt_tri e2 e1
      by_cases e : j = posN name ls
      · rw [e]; exact e1
      · exact ltN_eq' (ltN_trans e3 (up h _ j (by omega) hj))
theorem wr_reg {name : ByteArray} {v p f : Int} {ls : List LS} (hz : zeroB v p f = false) (hr : hitN name ls = true ∨ ls.length < 8) :
    regN name (wrL name v p f ls) = ⟨name, v, p, f⟩ ∧ hitN name (wrL name v p f ls) = true ∧ ((wrL name v p f ls).length ≤ 8 ∨ (wrL name v p f ls).length ≤ ls.length) := by
  have key : ∀ (l : List LS) (k : Nat), l[k]? = some ⟨name, v, p, f⟩ → (∀ q ∈ l.take k, ltN q.name name = true) → regN name l = ⟨name, v, p, f⟩ ∧ hitN name l = true := by
    intro l k h1 h2
    have := hit_at (lt := fun x : LS => ltN x.name name) (eq := fun x => eqN x.name name) h2 h1 (ltN_irr name)
    have e2 : hitN name l = true := this.2.trans (by show eqN name name = true; exact eqN_iff.2 rfl)
    refine ⟨?_, e2⟩
    unfold regN
    rw [e2, if_pos rfl, show posN name l = k from this.1, List.getD_eq_getElem?_getD, h1]
    rfl
  have lts : ∀ q ∈ ls.take (posN name ls), ltN q.name name = true := by
    intro q hq
    obtain ⟨j, hj, rfl⟩ := List.mem_iff_getElem.1 hq
    have hj' : j < posN name ls := by rw [List.length_take] at hj; omega
    have := lt_of_pos (lt := fun x : LS => ltN x.name name) LS.z hj'
    rw [List.getElem_take]
    have hjl : j < ls.length := by rw [List.length_take] at hj; omega
    rw [List.getD_eq_getElem?_getD, List.getElem?_eq_getElem hjl] at this
    exact this
  have hp : posN name ls ≤ ls.length := pos_le _ _
  unfold wrL
  rw [if_neg (by rw [hz]; decide)]
  cases hh : hitN name ls with
  | true =>
    have hl := (hit_iff hh).1
    rw [if_pos rfl]
    obtain ⟨e1, e2⟩ := key (ls.set (posN name ls) ⟨name, v, p, f⟩) (posN name ls) (by rw [List.getElem?_set_self hl]) (by rw [List.take_set, List.set_eq_of_length_le (by rw [List.length_take]; omega)]; exact lts)
    exact ⟨e1, e2, .inr (by rw [List.length_set]; exact Nat.le_refl _)⟩
  | false =>
    have h8 : ls.length < 8 := hr.resolve_left (by rw [hh]; decide)
    rw [if_neg (by decide), if_pos h8]
    have htl : (ls.take (posN name ls)).length = posN name ls := by rw [List.length_take]; omega
    obtain ⟨e1, e2⟩ := key (ls.take (posN name ls) ++ ⟨name, v, p, f⟩ :: ls.drop (posN name ls)) (posN name ls) (by rw [List.getElem?_append_right (by omega), htl]; simp) (by rw [List.take_left' htl]; exact lts)
    exact ⟨e1, e2, .inl (by simp; omega)⟩
def LS.rs (x : LS) : RS := ⟨x.v, x.p, x.f⟩
/-- What has been merged so far. -/
structure Grw (id : Int) (h : HS) (name : ByteArray) (x : HS) (ms : List RS) : Prop where
  peer : x.peer = h.peer
  room : hitN name x.ls = true ∨ x.ls.length < 8
  few : x.ls.length ≤ 8
  real : zeroB (regN name x.ls).v (regN name x.ls).p (regN name x.ls).f = true ∨ 1 ≤ (regN name x.ls).v
  top : ∀ m ∈ ms, nw m (regN name x.ls).rs = false
  mem : ∃ m ∈ ms, m.v = (regN name x.ls).v ∧ m.p = (regN name x.ls).p
theorem mg_no {id : Int} {x : HS} {name : ByteArray} {v p f : Int} (h : x.mgB id name v p f = false) : x.mg id name v p f = x ∧ x.mgC id name v p f = false := by
  unfold HS.mg HS.mgC
  rw [h]
  exact ⟨rfl, rfl⟩
theorem Grw.unfit {id : Int} {h x : HS} {name : ByteArray} {ms : List RS} (g : Grw id h name x ms) {r : RS} (hf : fitB r.v r.p r.f id h.peer = false) : x.mgB id name r.v r.p r.f = false := by
  unfold HS.mgB
  rw [g.peer, hf]
  rfl
theorem Grw.old {id : Int} {h x : HS} {name : ByteArray} {ms : List RS} (g : Grw id h name x ms) {r : RS} (hn : nw r (regN name x.ls).rs = false) : x.mgB id name r.v r.p r.f = false ∧ Grw id h name x (ms ++ [r]) := by
  refine ⟨?_, ⟨g.peer, g.room, g.few, g.real, ?_, ?_⟩⟩
  · unfold HS.mgB
    rw [show newB r.v r.p (regN name x.ls).v (regN name x.ls).p = false from hn, Bool.and_false]
  · intro m hm
    rcases List.mem_append.1 hm with hm | hm
    · exact g.top m hm
    · simp at hm; subst hm; exact hn
  · obtain ⟨m, hm, e⟩ := g.mem
    exact ⟨m, List.mem_append.2 (.inl hm), e⟩
theorem fit_real {r : RS} {a b : Int} (h : fitB r.v r.p r.f a b = true) : zeroB r.v r.p r.f = true ∨ 1 ≤ r.v := by
  unfold fitB lineB at h
  simp only [Bool.and_eq_true, Bool.or_eq_true, decide_eq_true_eq] at h
  rcases h.2 with k | k
  · exact .inl k
  · exact .inr k.1.1.1
theorem Grw.new {id : Int} {h x : HS} {name : ByteArray} {ms : List RS} (g : Grw id h name x ms) {r : RS} (hf : fitB r.v r.p r.f id h.peer = true) (hn : nw r (regN name x.ls).rs = true) :
    x.mg id name r.v r.p r.f = x.wr name r.v r.p r.f ∧ x.mgC id name r.v r.p r.f = true ∧ regN name (x.wr name r.v r.p r.f).ls = ⟨name, r.v, r.p, r.f⟩ ∧ Grw id h name (x.wr name r.v r.p r.f) (ms ++ [r]) ∧ (x.wr name r.v r.p r.f).mgB id name r.v r.p r.f = false ∧ sameB r.v r.p r.f (regN name x.ls).v (regN name x.ls).p (regN name x.ls).f = false := by
  have hnw := (nw_iff _ _).1 hn
  have hz : zeroB r.v r.p r.f = false := by
    cases e : zeroB r.v r.p r.f with
    | false => rfl
    | true =>
      exfalso
      unfold zeroB at e
      have := of_decide_eq_true e
      have hq := g.real
      unfold zeroB at hq
      simp only [LS.rs] at hnw
      rcases hq with hq | hq
      · have := of_decide_eq_true hq
        omega
      · omega
  have h1 : 1 ≤ r.v := (fit_real hf).resolve_left (by rw [hz]; decide)
  obtain ⟨e1, e2, e3⟩ := wr_reg (name := name) hz g.room
  have b : x.mgB id name r.v r.p r.f = true := by unfold HS.mgB; rw [g.peer, hf]; exact hn
  have hm : x.mg id name r.v r.p r.f = x.wr name r.v r.p r.f := by unfold HS.mg; rw [b]; rfl
  have e1' : regN name (x.wr name r.v r.p r.f).ls = ⟨name, r.v, r.p, r.f⟩ := e1
  have hc : x.mgC id name r.v r.p r.f = true := by
    unfold HS.mgC
    rw [b, e1]
    simp [sameB]
  refine ⟨hm, hc, e1', ⟨g.peer, .inl e2, ?_, ?_, ?_, ?_⟩, ?_, ?_⟩
  · show (wrL name r.v r.p r.f x.ls).length ≤ 8
    have := g.few
    omega
  · rw [e1']; exact .inr h1
  · intro m hm
    rw [e1']
    rcases List.mem_append.1 hm with hm | hm
    · have := g.top m hm
      have h2 : ge (regN name x.ls).rs m := this
      have h3 : ge r (regN name x.ls).rs := by rw [ge_iff]; omega
      exact ge_trans (a := (⟨name, r.v, r.p, r.f⟩ : LS).rs) h3 h2
    · simp at hm; subst hm; exact nw_self _
  · rw [e1']
    exact ⟨r, List.mem_append.2 (.inr (by simp)), rfl, rfl⟩
  · unfold HS.mgB
    rw [e1']
    show (_ && nw r r) = false
    rw [nw_self, Bool.and_false]
  · unfold sameB
    refine decide_eq_false fun e => ?_
    simp only [LS.rs] at hnw
    omega
theorem Grw.start {id : Int} {h : HS} {name : ByteArray} (hf : h.fit id = true) (hr : zeroB (regN name h.ls).v (regN name h.ls).p (regN name h.ls).f = false ∨ h.ls.length < 8) : Grw id h name h [(regN name h.ls).rs] := by
  have hl : h.ls.length ≤ 8 ∧ linesB id h.peer h.ls = true := by
    unfold HS.fit at hf
    simp only [Bool.and_eq_true, decide_eq_true_eq] at hf
    exact hf.2.2.2.2.2.2
  have hreal : zeroB (regN name h.ls).v (regN name h.ls).p (regN name h.ls).f = true ∨ 1 ≤ (regN name h.ls).v := by
    unfold regN
    cases hh : hitN name h.ls with
    | false => exact .inl rfl
    | true =>
      rw [if_pos rfl]
      have := lines_at hl.2 _ (hit_iff hh).1
      unfold okAt ok1 at this
      simp only [Bool.and_eq_true] at this
      exact fit_real (r := (h.ls.getD (posN name h.ls) LS.z).rs) this.2.2.2
  refine ⟨rfl, ?_, hl.1, hreal, ?_, ⟨_, List.mem_singleton.2 rfl, rfl, rfl⟩⟩
  · cases hh : hitN name h.ls with
    | true => exact .inl rfl
    | false =>
      refine .inr (hr.resolve_left ?_)
      unfold regN
      rw [hh, if_neg (by decide)]
      decide
  · intro m hm
    simp at hm
    subst hm
    exact nw_self _
theorem mo_mem (ms : List RS) (h : 0 < ms.length) : mof ms ∈ ms ∧ ∀ m ∈ ms, ge (mof ms) m := by
  unfold mof
  rw [if_neg (by omega)]
  constructor
  · obtain ⟨x, hx, e⟩ := mo_in ms ms.length (ms.length - 1) (by omega)
    rw [e, List.getD_eq_getElem?_getD, List.getElem?_eq_getElem hx]
    exact List.getElem_mem hx
  · intro m hm
    obtain ⟨j, hj, rfl⟩ := List.mem_iff_getElem.1 hm
    have := mo_ge ms (ms.length - 1) j (by omega)
    rw [List.getD_eq_getElem?_getD, List.getElem?_eq_getElem hj] at this
    exact this
theorem Grw.done {id : Int} {h x : HS} {name : ByteArray} {ms : List RS} (g : Grw id h name x ms) : (regN name x.ls).v = (mof ms).v ∧ (regN name x.ls).p = (mof ms).p := by
  obtain ⟨m, hm, e1, e2⟩ := g.mem
  obtain ⟨h1, h2⟩ := mo_mem ms (List.length_pos_of_mem hm)
  have h3 := g.top _ h1
  have h4 : nw m (mof ms) = false := h2 m hm
  have a1 : ¬ ((regN name x.ls).rs.v < (mof ms).v ∨ ((mof ms).v = (regN name x.ls).rs.v ∧ (mof ms).p < (regN name x.ls).rs.p)) := fun k => by rw [(nw_iff _ _).2 k] at h3; cases h3
  have a2 : ¬ ((mof ms).v < m.v ∨ (m.v = (mof ms).v ∧ m.p < (mof ms).p)) := fun k => by rw [(nw_iff _ _).2 k] at h4; cases h4
  simp only [LS.rs] at a1
  omega
end Go.Proofs.Yteoiogjaecpddaa
