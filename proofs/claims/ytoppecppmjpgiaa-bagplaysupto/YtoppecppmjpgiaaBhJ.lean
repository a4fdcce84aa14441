/-
  Package bag: stretches of a list appended to a list of one's own.
-/
import Derived.Test.YtoppecppmjpgiaaBhI
namespace Go.Proofs.Ytoppecppmjpgiaa
open Go.ChangeShapes Go.WideShapes Go.ChangeAt Go.RowKit Go.Maps
set_option linter.unusedVariables false
set_option linter.unusedSimpArgs false

theorem lcs_append (ls ms : List LK) : lcs (ls ++ ms) = lcs ls ++ lcs ms := by simp [lcs]
theorem Lst.cells_at {W : World} {g off n cap : Nat} {ds : List DG} (L : Lst W (some ⟨g, off, none⟩) n cap ds) (j : Nat) (u : Value) (hj : (dcs ds)[j]? = some u) : W.cell? ⟨g, off + j, none⟩ = some u := by
  rcases L.mem with ⟨e, _⟩ | ⟨g', off', cur, e, hh, hcs, htk⟩
  · cases e
  · cases e
    have hjl := (List.getElem?_eq_some_iff.1 hj).1
    have hs := L.size
    rw [dcs_len] at hjl
    refine row_cell hh _ _ ?_
    rw [← htk, List.getElem?_take, if_pos (by omega), List.getElem?_drop, Array.getElem?_toList] at hj
    exact hj
/-- append(own, stretch...). -/
theorem run_more_lst {W : World} {base k : Nat} {v : Value} {es : List DG} {g off n c : Nat} {ds : List DG} (ty : TypeId) (hown : W.ownsRow base 33 4 v k (dcs es)) (hl : ds.length = n) (hc : ∀ j u, (dcs ds)[j]? = some u → W.cell? ⟨g, off + j, none⟩ = some u) (hn : (k + n) * 40 ≤ 140737488355328) (hb : base ≤ W.heap.size) :
    ∃ v' w', (Builtin.append_ #[22, 22] ty #[v, .slice (some ⟨g, off, none⟩) n c]).run Try.prog W = .ok v' w' ∧ w'.ownsRow base 33 4 v' (k + n) (dcs (es ++ ds)) ∧ Below base W w' := by
  obtain ⟨i0, hi, hz0, hz1, hz2⟩ := info_parts info33
  obtain ⟨v', w', hrun, r1, r2, _⟩ := run_append_own (P := Try.prog) W base 22 ty 33 i0 _ 4 40 Try.underlying22 hi hz0 hz1 hz2 rfl (by decide) v k (dcs es) hown ⟨g, off, none⟩ n c (dcs ds) (by rw [dcs_len, hl]; omega) (fun j u hj => by rw [add_plain]; exact hc j u hj) (dcs_one ds) (by unfold maxLen; omega) (by omega) hb
  rw [← dcs_append] at r1
  exact ⟨v', w', hrun, r1, (Below.refl _ _).grown r2 hb (fun q hq => (World.ownsRow.lt hown q hq).1)⟩
theorem run_more_lks {W : World} {base k : Nat} {v : Value} {es : List LK} {g off m c : Nat} {ls : List LK} (ty : TypeId) (hown : W.ownsRow base 65 2 v k (lcs es)) (hl : ls.length = m) (hc : ∀ j u, (lcs ls)[j]? = some u → W.cell? ⟨g, off + j, none⟩ = some u) (hn : (k + m) * 16 ≤ 140737488355328) (hb : base ≤ W.heap.size) :
    ∃ v' w', (Builtin.append_ #[23, 23] ty #[v, .slice (some ⟨g, off, none⟩) m c]).run Try.prog W = .ok v' w' ∧ w'.ownsRow base 65 2 v' (k + m) (lcs (es ++ ls)) ∧ Below base W w' := by
  obtain ⟨i0, hi, hz0, hz1, hz2⟩ := info_parts info65
  obtain ⟨v', w', hrun, r1, r2, _⟩ := run_append_own (P := Try.prog) W base 23 ty 65 i0 _ 2 16 Try.underlying23 hi hz0 hz1 hz2 rfl (by decide) v k (lcs es) hown ⟨g, off, none⟩ m c (lcs ls) (by rw [lcs_len, hl]) (fun j u hj => by rw [add_plain]; exact hc j u hj) (lcs_one ls) (by unfold maxLen; omega) (by omega) hb
  rw [← lcs_append] at r1
  exact ⟨v', w', hrun, r1, (Below.refl _ _).grown r2 hb (fun q hq => (World.ownsRow.lt hown q hq).1)⟩
theorem wpList_more_lst {ops : Array Oper} {rest : List Oper} {o : Oper} {A : Act} {W : World} {Q : Exit → Act → World → Prop} (hgd : o.guard = none) (s x : Operand) (ho : o.op = .call { callee := .builtin .append, args := #[s, x], argTypes := #[22, 22] }) {base k : Nat} {v : Value} {es : List DG} {g off n c : Nat} {ds : List DG}
    (hs : A.eval s = v) (hx : A.eval x = .slice (some ⟨g, off, none⟩) n c) (hown : W.ownsRow base 33 4 v k (dcs es)) (hl : ds.length = n) (hc : ∀ j u, (dcs ds)[j]? = some u → W.cell? ⟨g, off + j, none⟩ = some u) (hn : (k + n) * 40 ≤ 140737488355328) (hb : base ≤ W.heap.size)
    (h : ∀ v' w', w'.ownsRow base 33 4 v' (k + n) (dcs (es ++ ds)) → Below base W w' → wpList Try.prog ops Q rest (A.put o.dst v') w') : wpList Try.prog ops Q (o :: rest) A W := by
  obtain ⟨v', w', hrun, r1, r2⟩ := run_more_lst (c := c) o.type hown hl hc hn hb
  refine wpList_plain hgd fun K hK => ?_
  unfold Oper.wp
  simp [execOp, ho, resolve, invoke, builtin, hs, hx, hrun, Result.andThen]
  exact hK _ _ (h v' w' r1 r2)
theorem wpList_more_lks {ops : Array Oper} {rest : List Oper} {o : Oper} {A : Act} {W : World} {Q : Exit → Act → World → Prop} (hgd : o.guard = none) (s x : Operand) (ho : o.op = .call { callee := .builtin .append, args := #[s, x], argTypes := #[23, 23] }) {base k : Nat} {v : Value} {es : List LK} {g off m c : Nat} {ls : List LK}
    (hs : A.eval s = v) (hx : A.eval x = .slice (some ⟨g, off, none⟩) m c) (hown : W.ownsRow base 65 2 v k (lcs es)) (hl : ls.length = m) (hc : ∀ j u, (lcs ls)[j]? = some u → W.cell? ⟨g, off + j, none⟩ = some u) (hn : (k + m) * 16 ≤ 140737488355328) (hb : base ≤ W.heap.size)
    (h : ∀ v' w', w'.ownsRow base 65 2 v' (k + m) (lcs (es ++ ls)) → Below base W w' → wpList Try.prog ops Q rest (A.put o.dst v') w') : wpList Try.prog ops Q (o :: rest) A W := by
  obtain ⟨v', w', hrun, r1, r2⟩ := run_more_lks (c := c) o.type hown hl hc hn hb
  refine wpList_plain hgd fun K hK => ?_
  unfold Oper.wp
  simp [execOp, ho, resolve, invoke, builtin, hs, hx, hrun, Result.andThen]
  exact hK _ _ (h v' w' r1 r2)
theorem dcs_drop_at {ds : List DG} {k j : Nat} : (dcs (ds.drop k))[j]? = (dcs ds)[4 * k + j]? := by
  by_cases hk : k ≤ ds.length
  · have e : dcs ds = dcs (ds.take k) ++ dcs (ds.drop k) := by rw [← dcs_append, List.take_append_drop]
    have hl : (dcs (ds.take k)).length = 4 * k := by rw [dcs_len, List.length_take, Nat.min_eq_left hk]
    rw [e, List.getElem?_append_right (by omega), hl]
    congr 1
    omega
  · rw [List.drop_of_length_le (by omega), List.getElem?_eq_none (l := dcs ds) (by rw [dcs_len]; omega)]
    rfl
theorem lcs_drop_at {ls : List LK} {k j : Nat} : (lcs (ls.drop k))[j]? = (lcs ls)[2 * k + j]? := by
  by_cases hk : k ≤ ls.length
  · have e : lcs ls = lcs (ls.take k) ++ lcs (ls.drop k) := by rw [← lcs_append, List.take_append_drop]
    have hl : (lcs (ls.take k)).length = 2 * k := by rw [lcs_len, List.length_take, Nat.min_eq_left hk]; omega
    rw [e, List.getElem?_append_right (by omega), hl]
    congr 1
    omega
  · rw [List.drop_of_length_le (by omega), List.getElem?_eq_none (l := lcs ls) (by rw [lcs_len]; omega)]
    rfl
theorem dcs_take_at {ds : List DG} {k j : Nat} {u : Value} (h : (dcs (ds.take k))[j]? = some u) : (dcs ds)[j]? = some u := by
  have e : dcs ds = dcs (ds.take k) ++ dcs (ds.drop k) := by rw [← dcs_append, List.take_append_drop]
  rw [e, List.getElem?_append_left (List.getElem?_eq_some_iff.1 h).1]
  exact h
theorem lcs_take_at {ls : List LK} {k j : Nat} {u : Value} (h : (lcs (ls.take k))[j]? = some u) : (lcs ls)[j]? = some u := by
  have e : lcs ls = lcs (ls.take k) ++ lcs (ls.drop k) := by rw [← lcs_append, List.take_append_drop]
  rw [e, List.getElem?_append_left (List.getElem?_eq_some_iff.1 h).1]
  exact h
end Go.Proofs.Ytoppecppmjpgiaa
