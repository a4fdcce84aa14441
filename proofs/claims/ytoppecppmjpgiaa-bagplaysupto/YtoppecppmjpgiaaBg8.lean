/-
  Package bag: packets written over in their list.
-/
import Derived.Test.YtoppecppmjpgiaaBg7
namespace Go.Proofs.Ytoppecppmjpgiaa
open Go.ChangeShapes Go.WideShapes Go.ChangeAt Go.RowKit Go.Maps
set_option linter.unusedVariables false
set_option linter.unusedSimpArgs false

theorem over_row {α : Type} (l : List α) (off N p : Nat) (m : List α) (h : off + N ≤ l.length) (hp : p + m.length ≤ N) :
    ((l.take (off + p) ++ m ++ l.drop (off + p + m.length)).drop off).take N = ((l.drop off).take N).take p ++ m ++ ((l.drop off).take N).drop (p + m.length) := by
  have hl : (l.take (off + p)).length = off + p := by rw [List.length_take]; omega
  have ha : ((l.drop off).take p).length = p := by rw [List.length_take, List.length_drop]; omega
  rw [List.append_assoc, List.drop_append_of_le_length (by omega), List.drop_take, show off + p - off = p by omega, ← List.append_assoc, List.take_append, List.take_of_length_le (by rw [List.length_append, ha]; omega), List.length_append, ha, List.take_take, Nat.min_eq_left (by omega), List.drop_take, List.drop_drop]
  congr 3
  omega
theorem dcs_take (ds : List DG) (i : Nat) : dcs (ds.take i) = (dcs ds).take (4 * i) := by
  induction ds generalizing i with
  | nil => simp [dcs]
  | cons d ds ih =>
    cases i with
    | zero => simp [dcs]
    | succ i =>
      show d.cells ++ dcs (ds.take i) = (d.cells ++ dcs ds).take (4 * (i + 1))
      have hl : d.cells.length = 4 := rfl
      rw [ih, List.take_append, List.take_of_length_le (l := d.cells) (by omega), hl]
      congr 2
theorem dcs_drop (ds : List DG) (i : Nat) : dcs (ds.drop i) = (dcs ds).drop (4 * i) := by
  induction ds generalizing i with
  | nil => simp [dcs]
  | cons d ds ih =>
    cases i with
    | zero => simp [dcs]
    | succ i =>
      show dcs (ds.drop i) = (d.cells ++ dcs ds).drop (4 * (i + 1))
      have hl : d.cells.length = 4 := rfl
      rw [ih, List.drop_append, List.drop_of_length_le (l := d.cells) (by omega), hl, List.nil_append]
      congr 1
theorem dcs_append (a b : List DG) : dcs (a ++ b) = dcs a ++ dcs b := by simp [dcs]
theorem dcs_one (ds : List DG) : ∀ u ∈ dcs ds, u.oneCell' = true := by
  intro u hu
  obtain ⟨d, _, hd⟩ := List.mem_flatMap.1 hu
  exact cells_one d u hd
/-- Packets written over, from place i on. -/
theorem Lst.over {W : World} {g off n cap : Nat} {ds : List DG} (L : Lst W (some ⟨g, off, none⟩) n cap ds) (i : Nat) (es : List DG) (hi : i + es.length ≤ n) :
    ∃ cur', (storeCells ⟨g, off + i * 4, none⟩ (dcs es)).run Try.prog W = .ok () (W.setRow g cur') ∧ Lst (W.setRow g cur') (some ⟨g, off, none⟩) n cap (ds.take i ++ es ++ ds.drop (i + es.length)) := by
  rcases L.mem with ⟨e, _⟩ | ⟨g', off', cur, e, hh, hc, ht⟩
  · cases e
  · cases e
    have hel := dcs_len es
    have hle := L.le
    have hst := run_storeCells_at Try.prog g (off + i * 4) 33 (dcs es) 0 cur W hh (by rw [hel, hc]; omega) (dcs_one es)
    simp only [Nat.add_zero] at hst
    refine ⟨_, hst, ?_, hle, L.max, .inr ⟨g, off, _, rfl, setRow_heap _ _ _ _ _ _ hh, ?_, ?_⟩⟩
    · rw [List.length_append, List.length_append, List.length_take, List.length_drop, L.size]; omega
    · rw [List.size_toArray, List.length_append, List.length_append, List.length_take, List.length_drop, Array.length_toList, hel]; omega
    · have e1 : off + i * 4 = off + 4 * i := by omega
      show ((_ : List Value).drop off).take (4 * n) = _
      rw [e1, over_row cur.toList off (4 * n) (4 * i) (dcs es) (by rw [Array.length_toList, hc]; omega) (by rw [hel]; omega), ht, dcs_append, dcs_append, dcs_take, dcs_drop, hel, ← Nat.mul_add]
theorem wpList_store33 {ops : Array Oper} {rest : List Oper} {o : Oper} {A : Act} {W : World} {Q : Exit → Go.Act → World → Prop} (hgd : o.guard = none) (x y : Operand) (ho : o.op = .store 33 x y) {g off n cap : Nat} {ds : List DG} (i : Nat) (d : DG) (L : Lst W (some ⟨g, off, none⟩) n cap ds) (hi : i < n)
    (hx : A.eval x = .pointer (some ⟨g, off + i * 4, none⟩)) (hy : A.eval y = dgv d)
    (h : ∀ w', Lst w' (some ⟨g, off, none⟩) n cap (ds.set i d) → Only (at1 g) W w' → wpList Try.prog ops Q rest (A.put o.dst undef) w') : wpList Try.prog ops Q (o :: rest) A W := by
  obtain ⟨cur', hst, L'⟩ := L.over i [d] (by simp; omega)
  have e1 : ds.take i ++ [d] ++ ds.drop (i + [d].length) = ds.set i d := by
    rw [List.set_eq_take_append_cons_drop, if_pos (by rw [L.size]; exact hi)]
    simp
  rw [e1] at L'
  have e2 : dcs [d] = d.cells := by simp [dcs]
  rw [e2] at hst
  have hrun : (Instr.storeAt 33 (.pointer (some ⟨g, off + i * 4, none⟩)) (dgv d)).run Try.prog W = .ok () (W.setRow g cur') := by
    obtain ⟨i0, hi0, hz0, hz1, hz2⟩ := info_parts info33
    have hcl : (dgv d).cells = d.cells.toArray := rfl
    have h4 : d.cells.length = 4 := rfl
    simp [Instr.storeAt, Instr.sureAddr, storeVar, sizeOf, typeInfo, hi0, hcl, hz1, hst, h4]
  refine wpList_plain hgd fun K hK => ?_
  unfold Oper.wp execOp
  simp only [ho, hx, hy, Sem.run_bind, hrun, Result.andThen_ok, Sem.run_pure]
  exact hK _ _ (h _ L' (Only.setRow (C := at1 g) (Only.refl _ _) (fun _ => rfl) _))
end Go.Proofs.Ytoppecppmjpgiaa
