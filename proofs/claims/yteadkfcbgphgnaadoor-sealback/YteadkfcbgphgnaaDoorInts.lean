/-
  Lists of places of one's own; one more element, and what else stays.
-/
import Derived.Test.YteadkfcbgphgnaaDoorLists
namespace Go.Proofs.YteadkfcbgphgnaaDoor
open Go.ChangeShapes Go.WideShapes Go.ChangeAt Go.RowKit
set_option linter.unusedVariables false

abbrev iv (p : Nat) : Value := .int .i64 (p : Int)
/-- A list of places of one's own. -/
def Pls (base : Nat) (w : World) (v : Value) (ps : List Nat) : Prop := w.ownsRow base 3 1 v ps.length (ps.map iv)
theorem Pls.nil (base : Nat) (w : World) : Pls base w (.slice none 0 0) [] := World.ownsRow_nil w base 3 1
theorem Pls.of_block {base : Nat} {w w' : World} {v : Value} {ps : List Nat} (h : Pls base w v ps) (hb : ∀ g, v.ownBlock = some g → w'.heap[g]? = w.heap[g]?) : Pls base w' v ps := ownsRow_of_block h hb
theorem Pls.below {base : Nat} {w w' : World} {v : Value} {ps : List Nat} (h : Pls base w v ps) (hb : Below w.heap.size w w') : Pls base w' v ps := h.of_block fun g hg => hb.block g (World.ownsRow.lt h g hg).2
theorem Pls.len {base : Nat} {w : World} {v : Value} {ps : List Nat} (h : Pls base w v ps) : ∃ a cap, v = .slice a ps.length cap ∧ ps.length ≤ cap ∧ cap ≤ 9223372036854775807 ∧ (ps ≠ [] → ∃ g, a = some ⟨g, 0, none⟩ ∧ g < w.heap.size ∧ ∀ k, k < ps.length → w.cell? ⟨g, k, none⟩ = some (iv (ps.getD k 0))) := by
  have h0 : w.ownsRow base 3 1 v ps.length (ps.map iv) := h
  rcases h0.2 with ⟨rfl, hn⟩ | ⟨g, cap, cur, rfl, hg, hh, hn, hc, hcs, ht⟩
  · have e : ps = [] := by simpa using hn
    subst e
    exact ⟨none, 0, rfl, Nat.le_refl _, by omega, fun h => absurd rfl h⟩
  · unfold maxLen at hc
    refine ⟨_, _, rfl, hn, by omega, fun _ => ⟨g, rfl, (Array.getElem?_eq_some_iff.1 hh).1, fun k hk => ?_⟩⟩
    rw [World.ownsRow.cellAt h0 k (by omega)]
    simp [List.getD, List.getElem?_eq_getElem hk]
/-- What lies elsewhere than in v stays. -/
def Keeps (v : Value) (w w' : World) : Prop := ∀ g, g < w.heap.size → v.ownBlock ≠ some g → w'.heap[g]? = w.heap[g]?
theorem Bods.keeps {base base' : Nat} {e : TypeId} {size : Nat} {w w' : World} {v u : Value} {n : Nat} {xs : List Value} {bs : List (List Int)} (h : Bods base w v bs) (hu : w.ownsRow base' e size u n xs) (h1 : e ≠ 22) (h2 : e ≠ 5) (k : Keeps u w w') : Bods base w' v bs := by
  obtain ⟨vs, o, l⟩ := h
  refine ⟨vs, ownsRow_of_block o fun g hg => k g (o.lt g hg).2 (owns_ne o hu (Ne.symm h1) hg), l.of_block fun x hx g hg => k g (l.lt x hx g hg).2 ?_⟩
  obtain ⟨i, hi, rfl⟩ := List.getElem_of_mem hx
  obtain ⟨y, hy, ho⟩ := l.get i (by have := l.length; omega)
  rw [List.getElem?_eq_getElem hi] at hy
  cases hy
  exact owns_ne ho hu (Ne.symm h2) hg
theorem Pls.keeps {base base' : Nat} {e : TypeId} {size : Nat} {w w' : World} {v u : Value} {n : Nat} {xs : List Value} {ps : List Nat} (h : Pls base w v ps) (hu : w.ownsRow base' e size u n xs) (h1 : e ≠ 3) (k : Keeps u w w') : Pls base w' v ps :=
  h.of_block fun g hg => k g (World.ownsRow.lt h g hg).2 (owns_ne h hu (Ne.symm h1) hg)
theorem Pls.bods {base base' : Nat} {w w' : World} {v u : Value} {bs : List (List Int)} {ps : List Nat} (h : Pls base w v ps) (hu : Bods base' w u bs) (k : Keeps u w w') : Pls base w' v ps := by
  obtain ⟨_, o, _⟩ := hu
  exact h.keeps o (by decide) k
theorem info3 : (Tryd.prog.info? 3).map (fun i => (i.zero, i.size, i.bytes)) = some (some (.int .i64 0), 1, 8) := by kernel_rfl

/-- append(l, b), and what else lies there stays. -/
theorem wpList_append_bod2 (w w0 : World) {ops : Array Oper} {rest : List Oper} {o : Oper} {a : Act} {Q : Exit → Act → World → Prop} (hg : o.guard = none)
    (s x : Operand) (hop : o.op = Op.call { callee := Callee.builtin Builtin.append, args := #[s, x], argTypes := #[33, 33] })
    (base : Nat) (v u : Value) (bs : List (List Int)) (b : List Int) (hs : a.eval s = v) (hx : a.eval x = .slice (some ⟨w0.heap.size, 0, none⟩) 1 1) (hw : w = w0.alloc (.cells #[u] 22))
    (hv : Bods base w0 v bs) (hu : Own base w0 u b) (hb : base ≤ w0.heap.size) (hl : (bs.length + 1) * 24 ≤ 140737488355328)
    (hK : ∀ v' w', Bods base w' v' (bs ++ [b]) → Below base w0 w' → Keeps v w0 w' → w0.heap.size ≤ w'.heap.size → wpList Tryd.prog ops Q rest (a.put o.dst v') w') : wpList Tryd.prog ops Q (o :: rest) a w := by
  obtain ⟨i0, hi, hz0, hz1, hz2⟩ := info_parts info22
  obtain ⟨vs, h1, h2⟩ := hv
  subst hw
  have hB : Below base w0 (w0.alloc (.cells #[u] 22)) := (Below.refl _ _).alloc hb _
  have h1' := ownsRow_of_block h1 (w' := w0.alloc (.cells #[u] 22)) fun g hg => Below.heap_alloc _ _ _ (h1.lt g hg).2
  refine wpList_append_own _ hg s x 33 hop base 22 i0 (.slice none 0 0) 1 24 Tryd.underlying33 hi hz0 hz1 hz2 rfl (by decide) v bs.length vs hs h1' ⟨w0.heap.size, 0, none⟩ 1 1 [u] hx rfl (cell_one_new _ _ _) (by simpa using own_one hu) (by unfold maxLen; omega) hl (by simp; omega) ?_
  intro v' w' ho hgr _
  have hlt : ∀ k, v.ownBlock = some k → base ≤ k := fun k hk => (h1.lt k hk).1
  have hkeep : Keeps v w0 w' := fun g hg hne => (hgr.block g (by simp; omega) (fun e => hne e.symm)).trans (Below.heap_alloc _ _ _ hg)
  refine hK v' w' ⟨vs ++ [u], by simpa using ho, ?_⟩ (hB.grown hgr (by simp; omega) hlt) hkeep (by have := hgr.size; simp at this; omega)
  have hk : OwnL base w0 (vs ++ [u]) (bs ++ [b]) := OwnL.snoc hu h2
  exact hk.of_block fun x hx g hg => hkeep g (hk.lt x hx g hg).2 (OwnL.ne h1 hk x hx g hg)

/-- append(l, p): one more place. -/
theorem wpList_append_pl (w w0 : World) {ops : Array Oper} {rest : List Oper} {o : Oper} {a : Act} {Q : Exit → Act → World → Prop} (hg : o.guard = none)
    (s x : Operand) (hop : o.op = Op.call { callee := Callee.builtin Builtin.append, args := #[s, x], argTypes := #[44, 44] })
    (base : Nat) (v : Value) (ps : List Nat) (p : Nat) (hs : a.eval s = v) (hx : a.eval x = .slice (some ⟨w0.heap.size, 0, none⟩) 1 1) (hw : w = w0.alloc (.cells #[iv p] 3))
    (hv : Pls base w0 v ps) (hb : base ≤ w0.heap.size) (hl : (ps.length + 1) * 8 ≤ 140737488355328)
    (hK : ∀ v' w', Pls base w' v' (ps ++ [p]) → Below base w0 w' → Keeps v w0 w' → w0.heap.size ≤ w'.heap.size → wpList Tryd.prog ops Q rest (a.put o.dst v') w') : wpList Tryd.prog ops Q (o :: rest) a w := by
  obtain ⟨i0, hi, hz0, hz1, hz2⟩ := info_parts info3
  have h1 : w0.ownsRow base 3 1 v ps.length (ps.map iv) := hv
  subst hw
  have hB : Below base w0 (w0.alloc (.cells #[iv p] 3)) := (Below.refl _ _).alloc hb _
  have h1' := ownsRow_of_block h1 (w' := w0.alloc (.cells #[iv p] 3)) fun g hg => Below.heap_alloc _ _ _ (h1.lt g hg).2
  refine wpList_append_own _ hg s x 44 hop base 3 i0 (.int .i64 0) 1 8 Tryd.underlying44 hi hz0 hz1 hz2 rfl (by decide) v ps.length _ hs h1' ⟨w0.heap.size, 0, none⟩ 1 1 [iv p] hx rfl (cell_one_new _ _ _) (by simp [Value.oneCell']) (by unfold maxLen; omega) hl (by simp; omega) ?_
  intro v' w' ho hgr _
  have hlt : ∀ k, v.ownBlock = some k → base ≤ k := fun k hk => (h1.lt k hk).1
  exact hK v' w' (by simpa [Pls] using ho) (hB.grown hgr (by simp; omega) hlt) (fun g hg hne => (hgr.block g (by simp; omega) (fun e => hne e.symm)).trans (Below.heap_alloc _ _ _ hg)) (by have := hgr.size; simp at this; omega)

end Go.Proofs.YteadkfcbgphgnaaDoor
