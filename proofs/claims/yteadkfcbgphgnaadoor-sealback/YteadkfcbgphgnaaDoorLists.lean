/-
  Lists of byte lists, as the walks are told of them: those that lie somewhere (Rows), those of one's own (Bods).
-/
import Derived.Test.YteadkfcbgphgnaaDoorSeal
namespace Go.Proofs.YteadkfcbgphgnaaDoor
open Go.ChangeShapes Go.WideShapes Go.ChangeAt Go.RowKit
set_option linter.unusedVariables false

/-- A list of byte lists that a slice value leads to in a world. -/
structure RowsB (w : World) (a : Option Addr) (len cap : Nat) (bs : List (List Int)) : Prop where
  size : bs.length = len
  le : len ≤ cap
  nil : a = none → len = 0 ∧ cap = 0
  mem : len = 0 ∨ ∃ b off, a = some ⟨b, off, none⟩ ∧ b < w.heap.size ∧ ∀ k, k < len → ∃ a' n c, w.cell? ⟨b, off + k, none⟩ = some (.slice a' n c) ∧ c ≤ 9223372036854775807 ∧ Row .u8 w a' n c (bs.getD k [])
theorem RowsB.below {w w' : World} {a : Option Addr} {len cap : Nat} {bs : List (List Int)} (R : RowsB w a len cap bs) (hb : Below w.heap.size w w') : RowsB w' a len cap bs where
  size := R.size
  le := R.le
  nil := R.nil
  mem := R.mem.imp id fun ⟨b, off, e, h, c⟩ => ⟨b, off, e, Nat.lt_of_lt_of_le h hb.size, fun k hk =>
    let ⟨a', n, c, h1, h2, h3⟩ := c k hk
    ⟨a', n, c, (hb.cell (p := ⟨b, off + k, none⟩) h).trans h1, h2, h3.below hb⟩⟩
theorem RowsB.at {w : World} {b off len cap : Nat} {bs : List (List Int)} (R : RowsB w (some ⟨b, off, none⟩) len cap bs) (k : Nat) (hk : k < len) : ∃ a' n c, w.cell? ⟨b, off + k, none⟩ = some (.slice a' n c) ∧ c ≤ 9223372036854775807 ∧ Row .u8 w a' n c (bs.getD k []) := by
  obtain ⟨b', off', e, hb, hc⟩ := R.mem.resolve_left (by omega)
  cases e
  exact hc k hk
theorem RowsB.pre {w : World} {a : Option Addr} {len cap : Nat} {bs : List (List Int)} (R : RowsB w a len cap bs) (k : Nat) (hk : k ≤ len) (hn : a ≠ none) : RowsB w a k cap (bs.take k) where
  size := by have := R.size; simp; omega
  le := by have := R.le; omega
  nil := fun h => absurd h hn
  mem := by
    by_cases h0 : k = 0
    · exact .inl h0
    · obtain ⟨b, off, e, hb, hc⟩ := R.mem.resolve_left (by omega)
      refine .inr ⟨b, off, e, hb, fun i hi => ?_⟩
      obtain ⟨a', n, c, h1, h2, h3⟩ := hc i (by omega)
      refine ⟨a', n, c, h1, h2, ?_⟩
      rw [List.getD_eq_getElem?_getD, List.getElem?_take, if_pos hi, ← List.getD_eq_getElem?_getD]
      exact h3
theorem rowsB_nil (w : World) : RowsB w none 0 0 [] := ⟨rfl, Nat.le_refl _, fun _ => ⟨rfl, rfl⟩, .inl rfl⟩

/-- Values that are byte lists of one's own. -/
def OwnL (base : Nat) (w : World) : List Value → List (List Int) → Prop
  | [], [] => True
  | v :: vs, b :: bs => Own base w v b ∧ OwnL base w vs bs
  | _, _ => False
theorem OwnL.snoc {base : Nat} {w : World} {v : Value} {b : List Int} (h : Own base w v b) : ∀ {vs : List Value} {bs : List (List Int)}, OwnL base w vs bs → OwnL base w (vs ++ [v]) (bs ++ [b])
  | [], [], _ => ⟨h, trivial⟩
  | _ :: _, _ :: _, k => ⟨k.1, OwnL.snoc h k.2⟩
theorem OwnL.length {base : Nat} {w : World} : ∀ {vs : List Value} {bs : List (List Int)}, OwnL base w vs bs → vs.length = bs.length
  | [], [], _ => rfl
  | _ :: _, _ :: _, k => by simp [OwnL.length k.2]
theorem OwnL.of_block {base : Nat} {w w' : World} : ∀ {vs : List Value} {bs : List (List Int)}, OwnL base w vs bs → (∀ u ∈ vs, ∀ g, u.ownBlock = some g → w'.heap[g]? = w.heap[g]?) → OwnL base w' vs bs
  | [], [], _, _ => trivial
  | v :: _, _ :: _, k, h => ⟨k.1.of_block (h v (by simp)), OwnL.of_block k.2 fun u hu => h u (List.mem_cons_of_mem _ hu)⟩
theorem OwnL.lt {base : Nat} {w : World} : ∀ {vs : List Value} {bs : List (List Int)}, OwnL base w vs bs → ∀ u ∈ vs, ∀ g, u.ownBlock = some g → base ≤ g ∧ g < w.heap.size
  | [], [], _, u, hu, _, _ => by cases hu
  | v :: _, _ :: _, k, u, hu, g, hg => by
    rcases List.mem_cons.1 hu with rfl | hu
    · exact World.ownsRow.lt k.1 g hg
    · exact OwnL.lt k.2 u hu g hg
theorem OwnL.get {base : Nat} {w : World} : ∀ {vs : List Value} {bs : List (List Int)}, OwnL base w vs bs → ∀ i, i < bs.length → ∃ v, vs[i]? = some v ∧ Own base w v (bs.getD i [])
  | [], [], _, i, hi => absurd hi (by simp)
  | v :: _, b :: _, k, 0, _ => ⟨v, rfl, k.1⟩
  | _ :: _, _ :: _, k, i + 1, hi => OwnL.get k.2 i (by simpa using hi)
theorem OwnL.below {base : Nat} {w w' : World} {vs : List Value} {bs : List (List Int)} (h : OwnL base w vs bs) (hb : Below w.heap.size w w') : OwnL base w' vs bs :=
  h.of_block fun u hu g hg => hb.block g (h.lt u hu g hg).2

/-- A list of byte lists of one's own. -/
def Bods (base : Nat) (w : World) (v : Value) (bs : List (List Int)) : Prop := ∃ vs, w.ownsRow base 22 1 v bs.length vs ∧ OwnL base w vs bs
theorem Bods.nil (base : Nat) (w : World) : Bods base w (.slice none 0 0) [] := ⟨[], World.ownsRow_nil w base 22 1, trivial⟩
theorem ownsRow_of_block {w w' : World} {base : Nat} {e : TypeId} {size : Nat} {v : Value} {n : Nat} {xs : List Value} (h : w.ownsRow base e size v n xs) (hb : ∀ g, v.ownBlock = some g → w'.heap[g]? = w.heap[g]?) : w'.ownsRow base e size v n xs := by
  refine ⟨h.1, ?_⟩
  rcases h.2 with hn | ⟨g, cap, cur, rfl, hg, hh, r⟩
  · exact .inl hn
  · exact .inr ⟨g, cap, cur, rfl, hg, (hb g rfl).trans hh, r⟩
theorem Bods.below {base : Nat} {w w' : World} {v : Value} {bs : List (List Int)} (h : Bods base w v bs) (hb : Below w.heap.size w w') : Bods base w' v bs :=
  let ⟨vs, h1, h2⟩ := h
  ⟨vs, ownsRow_of_block h1 fun g hg => hb.block g (h1.lt g hg).2, h2.below hb⟩
theorem Own.cell_of {base : Nat} {w : World} {v : Value} {zs : List Int} (h : Own base w v zs) (hb : Byt zs) : ∃ a n c, v = .slice a n c ∧ c ≤ 9223372036854775807 ∧ Row .u8 w a n c zs := by
  obtain ⟨a, c, rfl, R⟩ := h.row hb
  exact ⟨a, _, c, rfl, (h.cap).2.2, R⟩
theorem Bods.rows {base : Nat} {w : World} {v : Value} {bs : List (List Int)} (h : Bods base w v bs) (hb : ∀ b ∈ bs, Byt b) : ∃ a cap, v = .slice a bs.length cap ∧ RowsB w a bs.length cap bs ∧ cap ≤ 9223372036854775807 ∧ (bs ≠ [] → a ≠ none) := by
  obtain ⟨vs, h0, hL⟩ := h
  rcases h0.2 with ⟨rfl, hn⟩ | ⟨g, cap, cur, rfl, hg, hh, hn, hc, hcs, ht⟩
  · have e : bs = [] := by simpa using hn
    subst e
    exact ⟨none, 0, rfl, rowsB_nil _, by omega, fun h => absurd rfl h⟩
  · unfold maxLen at hc
    refine ⟨_, _, rfl, ⟨rfl, hn, fun h => (by cases h), .inr ⟨g, 0, rfl, (Array.getElem?_eq_some_iff.1 hh).1, fun k hk => ?_⟩⟩, by omega, fun _ h => (by cases h)⟩
    obtain ⟨u, hu, ho⟩ := hL.get k hk
    obtain ⟨a', n, c, rfl, hcc, hR⟩ := ho.cell_of (by
      rw [List.getD_eq_getElem?_getD, List.getElem?_eq_getElem hk]
      exact hb _ (List.getElem_mem hk))
    refine ⟨a', n, c, ?_, hcc, hR⟩
    rw [Nat.zero_add, World.ownsRow.cellAt h0 k (by have := hL.length; omega)]
    exact hu
theorem info22 : (Tryd.prog.info? 22).map (fun i => (i.zero, i.size, i.bytes)) = some (some (.slice none 0 0), 1, 24) := by kernel_rfl
theorem own_one {base : Nat} {w : World} {v : Value} {zs : List Int} (h : Own base w v zs) : v.oneCell' = true := by
  obtain ⟨a, c, rfl⟩ := own_len h
  rfl

theorem owns_block {w : World} {base : Nat} {e : TypeId} {size : Nat} {v : Value} {n : Nat} {xs : List Value} (h : w.ownsRow base e size v n xs) {g : Nat} (hg : v.ownBlock = some g) : ∃ cur, w.heap[g]? = some (.cells cur e (0, 0)) := by
  rcases h.2 with ⟨rfl, _⟩ | ⟨g', cap, cur, rfl, _, hh, _⟩
  · cases hg
  · cases hg
    exact ⟨cur, hh⟩
/-- Rows of unlike types lie in unlike blocks. -/
theorem owns_ne {w : World} {base base' : Nat} {e e' : TypeId} {size size' : Nat} {v v' : Value} {n n' : Nat} {xs xs' : List Value} (h : w.ownsRow base e size v n xs) (h' : w.ownsRow base' e' size' v' n' xs') (he : e ≠ e') {g : Nat} (hg : v.ownBlock = some g) : v'.ownBlock ≠ some g := by
  intro hg'
  obtain ⟨c, hc⟩ := owns_block h hg
  obtain ⟨c', hc'⟩ := owns_block h' hg'
  rw [hc] at hc'
  cases hc'
  exact he rfl
theorem OwnL.ne {base base' : Nat} {w : World} {v : Value} {n : Nat} {xs : List Value} (h : w.ownsRow base' 22 1 v n xs) : ∀ {vs : List Value} {bs : List (List Int)}, OwnL base w vs bs → ∀ u ∈ vs, ∀ g, u.ownBlock = some g → v.ownBlock ≠ some g
  | [], [], _, u, hu, _, _ => by cases hu
  | _ :: _, _ :: _, k, u, hu, g, hg => by
    rcases List.mem_cons.1 hu with rfl | hu
    · exact owns_ne k.1 h (by decide) hg
    · exact OwnL.ne h k.2 u hu g hg

/-- append(l, b): one more byte list of one's own. -/
theorem wpList_append_bod (w w0 : World) {ops : Array Oper} {rest : List Oper} {o : Oper} {a : Act} {Q : Exit → Act → World → Prop} (hg : o.guard = none)
    (s x : Operand) (hop : o.op = Op.call { callee := Callee.builtin Builtin.append, args := #[s, x], argTypes := #[33, 33] })
    (base : Nat) (v u : Value) (bs : List (List Int)) (b : List Int) (hs : a.eval s = v) (hx : a.eval x = .slice (some ⟨w0.heap.size, 0, none⟩) 1 1) (hw : w = w0.alloc (.cells #[u] 22))
    (hv : Bods base w0 v bs) (hu : Own base w0 u b) (hb : base ≤ w0.heap.size) (hl : (bs.length + 1) * 24 ≤ 140737488355328)
    (hK : ∀ v' w', Bods base w' v' (bs ++ [b]) → Below base w0 w' → wpList Tryd.prog ops Q rest (a.put o.dst v') w') : wpList Tryd.prog ops Q (o :: rest) a w := by
  obtain ⟨i0, hi, hz0, hz1, hz2⟩ := info_parts info22
  obtain ⟨vs, h1, h2⟩ := hv
  subst hw
  have hB : Below base w0 (w0.alloc (.cells #[u] 22)) := (Below.refl _ _).alloc hb _
  have h1' := ownsRow_of_block h1 (w' := w0.alloc (.cells #[u] 22)) fun g hg => Below.heap_alloc _ _ _ (h1.lt g hg).2
  refine wpList_append_own _ hg s x 33 hop base 22 i0 (.slice none 0 0) 1 24 Tryd.underlying33 hi hz0 hz1 hz2 rfl (by decide) v bs.length vs hs h1' ⟨w0.heap.size, 0, none⟩ 1 1 [u] hx rfl (cell_one_new _ _ _) (by simpa using own_one hu) (by unfold maxLen; omega) hl (by simp; omega) ?_
  intro v' w' ho hgr _
  have hlt : ∀ k, v.ownBlock = some k → base ≤ k := fun k hk => (h1.lt k hk).1
  refine hK v' w' ⟨vs ++ [u], by simpa using ho, ?_⟩ (hB.grown hgr (by simp; omega) hlt)
  have hk : OwnL base w0 (vs ++ [u]) (bs ++ [b]) := OwnL.snoc hu h2
  refine hk.of_block fun x hx g hg => ?_
  have hne := OwnL.ne h1 hk x hx g hg
  have hlt' := (hk.lt x hx g hg).2
  exact (hgr.block g (by simp; omega) (fun e => hne e.symm)).trans (Below.heap_alloc _ _ _ hlt')

end Go.Proofs.YteadkfcbgphgnaaDoor
