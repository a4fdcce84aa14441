/-
  Lists of numbers that grow: append's law, and what a variable that holds such a list keeps.
-/
import Derived.Test.YthpdaiaakpimkaaChecked
import Derived.Test.YthpdaiaakpimkaaBlocks
import Derived.Test.YthpdaiaakpimkaaHeldIn
import Derived.Maps.AppendAt
import Derived.RangeFuncBox
import Derived.Laws.AppendOwnNone
import Derived.Lib.SlicesS
namespace Go.Proofs.Ythpdaiaakpimkaa
open Go.ChangeShapes Go.WideShapes Go.ChangeAt Go.RowKit
set_option linter.unusedVariables false
set_option linter.unusedSimpArgs false
attribute [local go_sem] Oper.semAt_some
theorem row_lt {w : World} {g : Nat} {o : Obj} (h : w.heap[g]? = some o) : g < w.heap.size := (Array.getElem?_eq_some_iff.1 h).1
theorem set_far {w : World} {g k : Nat} {o : Option Obj} (h : w.heap[g]? = o) (hk : g ≠ k) (i : Nat) (v : Value) : (w.setCell ⟨k, i, none⟩ v).heap[g]? = o := (Below.heap_setCell _ _ _ _ hk).trans h
theorem heap_new {w : World} {o : Obj} {k : Nat} (h : k = w.heap.size) : (w.alloc o).heap[k]? = some o := by subst h; exact World.alloc_heap_new w o
theorem heap_old {w : World} {o : Obj} {k : Nat} {x : Option Obj} (hk : k < w.heap.size) (h : w.heap[k]? = x) : (w.alloc o).heap[k]? = x := (Below.heap_alloc _ _ _ hk).trans h
theorem wide_scope {n : Nat} {P : Program} {c : Code} {Q : Exit → Act → World → Prop} {a : Act} {w : World} (h : c.wpIn Fence.wide n P (Exit.noGoto Q) a w) : (Code.scope c).wpIn Fence.wide n P Q a w :=
  wpIn_wide.2 (wp_scope_straight (wpIn_wide.1 h))
theorem owns_later {W W' : World} {base e size : Nat} {v : Value} {n : Nat} {xs : List Value} (h : W.ownsRow base e size v n xs) (b : Below W.heap.size W W') : W'.ownsRow base e size v n xs := by
  refine ⟨h.1, h.2.imp id ?_⟩
  rintro ⟨g, cap, cur, e1, e2, hh, r⟩
  exact ⟨g, cap, cur, e1, e2, (b.block g (row_lt hh)).trans hh, r⟩
theorem info3 : (Try.prog.info? 3).map (fun i => (i.zero, i.size, i.bytes)) = some (some (.int .i64 0), 1, 8) := by kernel_rfl
/-- An append's result lies in the row that it was handed, or in a new block. -/
theorem append_where {P : Program} (w : World) (base : Nat) (t ty e : TypeId) (i : TypeInfo) (z : Value) (size bytes : Nat) (ht : P.underlying t = some (.slice e)) (hi : P.info? e = some i) (hz : i.zero = some z)
    (hsize : i.size = size) (hby : i.bytes = bytes) (hzs : z.cells.size = size) (hsz : 0 < size)
    (v : Value) (n : Nat) (xs : List Value) (hown : w.ownsRow base e size v n xs)
    (a : Addr) (m c : Nat) (news : List Value) (hl : news.length = m * size) (hnews : ∀ j u, news[j]? = some u → w.cell? (a.add j) = some u) (h1 : ∀ u ∈ news, u.oneCell' = true) (hm : 0 < m)
    (h63 : n + m ≤ maxLen) (hbytes : (n + m) * bytes ≤ 140737488355328)
    (v' : Value) (w' : World) (hrun : (Builtin.append_ #[t, t] ty #[v, .slice (some a) m c]).run P w = .ok v' w') : v'.ownBlock = v.ownBlock ∨ v'.ownBlock = some w.heap.size := by
  subst hsize
  subst hby
  have hsmall : n + m ≤ 9223372036854775807 := by simp only [maxLen] at h63; omega
  rcases hown.2 with ⟨rfl, rfl⟩ | ⟨g, cap, cur, rfl, hbg, hg, hnc, hcm, hcs, htake⟩
  · have hr := run_append_nil (P := P) w t ty e i z ht hi hz a m c news hl hnews (by omega) (by omega) (by have hb := hbytes; simp only [Nat.zero_add] at hb; omega)
    rw [hr] at hrun
    cases hrun
    exact .inr rfl
  · by_cases hroom : n + m ≤ cap
    · have hfit : n * i.size + news.length ≤ cur.size := by rw [hl, hcs, ← Nat.add_mul]; exact Nat.mul_le_mul_right _ hroom
      have hr := run_append_room (P := P) w t ty e i ht hi g n cap cur hg a m c news hl hnews h1 hroom hfit
      rw [hr] at hrun
      cases hrun
      exact .inl rfl
    · have holds : ∀ j u, xs[j]? = some u → w.cell? ((⟨g, 0, none⟩ : Addr).add j) = some u := hown.cells (g := g) rfl
      have hr := run_append_grow (P := P) w t ty e i z ht hi hz ⟨g, 0, none⟩ n cap xs hown.1 holds a m c news hl hnews (by omega) (by omega) (growslice_fits (by omega) hbytes)
      rw [hr] at hrun
      cases hrun
      exact .inr rfl
abbrev iv (x : Int) : Value := .int .i64 x
theorem run_append_int {W : World} (ty : TypeId) {base : Nat} {v : Value} {k : Nat} {xs : List Value} (hown : W.ownsRow base 3 1 v k xs) {ad : Addr} {y : Int}
    (hc : ∀ j u, [iv y][j]? = some u → W.cell? (ad.add j) = some u) (b2 : (k + 1) * 8 ≤ 140737488355328) (b3 : base ≤ W.heap.size) :
    ∃ g cap w', (Builtin.append_ #[22, 22] ty #[v, .slice (some ad) 1 1]).run Try.prog W = .ok (.slice (some ⟨g, 0, none⟩) (k + 1) cap) w' ∧ w'.ownsRow base 3 1 (.slice (some ⟨g, 0, none⟩) (k + 1) cap) (k + 1) (xs ++ [iv y]) ∧ W.grownBy w' v.ownBlock ∧ (v.ownBlock = some g ∨ g = W.heap.size) := by
  obtain ⟨i0, hi, hz0, hz1, hz2⟩ := info_parts info3
  have h63 : k + 1 ≤ maxLen := by unfold maxLen; omega
  obtain ⟨v', w', hrun, r1, r2, r3⟩ := run_append_own (P := Try.prog) W base 22 ty 3 i0 (.int .i64 0) 1 8 Try.underlying22 hi hz0 hz1 hz2 rfl (by decide) v k xs hown ad 1 1 [iv y] rfl hc (by simp [Value.oneCell']) h63 b2 b3
  have r4 := append_where (P := Try.prog) W base 22 ty 3 i0 (.int .i64 0) 1 8 Try.underlying22 hi hz0 hz1 hz2 rfl (by decide) v k xs hown ad 1 1 [iv y] rfl hc (by simp [Value.oneCell']) (by decide) h63 b2 v' w' hrun
  rcases r1.2 with ⟨_, h0⟩ | ⟨g, cap, cur, rfl, q⟩
  · omega
  · refine ⟨g, cap, w', hrun, r1, r2, ?_⟩
    rcases r4 with h | h
    · exact .inl h.symm
    · exact .inr (by simpa [Value.ownBlock] using h)
theorem wpListIn_append_int {F : Fence} {n : Nat} (w : World) {ops : Array Oper} {rest : List Oper} {o : Oper} {a : Act} {Q : Exit → Act → World → Prop}
    (hg : o.guard = none) (s x : Operand) (hop : o.op = Op.call { callee := Callee.builtin Builtin.append, args := #[s, x], argTypes := #[22, 22] })
    (base : Nat) (v : Value) (k : Nat) (xs : List Value) (hs : a.eval s = v) (hown : w.ownsRow base 3 1 v k xs) (ad : Addr) (y : Int) (hx : a.eval x = .slice (some ad) 1 1)
    (hc : ∀ j u, [iv y][j]? = some u → w.cell? (ad.add j) = some u) (b2 : (k + 1) * 8 ≤ 140737488355328) (b3 : base ≤ w.heap.size)
    (hK : ∀ g cap w', w'.ownsRow base 3 1 (.slice (some ⟨g, 0, none⟩) (k + 1) cap) (k + 1) (xs ++ [iv y]) → w.grownBy w' v.ownBlock → (v.ownBlock = some g ∨ g = w.heap.size) →
      wpListIn F n Try.prog ops Q rest (a.put o.dst (.slice (some ⟨g, 0, none⟩) (k + 1) cap)) w') :
    wpListIn F n Try.prog ops Q (o :: rest) a w := by
  refine wpListIn_plain hg fun K hK' => ?_
  obtain ⟨g, cap, w', hrun, r1, r2, r4⟩ := run_append_int o.type hown hc b2 b3
  unfold Oper.wpIn
  refine ⟨?_, ?_⟩
  · simp [Oper.about, hop, resolve, Target.leads, Sem.run_pure]
  · rw [Oper.semAt_plain F _ _ (by rw [hop]; intro c hc'; cases hc')]
    simp [execOp, hop, resolve, invoke, builtin, hs, hx, hrun, Result.andThen]
    exact hK' _ _ (hK g cap w' r1 r2 r4)
theorem wpList_append_int {w : World} {ops : Array Oper} {rest : List Oper} {o : Oper} {a : Act} {Q : Exit → Act → World → Prop}
    (hg : o.guard = none) (s x : Operand) (hop : o.op = Op.call { callee := Callee.builtin Builtin.append, args := #[s, x], argTypes := #[22, 22] })
    (base : Nat) (v : Value) (k : Nat) (xs : List Value) (hs : a.eval s = v) (hown : w.ownsRow base 3 1 v k xs) (ad : Addr) (y : Int) (hx : a.eval x = .slice (some ad) 1 1)
    (hc : ∀ j u, [iv y][j]? = some u → w.cell? (ad.add j) = some u) (b2 : (k + 1) * 8 ≤ 140737488355328) (b3 : base ≤ w.heap.size)
    (hK : ∀ g cap w', w'.ownsRow base 3 1 (.slice (some ⟨g, 0, none⟩) (k + 1) cap) (k + 1) (xs ++ [iv y]) → w.grownBy w' v.ownBlock →
      wpList Try.prog ops Q rest (a.put o.dst (.slice (some ⟨g, 0, none⟩) (k + 1) cap)) w') :
    wpList Try.prog ops Q (o :: rest) a w := by
  refine wpList_plain hg fun K hK' => ?_
  obtain ⟨g, cap, w', hrun, r1, r2, r4⟩ := run_append_int o.type hown hc b2 b3
  unfold Oper.wp
  simp [execOp, hop, resolve, invoke, builtin, hs, hx, hrun, Result.andThen]
  exact hK' _ _ (hK g cap w' r1 r2)
theorem owns_of_block {w w' : World} {base : Nat} {e : TypeId} {size : Nat} {v : Value} {n : Nat} {xs : List Value} (h : w.ownsRow base e size v n xs) (hb : ∀ g, v.ownBlock = some g → w'.heap[g]? = w.heap[g]?) : w'.ownsRow base e size v n xs := by
  refine ⟨h.1, ?_⟩
  rcases h.2 with hn | ⟨g, cap, cur, rfl, hg, hh, r⟩
  · exact .inl hn
  · exact .inr ⟨g, cap, cur, rfl, hg, (hb g rfl).trans hh, r⟩
/-- The variable in block b holds a list of its own, of n elements whose cells are xs; C: the block where they lie. -/
def Holds (e size : Nat) (W : World) (b base : Nat) (C : Nat → Prop) (n : Nat) (xs : List Value) : Prop :=
  ∃ v, One W b v ∧ W.ownsRow base e size v n xs ∧ (∀ g, C g ↔ v.ownBlock = some g)
theorem Holds.same {e size : Nat} {W W' : World} {n b base : Nat} {C : Nat → Prop} {m : Nat} {xs : List Value} (h : Holds e size W b base C m xs) (s : Same n C W W') (hb : b < n) : Holds e size W' b base C m xs := by
  obtain ⟨v, h1, h2, h3⟩ := h
  exact ⟨v, h1.same s hb, owns_of_block h2 (fun g hg => s.block g (h2.lt g hg).2 (.inr ((h3 g).2 hg))), h3⟩
theorem Holds.nil (e size : Nat) (W : World) (base b : Nat) (h : One W b (.slice none 0 0)) : Holds e size W b base (fun _ => False) 0 [] :=
  ⟨_, h, World.ownsRow_nil W base e size, fun g => ⟨fun h => h.elim, fun h => by cases h⟩⟩
/-- The append done and stored back: what holds behind it. -/
theorem Holds.grow {e size : Nat} {W W1 : World} {n b base : Nat} {C : Nat → Prop} {m : Nat} {ys : List Value} {v : Value} {g cap : Nat} {tmp : Obj}
    (h1 : One W b v) (h3 : ∀ g, C g ↔ v.ownBlock = some g) (hC : ∀ g, C g → n ≤ g ∧ g < W.heap.size) (hb : b < n) (hn : n ≤ W.heap.size)
    (r1 : W1.ownsRow base e size (.slice (some ⟨g, 0, none⟩) (m + 1) cap) (m + 1) ys)
    (r2 : (W.alloc tmp).grownBy W1 v.ownBlock) (r3 : v.ownBlock = some g ∨ g = (W.alloc tmp).heap.size) :
    One W1 b v ∧ Holds e size (W1.setCell ⟨b, 0, none⟩ (.slice (some ⟨g, 0, none⟩) (m + 1) cap)) b base (fun k => k = g) (m + 1) ys ∧
      Turn n C (fun k => k = g) W (W1.setCell ⟨b, 0, none⟩ (.slice (some ⟨g, 0, none⟩) (m + 1) cap)) ∧ b ≠ g := by
  have hsz : W.heap.size + 1 ≤ W1.heap.size := by have := r2.size; simpa using this
  have hbv : some b ≠ v.ownBlock := fun e => by have := (hC b ((h3 b).2 e.symm)).1; omega
  have hbg : b ≠ g := by
    rcases r3 with h | h
    · have := (hC g ((h3 g).2 h)).1; omega
    · have := h1.2.2; simp at h; omega
  have hgs : g < W1.heap.size := (r1.lt g rfl).2
  have o1 : One W1 b v := h1.of_block ((r2.block b (by have := h1.2.2; simp; omega) hbv).trans (Below.heap_alloc _ _ _ h1.2.2)) (by omega)
  refine ⟨o1, ⟨_, o1.set _, ?_, fun k => ⟨fun e => by rw [e]; rfl, fun e => (show g = k by simpa [Value.ownBlock] using e).symm⟩⟩, ⟨?_, ?_, ?_⟩, hbg⟩
  · exact owns_of_block r1 (fun g' hg' => Below.heap_setCell _ _ _ _ (fun e => hbg (((show g = g' by simpa [Value.ownBlock] using hg').trans e).symm)))
  · simp [World.setCell]; omega
  · intro k h5 h6 h7
    refine (Below.heap_setCell _ _ _ _ (by show k ≠ b; omega)).trans ((r2.block k (by simp; omega) (fun e => h7 ((h3 k).2 e.symm))).trans (Below.heap_alloc _ _ _ h6))
  · rintro k rfl
    refine ⟨?_, by simpa [World.setCell] using hgs, ?_⟩
    · rcases r3 with h | h
      · exact (hC k ((h3 k).2 h)).1
      · simp at h; omega
    · rcases r3 with h | h
      · exact .inl ((h3 k).2 h)
      · right; simp at h; omega
section
variable {F : Fence} {n : Nat} {P : Program} {ops : Array Oper} {Q : Exit → Act → World → Prop} {md : Region.Mode} {S : World → Prop}
/-- Two operations may come now. -/
theorem anyInH_two (i j : Nat) {o p : Oper} {fuel : Nat} {listed : Array Bool} {a : Act} {w : World} (hr : Region.ready md ops listed = [i, j]) (ho : ops[i]? = some o) (hp : ops[j]? = some p) (hw : Region.wanted o (yielded ops a.tmps) = true) (hv : Region.wanted p (yielded ops a.tmps) = true)
    (h : ∀ K : Act → World → Prop, Shut (∀ a' w', S w' → (S w' → wpAnyInH F n P md ops Q S fuel (listed.setIfInBounds i true) a' w') → K a' w') → Oper.wpIn F n P o a w K Q)
    (k : ∀ K : Act → World → Prop, Shut (∀ a' w', S w' → (S w' → wpAnyInH F n P md ops Q S fuel (listed.setIfInBounds j true) a' w') → K a' w') → Oper.wpIn F n P p a w K Q) : wpAnyInH F n P md ops Q S (fuel + 1) listed a w := by
  refine ⟨fun h0 => (by rw [hr] at h0; cases h0), ?_⟩
  rw [hr]
  intro q hq
  have e : q = i ∨ q = j := by simpa using hq
  unfold wpOpIn
  rcases e with e | e
  · subst e
    simp only [ho]
    rw [if_pos hw]
    exact h _ (fun a' w' h1 h2 => ⟨h1, h2 h1⟩)
  · subst e
    simp only [hp]
    rw [if_pos hv]
    exact k _ (fun a' w' h1 h2 => ⟨h1, h2 h1⟩)
end
theorem wpIn_append_int {F : Fence} {n : Nat} {w : World} {o : Oper} {a : Act} {K : Act → World → Prop} {Q : Exit → Act → World → Prop}
    (s x : Operand) (hop : o.op = Op.call { callee := Callee.builtin Builtin.append, args := #[s, x], argTypes := #[22, 22] })
    (base : Nat) (v : Value) (k : Nat) (xs : List Value) (hs : a.eval s = v) (hown : w.ownsRow base 3 1 v k xs) (ad : Addr) (y : Int) (hx : a.eval x = .slice (some ad) 1 1)
    (hc : ∀ j u, [iv y][j]? = some u → w.cell? (ad.add j) = some u) (b2 : (k + 1) * 8 ≤ 140737488355328) (b3 : base ≤ w.heap.size)
    (hK : ∀ g cap w', w'.ownsRow base 3 1 (.slice (some ⟨g, 0, none⟩) (k + 1) cap) (k + 1) (xs ++ [iv y]) → w.grownBy w' v.ownBlock → (v.ownBlock = some g ∨ g = w.heap.size) → K (a.put o.dst (.slice (some ⟨g, 0, none⟩) (k + 1) cap)) w') : Oper.wpIn F n Try.prog o a w K Q := by
  obtain ⟨g, cap, w', hrun, r1, r2, r4⟩ := run_append_int o.type hown hc b2 b3
  unfold Oper.wpIn
  refine ⟨?_, ?_⟩
  · simp [Oper.about, hop, resolve, Target.leads, Sem.run_pure]
  · rw [Oper.semAt_plain F _ _ (by rw [hop]; intro c hc'; cases hc')]
    simp [execOp, hop, resolve, invoke, builtin, hs, hx, hrun, Result.andThen]
    exact hK g cap w' r1 r2 r4
/-- The variable in block b holds a list of its own; C: the block where it lies, if that is not below M. -/
def HoldsN (e size M : Nat) (W : World) (b base : Nat) (C : Nat → Prop) (n : Nat) (xs : List Value) : Prop :=
  ∃ v, One W b v ∧ W.ownsRow base e size v n xs ∧ (∀ g, C g ↔ (v.ownBlock = some g ∧ M ≤ g)) ∧ v.ownBlock ≠ some b
theorem HoldsN.same {e size M : Nat} {W W' : World} {b base : Nat} {C : Nat → Prop} {m : Nat} {xs : List Value} (h : HoldsN e size M W b base C m xs) (s : Same M C W W') (hb : b < M) : HoldsN e size M W' b base C m xs := by
  obtain ⟨v, h1, h2, h3, h4⟩ := h
  refine ⟨v, h1.same s hb, owns_of_block h2 (fun g hg => s.block g (h2.lt g hg).2 ?_), h3, h4⟩
  by_cases c : g < M
  · exact .inl c
  · exact .inr ((h3 g).2 ⟨hg, by omega⟩)
theorem HoldsN.grow {e size M : Nat} {W Wm W1 : World} {b base : Nat} {C : Nat → Prop} {m : Nat} {ys : List Value} {v : Value} {g cap : Nat}
    (h1 : One W b v) (h3 : ∀ g, C g ↔ (v.ownBlock = some g ∧ M ≤ g)) (h4 : v.ownBlock ≠ some b) (hb : b < M) (hn : M ≤ W.heap.size) (bm : Below W.heap.size W Wm)
    (r1 : W1.ownsRow base e size (.slice (some ⟨g, 0, none⟩) (m + 1) cap) (m + 1) ys) (r2 : Wm.grownBy W1 v.ownBlock) (r3 : v.ownBlock = some g ∨ g = Wm.heap.size) :
    One W1 b v ∧ HoldsN e size M (W1.setCell ⟨b, 0, none⟩ (.slice (some ⟨g, 0, none⟩) (m + 1) cap)) b base (fun k => k = g ∧ M ≤ g) (m + 1) ys ∧
      Turn M C (fun k => k = g ∧ M ≤ g) W (W1.setCell ⟨b, 0, none⟩ (.slice (some ⟨g, 0, none⟩) (m + 1) cap)) ∧ b ≠ g ∧ (∀ q, q < W.heap.size → q ≠ b → some q ≠ v.ownBlock → (W1.setCell ⟨b, 0, none⟩ (.slice (some ⟨g, 0, none⟩) (m + 1) cap)).heap[q]? = W.heap[q]?) := by
  have hz := bm.size
  have hz1 := r2.size
  have hbz := h1.2.2
  have hbv : some b ≠ v.ownBlock := fun e => h4 e.symm
  have hbg : b ≠ g := by
    rintro rfl
    rcases r3 with h | h
    · exact h4 h
    · omega
  have hgs : g < W1.heap.size := (r1.lt g rfl).2
  have o1 : One W1 b v := h1.of_block ((r2.block b (by omega) hbv).trans (bm.block b hbz)) (by omega)
  have far : ∀ q, q < W.heap.size → q ≠ b → some q ≠ v.ownBlock → (W1.setCell ⟨b, 0, none⟩ (.slice (some ⟨g, 0, none⟩) (m + 1) cap)).heap[q]? = W.heap[q]? := fun q hq h5 h6 => (set_far rfl h5 _ _).trans ((r2.block q (by omega) h6).trans (bm.block q hq))
  refine ⟨o1, ⟨_, o1.set _, ?_, fun k => ⟨fun e => ⟨by rw [e.1]; rfl, by rw [e.1]; exact e.2⟩, fun e => ?_⟩, fun e => hbg (by simpa [Value.ownBlock] using e.symm)⟩, ⟨?_, ?_, ?_⟩, hbg, far⟩
  · exact owns_of_block r1 (fun g' hg' => Below.heap_setCell _ _ _ _ (fun e => hbg (((show g = g' by simpa [Value.ownBlock] using hg').trans e).symm)))
  · have e1 : g = k := by simpa [Value.ownBlock] using e.1
    exact ⟨e1.symm, by rw [e1]; exact e.2⟩
  · simp [World.setCell]; omega
  · intro k h5 h6 h7
    exact far k h6 (by omega) (fun e => h7 ((h3 k).2 ⟨e.symm, h5⟩))
  · rintro k ⟨rfl, h5⟩
    refine ⟨h5, by simpa [World.setCell] using hgs, ?_⟩
    rcases r3 with h | h
    · exact .inl ((h3 k).2 ⟨h, h5⟩)
    · right; omega
end Go.Proofs.Ythpdaiaakpimkaa
