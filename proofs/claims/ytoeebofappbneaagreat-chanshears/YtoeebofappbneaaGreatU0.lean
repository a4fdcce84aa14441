/-
  A list of records that grows, within a round or outside.
-/
import Derived.Test.YtoeebofappbneaaGreatD5
import Derived.Maps.AppendAt
import Derived.RangeFuncBox
namespace Go.Proofs.YtoeebofappbneaaGreat
open Go.ChangeShapes Go.WideShapes Go.ChangeAt Go.RowKit Go.Shelf
set_option linter.unusedVariables false
set_option linter.unusedSimpArgs false
attribute [local go_sem] Oper.semAt_some

/-- An append's result lies in the row that it was handed, or in a new block. -/
theorem append_where {P : Program} (w : World) (base : Nat) (t ty e : TypeId) (i : TypeInfo) (z : Value) (size bytes : Nat) (ht : P.underlying t = some (.slice e)) (hi : P.info? e = some i) (hz : i.zero = some z)
    (hsize : i.size = size) (hby : i.bytes = bytes) (hzs : z.cells.size = size) (hsz : 0 < size)
    (v : Value) (n : Nat) (xs : List Value) (hown : w.ownsRow base e size v n xs)
    (a : Addr) (m c : Nat) (news : List Value) (hl : news.length = m * size) (hnews : ∀ j u, news[j]? = some u → w.cell? (a.add j) = some u) (h1 : ∀ u ∈ news, u.oneCell' = true) (hm : 0 < m)
    (h63 : n + m ≤ maxLen) (hbytes : (n + m) * bytes ≤ 140737488355328)
    (v' : Value) (w' : World) (hrun : (Builtin.append_ #[t, t] ty #[v, .slice (some a) m c]).run P w = .ok v' w') : v'.ownBlock = v.ownBlock ∨ v'.ownBlock = some w.heap.size := by
  subst hsize
  subst hby
  have hsmall : n + m ≤ 9223372036854775807 := by simp only [maxLen] at h63; omega
  rcases hown.2 with ⟨rfl, rfl⟩ | ⟨g, cap, cur, rfl, hbg, hg, hnc, hcm, hcs, htake⟩
  · have hr := run_append_nil (P := P) w t ty e i z ht hi hz a m c news hl hnews (by omega) (by omega) (by have hb := hbytes; simp only [Nat.zero_add] at hb; omega)
    rw [hr] at hrun
    cases hrun
    exact .inr rfl
  · by_cases hroom : n + m ≤ cap
    · have hfit : n * i.size + news.length ≤ cur.size := by rw [hl, hcs, ← Nat.add_mul]; exact Nat.mul_le_mul_right _ hroom
      have hr := run_append_room (P := P) w t ty e i ht hi g n cap cur hg a m c news hl hnews h1 hroom hfit
      rw [hr] at hrun
      cases hrun
      exact .inl rfl
    · have holds : ∀ j u, xs[j]? = some u → w.cell? ((⟨g, 0, none⟩ : Addr).add j) = some u := hown.cells (g := g) rfl
      have hr := run_append_grow (P := P) w t ty e i z ht hi hz ⟨g, 0, none⟩ n cap xs hown.1 holds a m c news hl hnews (by omega) (by omega) (growslice_fits (by omega) hbytes)
      rw [hr] at hrun
      cases hrun
      exact .inr rfl
theorem run_append_ch {W : World} (ty : TypeId) {base : Nat} {v : Value} {k : Nat} {xs : List Value} (hown : W.ownsRow base 47 6 v k xs) {ad : Addr} {y : CH}
    (hc : ∀ j u, y.cells[j]? = some u → W.cell? (ad.add j) = some u) (b2 : (k + 1) * 56 ≤ 140737488355328) (b3 : base ≤ W.heap.size) :
    ∃ g cap w', (Builtin.append_ #[44, 44] ty #[v, .slice (some ad) 1 1]).run Tryz.prog W = .ok (.slice (some ⟨g, 0, none⟩) (k + 1) cap) w' ∧ w'.ownsRow base 47 6 (.slice (some ⟨g, 0, none⟩) (k + 1) cap) (k + 1) (xs ++ y.cells) ∧ W.grownBy w' v.ownBlock ∧ (v.ownBlock = some g ∨ g = W.heap.size) := by
  obtain ⟨i0, hi, hz0, hz1, hz2⟩ := info_parts info23
  have h63 : k + 1 ≤ maxLen := by unfold maxLen; omega
  obtain ⟨v', w', hrun, r1, r2, r3⟩ := run_append_own (P := Tryz.prog) W base 44 ty 47 i0 _ 6 56 Tryz.underlying44 hi hz0 hz1 hz2 rfl (by decide) v k xs hown ad 1 1 y.cells rfl hc (cells_oneC y) h63 b2 b3
  have r4 := append_where (P := Tryz.prog) W base 44 ty 47 i0 _ 6 56 Tryz.underlying44 hi hz0 hz1 hz2 rfl (by decide) v k xs hown ad 1 1 y.cells rfl hc (cells_oneC y) (by decide) h63 b2 v' w' hrun
  rcases r1.2 with ⟨_, h0⟩ | ⟨g, cap, cur, rfl, q⟩
  · omega
  · refine ⟨g, cap, w', hrun, r1, r2, ?_⟩
    rcases r4 with h | h
    · exact .inl h.symm
    · exact .inr (by simpa [Value.ownBlock] using h)
theorem wpListIn_append_ch {F : Fence} {n : Nat} (w : World) {ops : Array Oper} {rest : List Oper} {o : Oper} {a : Act} {Q : Exit → Act → World → Prop}
    (hg : o.guard = none) (s x : Operand) (hop : o.op = Op.call { callee := Callee.builtin Builtin.append, args := #[s, x], argTypes := #[44, 44] })
    (base : Nat) (v : Value) (k : Nat) (xs : List Value) (hs : a.eval s = v) (hown : w.ownsRow base 47 6 v k xs) (ad : Addr) (y : CH) (hx : a.eval x = .slice (some ad) 1 1)
    (hc : ∀ j u, y.cells[j]? = some u → w.cell? (ad.add j) = some u) (b2 : (k + 1) * 56 ≤ 140737488355328) (b3 : base ≤ w.heap.size)
    (hK : ∀ g cap w', w'.ownsRow base 47 6 (.slice (some ⟨g, 0, none⟩) (k + 1) cap) (k + 1) (xs ++ y.cells) → w.grownBy w' v.ownBlock → (v.ownBlock = some g ∨ g = w.heap.size) →
      wpListIn F n Tryz.prog ops Q rest (a.put o.dst (.slice (some ⟨g, 0, none⟩) (k + 1) cap)) w') :
    wpListIn F n Tryz.prog ops Q (o :: rest) a w := by
  refine wpListIn_plain hg fun K hK' => ?_
  obtain ⟨g, cap, w', hrun, r1, r2, r4⟩ := run_append_ch o.type hown hc b2 b3
  unfold Oper.wpIn
  refine ⟨?_, ?_⟩
  · simp [Oper.about, hop, resolve, Target.leads, Sem.run_pure]
  · rw [Oper.semAt_plain F _ _ (by rw [hop]; intro c hc'; cases hc')]
    simp [execOp, hop, resolve, invoke, builtin, hs, hx, hrun, Result.andThen]
    exact hK' _ _ (hK g cap w' r1 r2 r4)
theorem owns_of_block {w w' : World} {base : Nat} {e : TypeId} {size : Nat} {v : Value} {n : Nat} {xs : List Value} (h : w.ownsRow base e size v n xs) (hb : ∀ g, v.ownBlock = some g → w'.heap[g]? = w.heap[g]?) : w'.ownsRow base e size v n xs := by
  refine ⟨h.1, ?_⟩
  rcases h.2 with hn | ⟨g, cap, cur, rfl, hg, hh, r⟩
  · exact .inl hn
  · exact .inr ⟨g, cap, cur, rfl, hg, (hb g rfl).trans hh, r⟩
/-- The variable in block b holds a list of its own, of n elements whose cells are xs; C: the block where they lie. -/
def Holds (e size : Nat) (W : World) (b base : Nat) (C : Nat → Prop) (n : Nat) (xs : List Value) : Prop :=
  ∃ v, One W b v ∧ W.ownsRow base e size v n xs ∧ (∀ g, C g ↔ v.ownBlock = some g)
theorem Holds.same {e size : Nat} {W W' : World} {n b base : Nat} {C : Nat → Prop} {m : Nat} {xs : List Value} (h : Holds e size W b base C m xs) (s : Same n C W W') (hb : b < n) : Holds e size W' b base C m xs := by
  obtain ⟨v, h1, h2, h3⟩ := h
  exact ⟨v, h1.same s hb, owns_of_block h2 (fun g hg => s.block g (h2.lt g hg).2 (.inr ((h3 g).2 hg))), h3⟩
theorem Holds.nil (e size : Nat) (W : World) (base b : Nat) (h : One W b (.slice none 0 0)) : Holds e size W b base (fun _ => False) 0 [] :=
  ⟨_, h, World.ownsRow_nil W base e size, fun g => ⟨fun h => h.elim, fun h => by cases h⟩⟩
/-- The append done and stored back: what holds behind it. -/
theorem Holds.grow {e size : Nat} {W W1 : World} {n b base : Nat} {C : Nat → Prop} {m : Nat} {ys : List Value} {v : Value} {g cap : Nat} {tmp : Obj}
    (h1 : One W b v) (h3 : ∀ g, C g ↔ v.ownBlock = some g) (hC : ∀ g, C g → n ≤ g ∧ g < W.heap.size) (hb : b < n) (hn : n ≤ W.heap.size)
    (r1 : W1.ownsRow base e size (.slice (some ⟨g, 0, none⟩) (m + 1) cap) (m + 1) ys)
    (r2 : (W.alloc tmp).grownBy W1 v.ownBlock) (r3 : v.ownBlock = some g ∨ g = (W.alloc tmp).heap.size) :
    One W1 b v ∧ Holds e size (W1.setCell ⟨b, 0, none⟩ (.slice (some ⟨g, 0, none⟩) (m + 1) cap)) b base (fun k => k = g) (m + 1) ys ∧
      Turn n C (fun k => k = g) W (W1.setCell ⟨b, 0, none⟩ (.slice (some ⟨g, 0, none⟩) (m + 1) cap)) ∧ b ≠ g := by
  have hsz : W.heap.size + 1 ≤ W1.heap.size := by have := r2.size; simpa using this
  have hbv : some b ≠ v.ownBlock := fun e => by have := (hC b ((h3 b).2 e.symm)).1; omega
  have hbg : b ≠ g := by
    rcases r3 with h | h
    · have := (hC g ((h3 g).2 h)).1; omega
    · have := h1.2.2; simp at h; omega
  have hgs : g < W1.heap.size := (r1.lt g rfl).2
  have o1 : One W1 b v := h1.of_block ((r2.block b (by have := h1.2.2; simp; omega) hbv).trans (Below.heap_alloc _ _ _ h1.2.2)) (by omega)
  refine ⟨o1, ⟨_, o1.set _, ?_, fun k => ⟨fun e => by rw [e]; rfl, fun e => (show g = k by simpa [Value.ownBlock] using e).symm⟩⟩, ⟨?_, ?_, ?_⟩, hbg⟩
  · exact owns_of_block r1 (fun g' hg' => Below.heap_setCell _ _ _ _ (fun e => hbg (((show g = g' by simpa [Value.ownBlock] using hg').trans e).symm)))
  · simp [World.setCell]; omega
  · intro k h5 h6 h7
    refine (Below.heap_setCell _ _ _ _ (by show k ≠ b; omega)).trans ((r2.block k (by simp; omega) (fun e => h7 ((h3 k).2 e.symm))).trans (Below.heap_alloc _ _ _ h6))
  · rintro k rfl
    refine ⟨?_, by simpa [World.setCell] using hgs, ?_⟩
    · rcases r3 with h | h
      · exact (hC k ((h3 k).2 h)).1
      · simp at h; omega
    · rcases r3 with h | h
      · exact .inl ((h3 k).2 h)
      · right; simp at h; omega
theorem owns_later {W W' : World} {base : Nat} {e : TypeId} {size : Nat} {v : Value} {n : Nat} {xs : List Value} (h : W.ownsRow base e size v n xs) (b : Below W.heap.size W W') : W'.ownsRow base e size v n xs := owns_of_block h (fun g hg => b.block g (h.lt g hg).2)
theorem wpList_append_ch {w : World} {ops : Array Oper} {rest : List Oper} {o : Oper} {a : Act} {Q : Exit → Act → World → Prop}
    (hg : o.guard = none) (s x : Operand) (hop : o.op = Op.call { callee := Callee.builtin Builtin.append, args := #[s, x], argTypes := #[44, 44] })
    (base : Nat) (v : Value) (k : Nat) (xs : List Value) (hs : a.eval s = v) (hown : w.ownsRow base 47 6 v k xs) (ad : Addr) (y : CH) (hx : a.eval x = .slice (some ad) 1 1)
    (hc : ∀ j u, y.cells[j]? = some u → w.cell? (ad.add j) = some u) (b2 : (k + 1) * 56 ≤ 140737488355328) (b3 : base ≤ w.heap.size)
    (hK : ∀ g cap w', w'.ownsRow base 47 6 (.slice (some ⟨g, 0, none⟩) (k + 1) cap) (k + 1) (xs ++ y.cells) → w.grownBy w' v.ownBlock → Below base w w' →
      wpList Tryz.prog ops Q rest (a.put o.dst (.slice (some ⟨g, 0, none⟩) (k + 1) cap)) w') :
    wpList Tryz.prog ops Q (o :: rest) a w := by
  refine wpList_plain hg fun K hK' => ?_
  obtain ⟨g, cap, w', hrun, r1, r2, r4⟩ := run_append_ch o.type hown hc b2 b3
  unfold Oper.wp
  simp [execOp, hop, resolve, invoke, builtin, hs, hx, hrun, Result.andThen]
  exact hK' _ _ (hK g cap w' r1 r2 ((Below.refl _ _).grown r2 b3 (fun q hq => (World.ownsRow.lt hown q hq).1)))
end Go.Proofs.YtoeebofappbneaaGreat
