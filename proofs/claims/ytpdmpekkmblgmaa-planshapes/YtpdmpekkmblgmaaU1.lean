/-
  Lists put together by append, of pairs, of steps, of numbers; a list of one's own in a variable.
-/
import Derived.Test.YtpdmpekkmblgmaaXI
import Derived.Test.YtpdmpekkmblgmaaMS
import Derived.Test.YtpdmpekkmblgmaaQL
namespace Go.Proofs.Ytpdmpekkmblgmaa
open Go.ChangeShapes Go.WideShapes Go.ChangeAt Go.RowKit Go.Maps Go.Shelf
set_option linter.unusedVariables false
set_option linter.unusedSimpArgs false

/-- The variable in block b holds a list of its own, of n elements whose cells are xs; C: the block where they lie. -/
def Holds (e size : Nat) (W : World) (b base : Nat) (C : Nat → Prop) (n : Nat) (xs : List Value) : Prop :=
  ∃ v, One W b v ∧ W.ownsRow base e size v n xs ∧ (∀ g, C g ↔ v.ownBlock = some g)
theorem Holds.same {e size : Nat} {W W' : World} {n b base : Nat} {C : Nat → Prop} {m : Nat} {xs : List Value} (h : Holds e size W b base C m xs) (s : Same n C W W') (hb : b < n) : Holds e size W' b base C m xs := by
  obtain ⟨v, h1, h2, h3⟩ := h
  exact ⟨v, h1.same s hb, owns_of_block h2 (fun g hg => s.block g (h2.lt g hg).2 (.inr ((h3 g).2 hg))), h3⟩
theorem Holds.nil (e size : Nat) (W : World) (base b : Nat) (h : One W b (.slice none 0 0)) : Holds e size W b base (fun _ => False) 0 [] :=
  ⟨_, h, World.ownsRow_nil W base e size, fun g => ⟨fun h => h.elim, fun h => by cases h⟩⟩
/-- The append done and stored back: what holds behind it. -/
theorem Holds.grow {e size : Nat} {W W1 : World} {n b base : Nat} {C : Nat → Prop} {m : Nat} {ys : List Value} {v : Value} {g cap : Nat} {tmp : Obj}
    (h1 : One W b v) (h3 : ∀ g, C g ↔ v.ownBlock = some g) (hC : ∀ g, C g → n ≤ g ∧ g < W.heap.size) (hb : b < n) (hn : n ≤ W.heap.size)
    (r1 : W1.ownsRow base e size (.slice (some ⟨g, 0, none⟩) (m + 1) cap) (m + 1) ys)
    (r2 : (W.alloc tmp).grownBy W1 v.ownBlock) (r3 : v.ownBlock = some g ∨ g = (W.alloc tmp).heap.size) :
    One W1 b v ∧ Holds e size (W1.setCell ⟨b, 0, none⟩ (.slice (some ⟨g, 0, none⟩) (m + 1) cap)) b base (fun k => k = g) (m + 1) ys ∧
      Turn n C (fun k => k = g) W (W1.setCell ⟨b, 0, none⟩ (.slice (some ⟨g, 0, none⟩) (m + 1) cap)) ∧ b ≠ g := by
  have hsz : W.heap.size + 1 ≤ W1.heap.size := by have := r2.size; simpa using this
  have hbv : some b ≠ v.ownBlock := fun e => by have := (hC b ((h3 b).2 e.symm)).1; omega
  have hbg : b ≠ g := by
    rcases r3 with h | h
    · have := (hC g ((h3 g).2 h)).1; omega
    · have := h1.2.2; simp at h; omega
  have hgs : g < W1.heap.size := (r1.lt g rfl).2
  have o1 : One W1 b v := h1.of_block ((r2.block b (by have := h1.2.2; simp; omega) hbv).trans (Below.heap_alloc _ _ _ h1.2.2)) (by omega)
  refine ⟨o1, ⟨_, o1.set _, ?_, fun k => ⟨fun e => by rw [e]; rfl, fun e => (show g = k by simpa [Value.ownBlock] using e).symm⟩⟩, ⟨?_, ?_, ?_⟩, hbg⟩
  · exact owns_of_block r1 (fun g' hg' => Below.heap_setCell _ _ _ _ (fun e => hbg (((show g = g' by simpa [Value.ownBlock] using hg').trans e).symm)))
  · simp [World.setCell]; omega
  · intro k h5 h6 h7
    refine (Below.heap_setCell _ _ _ _ (by show k ≠ b; omega)).trans ((r2.block k (by simp; omega) (fun e => h7 ((h3 k).2 e.symm))).trans (Below.heap_alloc _ _ _ h6))
  · rintro k rfl
    refine ⟨?_, by simpa [World.setCell] using hgs, ?_⟩
    · rcases r3 with h | h
      · exact (hC k ((h3 k).2 h)).1
      · simp at h; omega
    · rcases r3 with h | h
      · exact .inl ((h3 k).2 h)
      · right; simp at h; omega
theorem run_append_l {W : World} (ty : TypeId) {base : Nat} {v : Value} {k : Nat} {xs : List Value} (hown : W.ownsRow base 49 2 v k xs) {ad : Addr} {y : LK}
    (hc : ∀ j u, (LK.cells y)[j]? = some u → W.cell? (ad.add j) = some u) (b2 : (k + 1) * 16 ≤ 140737488355328) (b3 : base ≤ W.heap.size) :
    ∃ g cap w', (Builtin.append_ #[23, 23] ty #[v, .slice (some ad) 1 1]).run Try.prog W = .ok (.slice (some ⟨g, 0, none⟩) (k + 1) cap) w' ∧ w'.ownsRow base 49 2 (.slice (some ⟨g, 0, none⟩) (k + 1) cap) (k + 1) (xs ++ LK.cells y) ∧ W.grownBy w' v.ownBlock ∧ (v.ownBlock = some g ∨ g = W.heap.size) := by
  obtain ⟨i0, hi, hz0, hz1, hz2⟩ := info_parts info49
  have h63 : k + 1 ≤ maxLen := by unfold maxLen; omega
  obtain ⟨v', w', hrun, r1, r2, r3⟩ := run_append_own (P := Try.prog) W base 23 ty 49 i0 _ 2 16 Try.underlying23 hi hz0 hz1 hz2 rfl (by decide) v k xs hown ad 1 1 (LK.cells y) rfl hc (cells_oneL y) h63 b2 b3
  have r4 := append_where (P := Try.prog) W base 23 ty 49 i0 _ 2 16 Try.underlying23 hi hz0 hz1 hz2 rfl (by decide) v k xs hown ad 1 1 (LK.cells y) rfl hc (cells_oneL y) (by decide) h63 b2 v' w' hrun
  rcases r1.2 with ⟨_, h0⟩ | ⟨g, cap, cur, rfl, q⟩
  · omega
  · refine ⟨g, cap, w', hrun, r1, r2, ?_⟩
    rcases r4 with h | h
    · exact .inl h.symm
    · exact .inr (by simpa [Value.ownBlock] using h)
theorem wp_app_l {w : World} {o : Oper} {a : Act} {K : Act → World → Prop} {Q : Exit → Act → World → Prop}
    (s x : Operand) (hop : o.op = Op.call { callee := Callee.builtin Builtin.append, args := #[s, x], argTypes := #[23, 23] })
    (base : Nat) (v : Value) (k : Nat) (xs : List Value) (hs : a.eval s = v) (hown : w.ownsRow base 49 2 v k xs) (ad : Addr) (y : LK) (hx : a.eval x = .slice (some ad) 1 1)
    (hc : ∀ j u, (LK.cells y)[j]? = some u → w.cell? (ad.add j) = some u) (b2 : (k + 1) * 16 ≤ 140737488355328) (b3 : base ≤ w.heap.size)
    (hK : ∀ g cap w', w'.ownsRow base 49 2 (.slice (some ⟨g, 0, none⟩) (k + 1) cap) (k + 1) (xs ++ LK.cells y) → w.grownBy w' v.ownBlock → (v.ownBlock = some g ∨ g = w.heap.size) → K (a.put o.dst (.slice (some ⟨g, 0, none⟩) (k + 1) cap)) w') : Oper.wp Try.prog o a w K Q := by
  obtain ⟨g, cap, w', hrun, r1, r2, r4⟩ := run_append_l o.type hown hc b2 b3
  unfold Oper.wp
  simp [execOp, hop, resolve, invoke, builtin, hs, hx, hrun, Result.andThen]
  exact hK g cap w' r1 r2 r4
theorem wpList_app_l {w : World} {ops : Array Oper} {rest : List Oper} {o : Oper} {a : Act} {Q : Exit → Act → World → Prop}
    (hg : o.guard = none) (s x : Operand) (hop : o.op = Op.call { callee := Callee.builtin Builtin.append, args := #[s, x], argTypes := #[23, 23] })
    (base : Nat) (v : Value) (k : Nat) (xs : List Value) (hs : a.eval s = v) (hown : w.ownsRow base 49 2 v k xs) (ad : Addr) (y : LK) (hx : a.eval x = .slice (some ad) 1 1)
    (hc : ∀ j u, (LK.cells y)[j]? = some u → w.cell? (ad.add j) = some u) (b2 : (k + 1) * 16 ≤ 140737488355328) (b3 : base ≤ w.heap.size)
    (hK : ∀ g cap w', w'.ownsRow base 49 2 (.slice (some ⟨g, 0, none⟩) (k + 1) cap) (k + 1) (xs ++ LK.cells y) → w.grownBy w' v.ownBlock → (v.ownBlock = some g ∨ g = w.heap.size) →
      wpList Try.prog ops Q rest (a.put o.dst (.slice (some ⟨g, 0, none⟩) (k + 1) cap)) w') : wpList Try.prog ops Q (o :: rest) a w :=
  wpList_plain hg fun K hK' => wp_app_l s x hop base v k xs hs hown ad y hx hc b2 b3 fun g cap w' h1 h2 h3 => hK' _ _ (hK g cap w' h1 h2 h3)
theorem wpIn_app_l {F : Fence} {n : Nat} {w : World} {o : Oper} {a : Act} {K : Act → World → Prop} {Q : Exit → Act → World → Prop}
    (s x : Operand) (hop : o.op = Op.call { callee := Callee.builtin Builtin.append, args := #[s, x], argTypes := #[23, 23] })
    (base : Nat) (v : Value) (k : Nat) (xs : List Value) (hs : a.eval s = v) (hown : w.ownsRow base 49 2 v k xs) (ad : Addr) (y : LK) (hx : a.eval x = .slice (some ad) 1 1)
    (hc : ∀ j u, (LK.cells y)[j]? = some u → w.cell? (ad.add j) = some u) (b2 : (k + 1) * 16 ≤ 140737488355328) (b3 : base ≤ w.heap.size)
    (hK : ∀ g cap w', w'.ownsRow base 49 2 (.slice (some ⟨g, 0, none⟩) (k + 1) cap) (k + 1) (xs ++ LK.cells y) → w.grownBy w' v.ownBlock → (v.ownBlock = some g ∨ g = w.heap.size) → K (a.put o.dst (.slice (some ⟨g, 0, none⟩) (k + 1) cap)) w') : Oper.wpIn F n Try.prog o a w K Q := by
  obtain ⟨g, cap, w', hrun, r1, r2, r4⟩ := run_append_l o.type hown hc b2 b3
  unfold Oper.wpIn
  refine ⟨?_, ?_⟩
  · simp [Oper.about, hop, resolve, Target.leads, Sem.run_pure]
  · rw [Oper.semAt_plain F _ _ (by rw [hop]; intro c hc'; cases hc')]
    simp [execOp, hop, resolve, invoke, builtin, hs, hx, hrun, Result.andThen]
    exact hK g cap w' r1 r2 r4
theorem wpListIn_app_l {F : Fence} {n : Nat} {w : World} {ops : Array Oper} {rest : List Oper} {o : Oper} {a : Act} {Q : Exit → Act → World → Prop}
    (hg : o.guard = none) (s x : Operand) (hop : o.op = Op.call { callee := Callee.builtin Builtin.append, args := #[s, x], argTypes := #[23, 23] })
    (base : Nat) (v : Value) (k : Nat) (xs : List Value) (hs : a.eval s = v) (hown : w.ownsRow base 49 2 v k xs) (ad : Addr) (y : LK) (hx : a.eval x = .slice (some ad) 1 1)
    (hc : ∀ j u, (LK.cells y)[j]? = some u → w.cell? (ad.add j) = some u) (b2 : (k + 1) * 16 ≤ 140737488355328) (b3 : base ≤ w.heap.size)
    (hK : ∀ g cap w', w'.ownsRow base 49 2 (.slice (some ⟨g, 0, none⟩) (k + 1) cap) (k + 1) (xs ++ LK.cells y) → w.grownBy w' v.ownBlock → (v.ownBlock = some g ∨ g = w.heap.size) →
      wpListIn F n Try.prog ops Q rest (a.put o.dst (.slice (some ⟨g, 0, none⟩) (k + 1) cap)) w') : wpListIn F n Try.prog ops Q (o :: rest) a w :=
  wpListIn_plain hg fun K hK' => wpIn_app_l s x hop base v k xs hs hown ad y hx hc b2 b3 fun g cap w' h1 h2 h3 => hK' _ _ (hK g cap w' h1 h2 h3)
theorem run_append_s {W : World} (ty : TypeId) {base : Nat} {v : Value} {k : Nat} {xs : List Value} (hown : W.ownsRow base 74 6 v k xs) {ad : Addr} {y : SP}
    (hc : ∀ j u, (SP.cells y)[j]? = some u → W.cell? (ad.add j) = some u) (b2 : (k + 1) * 56 ≤ 140737488355328) (b3 : base ≤ W.heap.size) :
    ∃ g cap w', (Builtin.append_ #[43, 43] ty #[v, .slice (some ad) 1 1]).run Try.prog W = .ok (.slice (some ⟨g, 0, none⟩) (k + 1) cap) w' ∧ w'.ownsRow base 74 6 (.slice (some ⟨g, 0, none⟩) (k + 1) cap) (k + 1) (xs ++ SP.cells y) ∧ W.grownBy w' v.ownBlock ∧ (v.ownBlock = some g ∨ g = W.heap.size) := by
  obtain ⟨i0, hi, hz0, hz1, hz2⟩ := info_parts info74
  have h63 : k + 1 ≤ maxLen := by unfold maxLen; omega
  obtain ⟨v', w', hrun, r1, r2, r3⟩ := run_append_own (P := Try.prog) W base 43 ty 74 i0 _ 6 56 Try.underlying43 hi hz0 hz1 hz2 rfl (by decide) v k xs hown ad 1 1 (SP.cells y) rfl hc (cells_oneS y) h63 b2 b3
  have r4 := append_where (P := Try.prog) W base 43 ty 74 i0 _ 6 56 Try.underlying43 hi hz0 hz1 hz2 rfl (by decide) v k xs hown ad 1 1 (SP.cells y) rfl hc (cells_oneS y) (by decide) h63 b2 v' w' hrun
  rcases r1.2 with ⟨_, h0⟩ | ⟨g, cap, cur, rfl, q⟩
  · omega
  · refine ⟨g, cap, w', hrun, r1, r2, ?_⟩
    rcases r4 with h | h
    · exact .inl h.symm
    · exact .inr (by simpa [Value.ownBlock] using h)
theorem wp_app_s {w : World} {o : Oper} {a : Act} {K : Act → World → Prop} {Q : Exit → Act → World → Prop}
    (s x : Operand) (hop : o.op = Op.call { callee := Callee.builtin Builtin.append, args := #[s, x], argTypes := #[43, 43] })
    (base : Nat) (v : Value) (k : Nat) (xs : List Value) (hs : a.eval s = v) (hown : w.ownsRow base 74 6 v k xs) (ad : Addr) (y : SP) (hx : a.eval x = .slice (some ad) 1 1)
    (hc : ∀ j u, (SP.cells y)[j]? = some u → w.cell? (ad.add j) = some u) (b2 : (k + 1) * 56 ≤ 140737488355328) (b3 : base ≤ w.heap.size)
    (hK : ∀ g cap w', w'.ownsRow base 74 6 (.slice (some ⟨g, 0, none⟩) (k + 1) cap) (k + 1) (xs ++ SP.cells y) → w.grownBy w' v.ownBlock → (v.ownBlock = some g ∨ g = w.heap.size) → K (a.put o.dst (.slice (some ⟨g, 0, none⟩) (k + 1) cap)) w') : Oper.wp Try.prog o a w K Q := by
  obtain ⟨g, cap, w', hrun, r1, r2, r4⟩ := run_append_s o.type hown hc b2 b3
  unfold Oper.wp
  simp [execOp, hop, resolve, invoke, builtin, hs, hx, hrun, Result.andThen]
  exact hK g cap w' r1 r2 r4
theorem wpList_app_s {w : World} {ops : Array Oper} {rest : List Oper} {o : Oper} {a : Act} {Q : Exit → Act → World → Prop}
    (hg : o.guard = none) (s x : Operand) (hop : o.op = Op.call { callee := Callee.builtin Builtin.append, args := #[s, x], argTypes := #[43, 43] })
    (base : Nat) (v : Value) (k : Nat) (xs : List Value) (hs : a.eval s = v) (hown : w.ownsRow base 74 6 v k xs) (ad : Addr) (y : SP) (hx : a.eval x = .slice (some ad) 1 1)
    (hc : ∀ j u, (SP.cells y)[j]? = some u → w.cell? (ad.add j) = some u) (b2 : (k + 1) * 56 ≤ 140737488355328) (b3 : base ≤ w.heap.size)
    (hK : ∀ g cap w', w'.ownsRow base 74 6 (.slice (some ⟨g, 0, none⟩) (k + 1) cap) (k + 1) (xs ++ SP.cells y) → w.grownBy w' v.ownBlock → (v.ownBlock = some g ∨ g = w.heap.size) →
      wpList Try.prog ops Q rest (a.put o.dst (.slice (some ⟨g, 0, none⟩) (k + 1) cap)) w') : wpList Try.prog ops Q (o :: rest) a w :=
  wpList_plain hg fun K hK' => wp_app_s s x hop base v k xs hs hown ad y hx hc b2 b3 fun g cap w' h1 h2 h3 => hK' _ _ (hK g cap w' h1 h2 h3)
theorem wpIn_app_s {F : Fence} {n : Nat} {w : World} {o : Oper} {a : Act} {K : Act → World → Prop} {Q : Exit → Act → World → Prop}
    (s x : Operand) (hop : o.op = Op.call { callee := Callee.builtin Builtin.append, args := #[s, x], argTypes := #[43, 43] })
    (base : Nat) (v : Value) (k : Nat) (xs : List Value) (hs : a.eval s = v) (hown : w.ownsRow base 74 6 v k xs) (ad : Addr) (y : SP) (hx : a.eval x = .slice (some ad) 1 1)
    (hc : ∀ j u, (SP.cells y)[j]? = some u → w.cell? (ad.add j) = some u) (b2 : (k + 1) * 56 ≤ 140737488355328) (b3 : base ≤ w.heap.size)
    (hK : ∀ g cap w', w'.ownsRow base 74 6 (.slice (some ⟨g, 0, none⟩) (k + 1) cap) (k + 1) (xs ++ SP.cells y) → w.grownBy w' v.ownBlock → (v.ownBlock = some g ∨ g = w.heap.size) → K (a.put o.dst (.slice (some ⟨g, 0, none⟩) (k + 1) cap)) w') : Oper.wpIn F n Try.prog o a w K Q := by
  obtain ⟨g, cap, w', hrun, r1, r2, r4⟩ := run_append_s o.type hown hc b2 b3
  unfold Oper.wpIn
  refine ⟨?_, ?_⟩
  · simp [Oper.about, hop, resolve, Target.leads, Sem.run_pure]
  · rw [Oper.semAt_plain F _ _ (by rw [hop]; intro c hc'; cases hc')]
    simp [execOp, hop, resolve, invoke, builtin, hs, hx, hrun, Result.andThen]
    exact hK g cap w' r1 r2 r4
theorem wpListIn_app_s {F : Fence} {n : Nat} {w : World} {ops : Array Oper} {rest : List Oper} {o : Oper} {a : Act} {Q : Exit → Act → World → Prop}
    (hg : o.guard = none) (s x : Operand) (hop : o.op = Op.call { callee := Callee.builtin Builtin.append, args := #[s, x], argTypes := #[43, 43] })
    (base : Nat) (v : Value) (k : Nat) (xs : List Value) (hs : a.eval s = v) (hown : w.ownsRow base 74 6 v k xs) (ad : Addr) (y : SP) (hx : a.eval x = .slice (some ad) 1 1)
    (hc : ∀ j u, (SP.cells y)[j]? = some u → w.cell? (ad.add j) = some u) (b2 : (k + 1) * 56 ≤ 140737488355328) (b3 : base ≤ w.heap.size)
    (hK : ∀ g cap w', w'.ownsRow base 74 6 (.slice (some ⟨g, 0, none⟩) (k + 1) cap) (k + 1) (xs ++ SP.cells y) → w.grownBy w' v.ownBlock → (v.ownBlock = some g ∨ g = w.heap.size) →
      wpListIn F n Try.prog ops Q rest (a.put o.dst (.slice (some ⟨g, 0, none⟩) (k + 1) cap)) w') : wpListIn F n Try.prog ops Q (o :: rest) a w :=
  wpListIn_plain hg fun K hK' => wpIn_app_s s x hop base v k xs hs hown ad y hx hc b2 b3 fun g cap w' h1 h2 h3 => hK' _ _ (hK g cap w' h1 h2 h3)
theorem wp_app_int {w : World} {o : Oper} {a : Act} {K : Act → World → Prop} {Q : Exit → Act → World → Prop}
    (s x : Operand) (hop : o.op = Op.call { callee := Callee.builtin Builtin.append, args := #[s, x], argTypes := #[36, 36] })
    (base : Nat) (v : Value) (k : Nat) (xs : List Value) (hs : a.eval s = v) (hown : w.ownsRow base 3 1 v k xs) (ad : Addr) (y : Int) (hx : a.eval x = .slice (some ad) 1 1)
    (hc : ∀ j u, ([iv y])[j]? = some u → w.cell? (ad.add j) = some u) (b2 : (k + 1) * 8 ≤ 140737488355328) (b3 : base ≤ w.heap.size)
    (hK : ∀ g cap w', w'.ownsRow base 3 1 (.slice (some ⟨g, 0, none⟩) (k + 1) cap) (k + 1) (xs ++ [iv y]) → w.grownBy w' v.ownBlock → (v.ownBlock = some g ∨ g = w.heap.size) → K (a.put o.dst (.slice (some ⟨g, 0, none⟩) (k + 1) cap)) w') : Oper.wp Try.prog o a w K Q := by
  obtain ⟨g, cap, w', hrun, r1, r2, r4⟩ := run_append_int o.type hown hc b2 b3
  unfold Oper.wp
  simp [execOp, hop, resolve, invoke, builtin, hs, hx, hrun, Result.andThen]
  exact hK g cap w' r1 r2 r4
theorem wpList_app_int {w : World} {ops : Array Oper} {rest : List Oper} {o : Oper} {a : Act} {Q : Exit → Act → World → Prop}
    (hg : o.guard = none) (s x : Operand) (hop : o.op = Op.call { callee := Callee.builtin Builtin.append, args := #[s, x], argTypes := #[36, 36] })
    (base : Nat) (v : Value) (k : Nat) (xs : List Value) (hs : a.eval s = v) (hown : w.ownsRow base 3 1 v k xs) (ad : Addr) (y : Int) (hx : a.eval x = .slice (some ad) 1 1)
    (hc : ∀ j u, ([iv y])[j]? = some u → w.cell? (ad.add j) = some u) (b2 : (k + 1) * 8 ≤ 140737488355328) (b3 : base ≤ w.heap.size)
    (hK : ∀ g cap w', w'.ownsRow base 3 1 (.slice (some ⟨g, 0, none⟩) (k + 1) cap) (k + 1) (xs ++ [iv y]) → w.grownBy w' v.ownBlock → (v.ownBlock = some g ∨ g = w.heap.size) →
      wpList Try.prog ops Q rest (a.put o.dst (.slice (some ⟨g, 0, none⟩) (k + 1) cap)) w') : wpList Try.prog ops Q (o :: rest) a w :=
  wpList_plain hg fun K hK' => wp_app_int s x hop base v k xs hs hown ad y hx hc b2 b3 fun g cap w' h1 h2 h3 => hK' _ _ (hK g cap w' h1 h2 h3)
theorem wpIn_app_int {F : Fence} {n : Nat} {w : World} {o : Oper} {a : Act} {K : Act → World → Prop} {Q : Exit → Act → World → Prop}
    (s x : Operand) (hop : o.op = Op.call { callee := Callee.builtin Builtin.append, args := #[s, x], argTypes := #[36, 36] })
    (base : Nat) (v : Value) (k : Nat) (xs : List Value) (hs : a.eval s = v) (hown : w.ownsRow base 3 1 v k xs) (ad : Addr) (y : Int) (hx : a.eval x = .slice (some ad) 1 1)
    (hc : ∀ j u, ([iv y])[j]? = some u → w.cell? (ad.add j) = some u) (b2 : (k + 1) * 8 ≤ 140737488355328) (b3 : base ≤ w.heap.size)
    (hK : ∀ g cap w', w'.ownsRow base 3 1 (.slice (some ⟨g, 0, none⟩) (k + 1) cap) (k + 1) (xs ++ [iv y]) → w.grownBy w' v.ownBlock → (v.ownBlock = some g ∨ g = w.heap.size) → K (a.put o.dst (.slice (some ⟨g, 0, none⟩) (k + 1) cap)) w') : Oper.wpIn F n Try.prog o a w K Q := by
  obtain ⟨g, cap, w', hrun, r1, r2, r4⟩ := run_append_int o.type hown hc b2 b3
  unfold Oper.wpIn
  refine ⟨?_, ?_⟩
  · simp [Oper.about, hop, resolve, Target.leads, Sem.run_pure]
  · rw [Oper.semAt_plain F _ _ (by rw [hop]; intro c hc'; cases hc')]
    simp [execOp, hop, resolve, invoke, builtin, hs, hx, hrun, Result.andThen]
    exact hK g cap w' r1 r2 r4
theorem wpListIn_app_int {F : Fence} {n : Nat} {w : World} {ops : Array Oper} {rest : List Oper} {o : Oper} {a : Act} {Q : Exit → Act → World → Prop}
    (hg : o.guard = none) (s x : Operand) (hop : o.op = Op.call { callee := Callee.builtin Builtin.append, args := #[s, x], argTypes := #[36, 36] })
    (base : Nat) (v : Value) (k : Nat) (xs : List Value) (hs : a.eval s = v) (hown : w.ownsRow base 3 1 v k xs) (ad : Addr) (y : Int) (hx : a.eval x = .slice (some ad) 1 1)
    (hc : ∀ j u, ([iv y])[j]? = some u → w.cell? (ad.add j) = some u) (b2 : (k + 1) * 8 ≤ 140737488355328) (b3 : base ≤ w.heap.size)
    (hK : ∀ g cap w', w'.ownsRow base 3 1 (.slice (some ⟨g, 0, none⟩) (k + 1) cap) (k + 1) (xs ++ [iv y]) → w.grownBy w' v.ownBlock → (v.ownBlock = some g ∨ g = w.heap.size) →
      wpListIn F n Try.prog ops Q rest (a.put o.dst (.slice (some ⟨g, 0, none⟩) (k + 1) cap)) w') : wpListIn F n Try.prog ops Q (o :: rest) a w :=
  wpListIn_plain hg fun K hK' => wpIn_app_int s x hop base v k xs hs hown ad y hx hc b2 b3 fun g cap w' h1 h2 h3 => hK' _ _ (hK g cap w' h1 h2 h3)
end Go.Proofs.Ytpdmpekkmblgmaa
