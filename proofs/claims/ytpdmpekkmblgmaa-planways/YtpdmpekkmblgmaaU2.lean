/-
  A list of rows of numbers, put together by append.
-/
import Derived.Test.YtpdmpekkmblgmaaU1
import Derived.Test.YtpdmpekkmblgmaaP5c
import Derived.Test.YtpdmpekkmblgmaaP5d
import Derived.Test.YtpdmpekkmblgmaaQW
import Derived.Test.YtpdmpekkmblgmaaP5b
namespace Go.Proofs.Ytpdmpekkmblgmaa
open Go.ChangeShapes Go.WideShapes Go.ChangeAt Go.RowKit Go.Maps Go.Shelf
set_option linter.unusedVariables false
set_option linter.unusedSimpArgs false
attribute [local go_sem] Oper.semAt_some

theorem info36 : (Try.prog.info? 36).map (fun i => (i.zero, i.size, i.bytes)) = some (some (.slice none 0 0), 1, 24) := by kernel_rfl
theorem run_append_r {W : World} (ty : TypeId) {base : Nat} {v : Value} {k : Nat} {xs : List Value} (hown : W.ownsRow base 36 1 v k xs) {ad : Addr} {p : Option Addr} {m c : Nat}
    (hc : ∀ j u, ([.slice p m c] : List Value)[j]? = some u → W.cell? (ad.add j) = some u) (b2 : (k + 1) * 24 ≤ 140737488355328) (b3 : base ≤ W.heap.size) :
    ∃ g cap w', (Builtin.append_ #[47, 47] ty #[v, .slice (some ad) 1 1]).run Try.prog W = .ok (.slice (some ⟨g, 0, none⟩) (k + 1) cap) w' ∧ w'.ownsRow base 36 1 (.slice (some ⟨g, 0, none⟩) (k + 1) cap) (k + 1) (xs ++ [.slice p m c]) ∧ W.grownBy w' v.ownBlock ∧ (v.ownBlock = some g ∨ g = W.heap.size) := by
  obtain ⟨i0, hi, hz0, hz1, hz2⟩ := info_parts info36
  have h63 : k + 1 ≤ maxLen := by unfold maxLen; omega
  obtain ⟨v', w', hrun, r1, r2, r3⟩ := run_append_own (P := Try.prog) W base 47 ty 36 i0 _ 1 24 Try.underlying47 hi hz0 hz1 hz2 rfl (by decide) v k xs hown ad 1 1 [.slice p m c] rfl hc (by simp [Value.oneCell']) h63 b2 b3
  have r4 := append_where (P := Try.prog) W base 47 ty 36 i0 _ 1 24 Try.underlying47 hi hz0 hz1 hz2 rfl (by decide) v k xs hown ad 1 1 [.slice p m c] rfl hc (by simp [Value.oneCell']) (by decide) h63 b2 v' w' hrun
  rcases r1.2 with ⟨_, h0⟩ | ⟨g, cap, cur, rfl, q⟩
  · omega
  · refine ⟨g, cap, w', hrun, r1, r2, ?_⟩
    rcases r4 with h | h
    · exact .inl h.symm
    · exact .inr (by simpa [Value.ownBlock] using h)
theorem wp_app_r {w : World} {o : Oper} {a : Act} {K : Act → World → Prop} {Q : Exit → Act → World → Prop}
    (s x : Operand) (hop : o.op = Op.call { callee := Callee.builtin Builtin.append, args := #[s, x], argTypes := #[47, 47] })
    (base : Nat) (v : Value) (k : Nat) (xs : List Value) (hs : a.eval s = v) (hown : w.ownsRow base 36 1 v k xs) (ad : Addr) (p : Option Addr) (m c : Nat) (hx : a.eval x = .slice (some ad) 1 1)
    (hc : ∀ j u, ([.slice p m c] : List Value)[j]? = some u → w.cell? (ad.add j) = some u) (b2 : (k + 1) * 24 ≤ 140737488355328) (b3 : base ≤ w.heap.size)
    (hK : ∀ g cap w', w'.ownsRow base 36 1 (.slice (some ⟨g, 0, none⟩) (k + 1) cap) (k + 1) (xs ++ [.slice p m c]) → w.grownBy w' v.ownBlock → (v.ownBlock = some g ∨ g = w.heap.size) → K (a.put o.dst (.slice (some ⟨g, 0, none⟩) (k + 1) cap)) w') : Oper.wp Try.prog o a w K Q := by
  obtain ⟨g, cap, w', hrun, r1, r2, r4⟩ := run_append_r o.type hown hc b2 b3
  unfold Oper.wp
  simp [execOp, hop, resolve, invoke, builtin, hs, hx, hrun, Result.andThen]
  exact hK g cap w' r1 r2 r4
theorem wpList_app_r {w : World} {ops : Array Oper} {rest : List Oper} {o : Oper} {a : Act} {Q : Exit → Act → World → Prop}
    (hg : o.guard = none) (s x : Operand) (hop : o.op = Op.call { callee := Callee.builtin Builtin.append, args := #[s, x], argTypes := #[47, 47] })
    (base : Nat) (v : Value) (k : Nat) (xs : List Value) (hs : a.eval s = v) (hown : w.ownsRow base 36 1 v k xs) (ad : Addr) (p : Option Addr) (m c : Nat) (hx : a.eval x = .slice (some ad) 1 1)
    (hc : ∀ j u, ([.slice p m c] : List Value)[j]? = some u → w.cell? (ad.add j) = some u) (b2 : (k + 1) * 24 ≤ 140737488355328) (b3 : base ≤ w.heap.size)
    (hK : ∀ g cap w', w'.ownsRow base 36 1 (.slice (some ⟨g, 0, none⟩) (k + 1) cap) (k + 1) (xs ++ [.slice p m c]) → w.grownBy w' v.ownBlock → (v.ownBlock = some g ∨ g = w.heap.size) →
      wpList Try.prog ops Q rest (a.put o.dst (.slice (some ⟨g, 0, none⟩) (k + 1) cap)) w') : wpList Try.prog ops Q (o :: rest) a w :=
  wpList_plain hg fun K hK' => wp_app_r s x hop base v k xs hs hown ad p m c hx hc b2 b3 fun g cap w' h1 h2 h3 => hK' _ _ (hK g cap w' h1 h2 h3)
def rowV (N g : Nat) : Value := .slice (some ⟨g, 0, none⟩) N N
/-- A growing list of rows: of each of the first nodes how far the others are. -/
structure OwD (N : Nat) (l : List LK) (w : World) (v : Value) (gs : List Nat) (W : World) : Prop where
  own : W.ownsRow w.heap.size 36 1 v gs.length (gs.map (rowV N))
  rows : ∀ u, u < gs.length → W.heap[gs.getD u 0]? = some (.cells ((dst N l (u : Int)).map iv).toArray 3 (0, 0))
  below : Below w.heap.size w W
theorem OwD.nil (N : Nat) (l : List LK) (w : World) : OwD N l w (.slice none 0 0) [] w := ⟨World.ownsRow_nil _ _ 36 1, fun u h => (by cases h), Below.refl _ _⟩
theorem OwD.later {N : Nat} {l : List LK} {w : World} {v : Value} {gs : List Nat} {W W' : World} (h : OwD N l w v gs W) (b : Below W.heap.size W W') : OwD N l w v gs W' :=
  ⟨owns_of_block h.own (fun g hg => b.block g (h.own.lt g hg).2), fun u hu => (b.block _ (row_lt (h.rows u hu))).trans (h.rows u hu), h.below.trans (b.mono h.below.size)⟩
theorem OwD.more {N : Nat} {l : List LK} {w : World} {v : Value} {gs : List Nat} {W W' : World} {g q cap : Nat} (h : OwD N l w v gs W) (hq : W.heap[q]? = some (.cells ((dst N l (gs.length : Int)).map iv).toArray 3 (0, 0)))
    (h1 : W'.ownsRow w.heap.size 36 1 (.slice (some ⟨g, 0, none⟩) (gs.length + 1) cap) (gs.length + 1) (gs.map (rowV N) ++ [rowV N q])) (h2 : W.grownBy W' v.ownBlock) : OwD N l w (.slice (some ⟨g, 0, none⟩) (gs.length + 1) cap) (gs ++ [q]) W' := by
  have keep : ∀ (b : Nat) (z : Array Value), W.heap[b]? = some (Obj.cells z 3 (0, 0)) → W'.heap[b]? = W.heap[b]? := fun b z hb => h2.block b (row_lt hb) (fun e => by
    rcases h.own.2 with ⟨rfl, _⟩ | ⟨g0, cap0, cur, rfl, _, hh, _⟩
    · cases e
    · have e1 : b = g0 := by simpa [Value.ownBlock] using e
      rw [e1, hh] at hb
      simp at hb)
  refine ⟨by rw [List.length_append, List.map_append]; exact h1, ?_, h.below.grown h2 h.below.size (fun j e => (h.own.lt j e).1)⟩
  intro u hu
  rw [List.length_append] at hu
  by_cases hu2 : u < gs.length
  · rw [show (gs ++ [q]).getD u 0 = gs.getD u 0 by rw [List.getD_eq_getElem?_getD, List.getD_eq_getElem?_getD, List.getElem?_append_left hu2]]
    exact (keep _ _ (h.rows u hu2)).trans (h.rows u hu2)
  · obtain rfl : u = gs.length := by simp at hu; omega
    rw [show (gs ++ [q]).getD gs.length 0 = q by rw [List.getD_eq_getElem?_getD, List.getElem?_append_right (Nat.le_refl _), Nat.sub_self]; rfl]
    exact (keep _ _ hq).trans hq
theorem OwD.cell {N : Nat} {l : List LK} {w : World} {b cap n : Nat} {gs : List Nat} {W : World} (h : OwD N l w (.slice (some ⟨b, 0, none⟩) n cap) gs W) {u : Nat} (hu : u < gs.length) : W.cell? ⟨b, u, none⟩ = some (rowV N (gs.getD u 0)) := by
  have := h.own.cells (g := b) rfl u (rowV N (gs.getD u 0)) (by
    rw [List.getElem?_map, List.getD_eq_getElem?_getD, List.getElem?_eq_getElem hu]
    rfl)
  rw [add_plain, Nat.zero_add] at this
  exact this
theorem OwD.at {N : Nat} {l : List LK} {w : World} {v : Value} {gs : List Nat} {W : World} (h : OwD N l w v gs W) {u j : Nat} (hu : u < gs.length) (hj : j < N) : W.cell? ⟨gs.getD u 0, j, none⟩ = some (.int .i64 ((dst N l (u : Int)).getD j 0)) := by
  refine row_cell (h.rows u hu) j _ ?_
  have hl : j < (dst N l (u : Int)).length := by rw [dst_len]; exact hj
  simp [List.getD_eq_getElem?_getD, List.getElem?_eq_getElem hl]
end Go.Proofs.Ytpdmpekkmblgmaa
