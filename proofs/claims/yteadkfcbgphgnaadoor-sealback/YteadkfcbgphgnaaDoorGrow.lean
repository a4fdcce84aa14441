/-
  The two lists that Salvage makes, as its rounds carry them on.
-/
import Derived.Test.YteadkfcbgphgnaaDoorInts
import Derived.Test.YteadkfcbgphgnaaDoorWhole
import Derived.Maps.AppendAt
import Derived.RangeFuncBox
namespace Go.Proofs.YteadkfcbgphgnaaDoor
open Go.ChangeShapes Go.WideShapes Go.ChangeAt Go.RowKit Go.Shelf
set_option linter.unusedVariables false
set_option linter.unusedSimpArgs false
attribute [local go_sem] Oper.semAt_some

/-- An append's result lies in the row that it was handed, or in a new block. -/
theorem append_where {P : Program} (w : World) (base : Nat) (t ty e : TypeId) (i : TypeInfo) (z : Value) (size bytes : Nat) (ht : P.underlying t = some (.slice e)) (hi : P.info? e = some i) (hz : i.zero = some z)
    (hsize : i.size = size) (hby : i.bytes = bytes) (hzs : z.cells.size = size) (hsz : 0 < size)
    (v : Value) (n : Nat) (xs : List Value) (hown : w.ownsRow base e size v n xs)
    (a : Addr) (m c : Nat) (news : List Value) (hl : news.length = m * size) (hnews : ∀ j u, news[j]? = some u → w.cell? (a.add j) = some u) (h1 : ∀ u ∈ news, u.oneCell' = true) (hm : 0 < m)
    (h63 : n + m ≤ maxLen) (hbytes : (n + m) * bytes ≤ 140737488355328)
    (v' : Value) (w' : World) (hrun : (Builtin.append_ #[t, t] ty #[v, .slice (some a) m c]).run P w = .ok v' w') : v'.ownBlock = v.ownBlock ∨ v'.ownBlock = some w.heap.size := by
  subst hsize
  subst hby
  have hsmall : n + m ≤ 9223372036854775807 := by simp only [maxLen] at h63; omega
  rcases hown.2 with ⟨rfl, rfl⟩ | ⟨g, cap, cur, rfl, hbg, hg, hnc, hcm, hcs, htake⟩
  · have hr := run_append_nil (P := P) w t ty e i z ht hi hz a m c news hl hnews (by omega) (by omega) (by have hb := hbytes; simp only [Nat.zero_add] at hb; omega)
    rw [hr] at hrun
    cases hrun
    exact .inr rfl
  · by_cases hroom : n + m ≤ cap
    · have hfit : n * i.size + news.length ≤ cur.size := by rw [hl, hcs, ← Nat.add_mul]; exact Nat.mul_le_mul_right _ hroom
      have hr := run_append_room (P := P) w t ty e i ht hi g n cap cur hg a m c news hl hnews h1 hroom hfit
      rw [hr] at hrun
      cases hrun
      exact .inl rfl
    · have holds : ∀ j u, xs[j]? = some u → w.cell? ((⟨g, 0, none⟩ : Addr).add j) = some u := hown.cells (g := g) rfl
      have hr := run_append_grow (P := P) w t ty e i z ht hi hz ⟨g, 0, none⟩ n cap xs hown.1 holds a m c news hl hnews (by omega) (by omega) (growslice_fits (by omega) hbytes)
      rw [hr] at hrun
      cases hrun
      exact .inr rfl


/-- The variables in the blocks b1 and b2 hold bodies and places, of one's own from n on; C: the blocks where they lie. -/
structure HS (W : World) (b1 b2 n : Nat) (C : Nat → Prop) (bs : List (List Int)) (ps : List Nat) (v u : Value) (vs : List Value) : Prop where
  o1 : One W b1 v
  o2 : One W b2 u
  rv : W.ownsRow n 22 1 v bs.length vs
  lv : OwnL n W vs bs
  pu : Pls n W u ps
  hc : ∀ g, C g ↔ (v.ownBlock = some g ∨ u.ownBlock = some g ∨ ∃ x ∈ vs, x.ownBlock = some g)
theorem HS.lt {W : World} {b1 b2 n : Nat} {C : Nat → Prop} {bs : List (List Int)} {ps : List Nat} {v u : Value} {vs : List Value} (h : HS W b1 b2 n C bs ps v u vs) (g : Nat) (hg : C g) : n ≤ g ∧ g < W.heap.size := by
  rcases (h.hc g).1 hg with e | e | ⟨x, hx, e⟩
  · exact h.rv.lt g e
  · exact World.ownsRow.lt h.pu g e
  · exact h.lv.lt x hx g e
theorem HS.move {W W' : World} {b1 b2 n : Nat} {C : Nat → Prop} {bs : List (List Int)} {ps : List Nat} {v u : Value} {vs : List Value} (h : HS W b1 b2 n C bs ps v u vs) (h1 : W'.heap[b1]? = W.heap[b1]?) (h2 : W'.heap[b2]? = W.heap[b2]?) (hs : W.heap.size ≤ W'.heap.size) (hb : ∀ g, C g → W'.heap[g]? = W.heap[g]?) : HS W' b1 b2 n C bs ps v u vs where
  o1 := h.o1.of_block h1 hs
  o2 := h.o2.of_block h2 hs
  rv := ownsRow_of_block h.rv fun g hg => hb g ((h.hc g).2 (.inl hg))
  lv := h.lv.of_block fun x hx g hg => hb g ((h.hc g).2 (.inr (.inr ⟨x, hx, hg⟩)))
  pu := h.pu.of_block fun g hg => hb g ((h.hc g).2 (.inr (.inl hg)))
  hc := h.hc
theorem HS.same {W W' : World} {b1 b2 n m : Nat} {C : Nat → Prop} {bs : List (List Int)} {ps : List Nat} {v u : Value} {vs : List Value} (h : HS W b1 b2 n C bs ps v u vs) (s : Same m C W W') (h1 : b1 < m) (h2 : b2 < m) : HS W' b1 b2 n C bs ps v u vs :=
  h.move (s.block b1 h.o1.2.2 (.inl h1)) (s.block b2 h.o2.2.2 (.inl h2)) s.size fun g hg => s.block g (h.lt g hg).2 (.inr hg)
theorem HS.below {W W' : World} {b1 b2 n : Nat} {C : Nat → Prop} {bs : List (List Int)} {ps : List Nat} {v u : Value} {vs : List Value} (h : HS W b1 b2 n C bs ps v u vs) (hb : Below W.heap.size W W') : HS W' b1 b2 n C bs ps v u vs :=
  h.move (hb.block b1 h.o1.2.2) (hb.block b2 h.o2.2.2) hb.size fun g hg => hb.block g (h.lt g hg).2
theorem HS.nil (W : World) (b1 b2 n : Nat) (o1 : One W b1 (.slice none 0 0)) (o2 : One W b2 (.slice none 0 0)) : HS W b1 b2 n (fun _ => False) [] [] (.slice none 0 0) (.slice none 0 0) [] :=
  ⟨o1, o2, World.ownsRow_nil W n 22 1, trivial, Pls.nil n W, fun g => ⟨fun h => h.elim, fun h => by rcases h with h | h | ⟨x, hx, _⟩; cases h; cases h; cases hx⟩⟩

/-- One more body: the append is done and stored back. -/
theorem HS.bod {A V W1 : World} {b1 b2 n : Nat} {C : Nat → Prop} {bs : List (List Int)} {ps : List Nat} {v u : Value} {vs : List Value} {g cap : Nat} {x : Value} {bd : List Int} {tmp : Obj}
    (h : HS V b1 b2 n C bs ps v u vs) (hA : Below A.heap.size A V) (hx : Own A.heap.size V x bd) (hn : n ≤ A.heap.size) (hb1 : b1 < n) (hb2 : b2 < n) (hne : b1 ≠ b2)
    (hCA : ∀ g, C g → g < A.heap.size)
    (r1 : W1.ownsRow n 22 1 (.slice (some ⟨g, 0, none⟩) (bs.length + 1) cap) (bs.length + 1) (vs ++ [x])) (r2 : (V.alloc tmp).grownBy W1 v.ownBlock) (r3 : v.ownBlock = some g ∨ g = (V.alloc tmp).heap.size) :
    One W1 b1 v ∧ HS (W1.setCell ⟨b1, 0, none⟩ (.slice (some ⟨g, 0, none⟩) (bs.length + 1) cap)) b1 b2 n (fun k => some k = some g ∨ u.ownBlock = some k ∨ ∃ y ∈ vs ++ [x], y.ownBlock = some k) (bs ++ [bd]) ps (.slice (some ⟨g, 0, none⟩) (bs.length + 1) cap) u (vs ++ [x]) ∧
      Turn n C (fun k => some k = some g ∨ u.ownBlock = some k ∨ ∃ y ∈ vs ++ [x], y.ownBlock = some k) A (W1.setCell ⟨b1, 0, none⟩ (.slice (some ⟨g, 0, none⟩) (bs.length + 1) cap)) := by
  have hsA := hA.size
  have hsz : V.heap.size + 1 ≤ W1.heap.size := by have := r2.size; simpa using this
  have keep : Keeps v V W1 := fun k hk hv => (r2.block k (by simp; omega) (fun e => hv e.symm)).trans (Below.heap_alloc _ _ _ hk)
  have vb1 : v.ownBlock ≠ some b1 := fun e => by have := (h.rv.lt b1 e).1; omega
  have vb2 : v.ownBlock ≠ some b2 := fun e => by have := (h.rv.lt b2 e).1; omega
  have hgn : n ≤ g ∧ g < W1.heap.size := r1.lt g rfl
  have O1 : One W1 b1 v := h.o1.of_block (keep b1 h.o1.2.2 vb1) (by omega)
  have O2 : One W1 b2 u := h.o2.of_block (keep b2 h.o2.2.2 vb2) (by omega)
  have Lx : OwnL n V (vs ++ [x]) (bs ++ [bd]) := OwnL.snoc (hx.at hn) h.lv
  have L1 : OwnL n W1 (vs ++ [x]) (bs ++ [bd]) := Lx.of_block fun y hy k hk => keep k (Lx.lt y hy k hk).2 (OwnL.ne h.rv Lx y hy k hk)
  have P1 : Pls n W1 u ps := h.pu.of_block fun k hk => keep k (World.ownsRow.lt h.pu k hk).2 (owns_ne h.pu h.rv (by decide) hk)
  have far : ∀ k, n ≤ k → (W1.setCell ⟨b1, 0, none⟩ (.slice (some ⟨g, 0, none⟩) (bs.length + 1) cap)).heap[k]? = W1.heap[k]? := fun k hk => Below.heap_setCell _ _ _ _ (by show k ≠ b1; omega)
  refine ⟨O1, ⟨O1.set _, ?_, ?_, ?_, ?_, fun k => ?_⟩, ⟨?_, ?_, ?_⟩⟩
  · exact O2.of_block (Below.heap_setCell _ _ _ _ (by show b2 ≠ b1; omega)) (by simp [World.setCell])
  · rw [List.length_append]
    exact ownsRow_of_block r1 fun k hk => far k (r1.lt k hk).1
  · exact L1.of_block fun y hy k hk => far k (L1.lt y hy k hk).1
  · exact P1.of_block fun k hk => far k (World.ownsRow.lt P1 k hk).1
  · exact ⟨fun e => e.imp (fun e => e.symm) id, fun e => e.imp (fun e => e.symm) id⟩
  · simp [World.setCell]; omega
  · intro k h5 h6 h7
    rw [far k h5]
    refine (keep k (by omega) (fun e => h7 ((h.hc k).2 (.inl e)))).trans (hA.block k h6)
  · rintro k (e | e | ⟨y, hy, e⟩)
    · cases e
      refine ⟨hgn.1, by simpa [World.setCell] using hgn.2, ?_⟩
      rcases r3 with h8 | h8
      · exact .inl ((h.hc _).2 (.inl h8))
      · right; simp at h8; omega
    · have l := World.ownsRow.lt P1 k e
      exact ⟨l.1, by simpa [World.setCell] using l.2, .inl ((h.hc _).2 (.inr (.inl e)))⟩
    · have l := L1.lt y hy k e
      refine ⟨l.1, by simpa [World.setCell] using l.2, ?_⟩
      rcases List.mem_append.1 hy with hy | hy
      · exact .inl ((h.hc _).2 (.inr (.inr ⟨y, hy, e⟩)))
      · simp at hy
        subst hy
        exact .inr (hx.lt k e)

/-- One more place: the append is done and stored back. -/
theorem HS.pl {A W1 : World} {b1 b2 n : Nat} {C : Nat → Prop} {bs : List (List Int)} {ps : List Nat} {v u : Value} {vs : List Value} {g cap : Nat} {p : Nat} {tmp : Obj}
    (h : HS A b1 b2 n C bs ps v u vs) (hn : n ≤ A.heap.size) (hb1 : b1 < n) (hb2 : b2 < n) (hne : b1 ≠ b2)
    (r1 : W1.ownsRow n 3 1 (.slice (some ⟨g, 0, none⟩) (ps.length + 1) cap) (ps.length + 1) (ps.map iv ++ [iv p])) (r2 : (A.alloc tmp).grownBy W1 u.ownBlock) (r3 : u.ownBlock = some g ∨ g = (A.alloc tmp).heap.size) :
    One W1 b2 u ∧ HS (W1.setCell ⟨b2, 0, none⟩ (.slice (some ⟨g, 0, none⟩) (ps.length + 1) cap)) b1 b2 n (fun k => v.ownBlock = some k ∨ some k = some g ∨ ∃ y ∈ vs, y.ownBlock = some k) bs (ps ++ [p]) v (.slice (some ⟨g, 0, none⟩) (ps.length + 1) cap) vs ∧
      Turn n C (fun k => v.ownBlock = some k ∨ some k = some g ∨ ∃ y ∈ vs, y.ownBlock = some k) A (W1.setCell ⟨b2, 0, none⟩ (.slice (some ⟨g, 0, none⟩) (ps.length + 1) cap)) := by
  have hsz : A.heap.size + 1 ≤ W1.heap.size := by have := r2.size; simpa using this
  have keep : Keeps u A W1 := fun k hk hv => (r2.block k (by simp; omega) (fun e => hv e.symm)).trans (Below.heap_alloc _ _ _ hk)
  have ub1 : u.ownBlock ≠ some b1 := fun e => by have := (World.ownsRow.lt h.pu b1 e).1; omega
  have ub2 : u.ownBlock ≠ some b2 := fun e => by have := (World.ownsRow.lt h.pu b2 e).1; omega
  have hgn : n ≤ g ∧ g < W1.heap.size := r1.lt g rfl
  have O1 : One W1 b1 v := h.o1.of_block (keep b1 h.o1.2.2 ub1) (by omega)
  have O2 : One W1 b2 u := h.o2.of_block (keep b2 h.o2.2.2 ub2) (by omega)
  have R1 : W1.ownsRow n 22 1 v bs.length vs := ownsRow_of_block h.rv fun k hk => keep k (h.rv.lt k hk).2 (owns_ne h.rv h.pu (by decide) hk)
  have L1 : OwnL n W1 vs bs := h.lv.of_block fun y hy k hk => keep k (h.lv.lt y hy k hk).2 (by
    obtain ⟨i, hi, rfl⟩ := List.getElem_of_mem hy
    obtain ⟨z, hz, ho⟩ := h.lv.get i (by have := h.lv.length; omega)
    rw [List.getElem?_eq_getElem hi] at hz
    cases hz
    exact owns_ne ho h.pu (by decide) hk)
  have far : ∀ k, n ≤ k → (W1.setCell ⟨b2, 0, none⟩ (.slice (some ⟨g, 0, none⟩) (ps.length + 1) cap)).heap[k]? = W1.heap[k]? := fun k hk => Below.heap_setCell _ _ _ _ (by show k ≠ b2; omega)
  refine ⟨O2, ⟨?_, O2.set _, ?_, ?_, ?_, fun k => ?_⟩, ⟨?_, ?_, ?_⟩⟩
  · exact O1.of_block (Below.heap_setCell _ _ _ _ (by show b1 ≠ b2; omega)) (by simp [World.setCell])
  · exact ownsRow_of_block R1 fun k hk => far k (R1.lt k hk).1
  · exact L1.of_block fun y hy k hk => far k (L1.lt y hy k hk).1
  · show World.ownsRow _ n 3 1 _ (ps ++ [p]).length ((ps ++ [p]).map iv)
    rw [List.length_append, List.map_append]
    exact ownsRow_of_block r1 fun k hk => far k (r1.lt k hk).1
  · exact ⟨fun e => e.imp id (fun e => e.imp (fun e => e.symm) id), fun e => e.imp id (fun e => e.imp (fun e => e.symm) id)⟩
  · simp [World.setCell]; omega
  · intro k h5 h6 h7
    rw [far k h5]
    exact keep k h6 (fun e => h7 ((h.hc k).2 (.inr (.inl e))))
  · rintro k (e | e | ⟨y, hy, e⟩)
    · have l := R1.lt k e
      exact ⟨l.1, by simpa [World.setCell] using l.2, .inl ((h.hc _).2 (.inl e))⟩
    · cases e
      refine ⟨hgn.1, by simpa [World.setCell] using hgn.2, ?_⟩
      rcases r3 with h8 | h8
      · exact .inl ((h.hc _).2 (.inr (.inl h8)))
      · right; simp at h8; omega
    · have l := L1.lt y hy k e
      exact ⟨l.1, by simpa [World.setCell] using l.2, .inl ((h.hc _).2 (.inr (.inr ⟨y, hy, e⟩)))⟩

end Go.Proofs.YteadkfcbgphgnaaDoor
