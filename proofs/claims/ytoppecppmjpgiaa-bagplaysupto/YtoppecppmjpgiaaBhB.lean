/-
  Package bag: lists copied by append; the document's Copy.
-/
import Derived.Test.YtoppecppmjpgiaaBhA
namespace Go.Proofs.Ytoppecppmjpgiaa
open Go.ChangeShapes Go.WideShapes Go.ChangeAt Go.RowKit Go.Maps
set_option linter.unusedVariables false
set_option linter.unusedSimpArgs false

def lcs (ls : List LK) : List Value := ls.flatMap LK.cells
theorem lcs_len (ls : List LK) : (lcs ls).length = ls.length * 2 := by
  unfold lcs
  induction ls with
  | nil => rfl
  | cons d ls ih => rw [List.flatMap_cons, List.length_append, ih, List.length_cons]; show 2 + _ = _; omega
theorem lcs_get (ls : List LK) (i j : Nat) (d : LK) (hi : ls[i]? = some d) (hj : j < 2) : (lcs ls)[2 * i + j]? = d.cells[j]? := by
  induction ls generalizing i with
  | nil => cases hi
  | cons e ls ih =>
    have hl : e.cells.length = 2 := rfl
    cases i with
    | zero =>
      cases hi
      show (d.cells ++ lcs ls)[2 * 0 + j]? = _
      rw [List.getElem?_append_left (by omega)]
      congr 1
      omega
    | succ i =>
      show (e.cells ++ lcs ls)[2 * (i + 1) + j]? = _
      rw [List.getElem?_append_right (by omega), hl, show 2 * (i + 1) + j - 2 = 2 * i + j by omega]
      exact ih i (by simpa using hi)
theorem lcs_one (ls : List LK) : ∀ u ∈ lcs ls, u.oneCell' = true := by
  intro u hu
  obtain ⟨d, _, h⟩ := List.mem_flatMap.1 hu
  simp only [LK.cells, List.mem_cons, List.not_mem_nil, or_false] at h
  rcases h with rfl | rfl <;> rfl
theorem get_z (ls : List LK) (i : Nat) (hi : i < ls.length) : ls[i]? = some (ls.getD i LK.z) := by rw [List.getD_eq_getElem?_getD, List.getElem?_eq_getElem hi]; rfl
theorem Lks.cells_at {W : World} {g off m cap : Nat} {ls : List LK} (hs : ls.length = m) (h : ∀ i, i < m → W.rangeAt g (off + i * 2) (ls.getD i LK.z).cells) (j : Nat) (u : Value) (hu : (lcs ls)[j]? = some u) : W.cell? ⟨g, off + j, none⟩ = some u := by
  have hj : j < (lcs ls).length := (List.getElem?_eq_some_iff.1 hu).1
  rw [lcs_len] at hj
  have e := lcs_get ls (j / 2) (j % 2) _ (get_z ls (j / 2) (by omega)) (by omega)
  rw [show 2 * (j / 2) + j % 2 = j by omega, hu] at e
  have r := h (j / 2) (by omega) (j % 2) u e.symm
  rw [show off + j / 2 * 2 + j % 2 = off + j by omega] at r
  exact r
theorem own_lks {W : World} {base : Nat} {v : Value} {m : Nat} {ls : List LK} (h : W.ownsRow base 65 2 v m (lcs ls)) (hm : ls.length = m) : ∃ a cap, v = .slice a m cap ∧ Lks W a m cap ls ∧ (∀ g off, a = some ⟨g, off, none⟩ → base ≤ g) := by
  rcases h.2 with ⟨rfl, h0⟩ | ⟨g, cap, cur, rfl, hg, hh, hnc, hc, hcs, ht⟩
  · subst h0
    exact ⟨none, 0, rfl, ⟨hm, Nat.le_refl _, by omega, .inl ⟨rfl, rfl⟩⟩, fun g off e => by cases e⟩
  · refine ⟨_, cap, rfl, ⟨hm, hnc, by unfold maxLen at hc; omega, .inr ⟨g, 0, rfl, row_lt hh, fun i hi j u hu => ?_⟩⟩, fun g' off e => by cases e; exact hg⟩
    have hj : j < 2 := (List.getElem?_eq_some_iff.1 hu).1
    refine row_cell hh _ _ ?_
    have e := lcs_get ls i j _ (get_z ls i (by omega)) hj
    rw [← ht, List.getElem?_take, if_pos (by omega)] at e
    rw [← hu, ← e, Array.getElem?_toList]
    congr 1
    omega
theorem info65 : (Try.prog.info? 65).map (fun i => (i.zero, i.size, i.bytes)) = some (some (LK.v ⟨0, 0⟩), 2, 16) := by kernel_rfl
/-- append(nil, packets...). -/
theorem run_copy_lst {W : World} {a : Option Addr} {n cap : Nat} {ds : List DG} (ty : TypeId) (L : Lst W a n cap ds) (hn : n * 40 ≤ 140737488355328) :
    ∃ a' cap' w', (Builtin.append_ #[22, 22] ty #[.slice none 0 0, .slice a n cap]).run Try.prog W = .ok (.slice a' n cap') w' ∧ Lst w' a' n cap' ds ∧ (∀ g off, a' = some ⟨g, off, none⟩ → W.heap.size ≤ g) ∧ Below W.heap.size W w' := by
  obtain ⟨i0, hi, hz0, hz1, hz2⟩ := info_parts info33
  rcases L.mem with ⟨rfl, rfl⟩ | ⟨g, off, cur, rfl, hh, hcs, htk⟩
  · have h0 : n = 0 := by have := L.le; omega
    subst h0
    have e := List.eq_nil_of_length_eq_zero L.size
    subst e
    exact ⟨none, 0, W, run_append_owned_none (P := Try.prog) (w := W) W.heap.size 22 ty 33 i0 4 Try.underlying22 hi _ 0 [] (World.ownsRow_nil W _ 33 4), lst_nil _, fun g off e => (by cases e), Below.refl _ _⟩
  · have hl : (dcs ds).length = n * 4 := by rw [dcs_len, L.size]; omega
    obtain ⟨v', w', hrun, r1, r2, _⟩ := run_append_own (P := Try.prog) W W.heap.size 22 ty 33 i0 _ 4 40 Try.underlying22 hi hz0 hz1 hz2 rfl (by decide) (.slice none 0 0) 0 [] (World.ownsRow_nil W _ 33 4) ⟨g, off, none⟩ n cap (dcs ds) hl (fun j u hj => by
      rw [add_plain]
      have hjl := (List.getElem?_eq_some_iff.1 hj).1
      refine row_cell hh _ _ ?_
      rw [← htk, List.getElem?_take, if_pos (by omega), List.getElem?_drop, Array.getElem?_toList] at hj
      exact hj) (fun u hu => by obtain ⟨d, _, h⟩ := List.mem_flatMap.1 hu; exact cells_one d u h) (by unfold maxLen; omega) (by omega) (Nat.le_refl _)
    rw [Nat.zero_add, List.nil_append] at r1
    obtain ⟨a', cap', rfl, L', hb⟩ := own_lst r1 L.size
    exact ⟨a', cap', w', hrun, L', hb, ⟨r2.os, r2.tape, r2.output, r2.size, fun q hq => r2.block q hq (by simp [Value.ownBlock])⟩⟩
/-- append(nil, links...). -/
theorem run_copy_lks {W : World} {a : Option Addr} {m cap : Nat} {ls : List LK} (ty : TypeId) (L : Lks W a m cap ls) (hm : m * 16 ≤ 140737488355328) :
    ∃ a' cap' w', (Builtin.append_ #[23, 23] ty #[.slice none 0 0, .slice a m cap]).run Try.prog W = .ok (.slice a' m cap') w' ∧ Lks w' a' m cap' ls ∧ (∀ g off, a' = some ⟨g, off, none⟩ → W.heap.size ≤ g) ∧ Below W.heap.size W w' := by
  obtain ⟨i0, hi, hz0, hz1, hz2⟩ := info_parts info65
  rcases L.mem with ⟨rfl, rfl⟩ | ⟨g, off, rfl, hlt, hr⟩
  · have h0 : m = 0 := by have := L.le; omega
    subst h0
    have e := List.eq_nil_of_length_eq_zero L.size
    subst e
    exact ⟨none, 0, W, run_append_owned_none (P := Try.prog) (w := W) W.heap.size 23 ty 65 i0 2 Try.underlying23 hi _ 0 [] (World.ownsRow_nil W _ 65 2), ⟨rfl, Nat.le_refl _, by omega, .inl ⟨rfl, rfl⟩⟩, fun g off e => (by cases e), Below.refl _ _⟩
  · have hl : (lcs ls).length = m * 2 := by rw [lcs_len, L.size]
    obtain ⟨v', w', hrun, r1, r2, _⟩ := run_append_own (P := Try.prog) W W.heap.size 23 ty 65 i0 _ 2 16 Try.underlying23 hi hz0 hz1 hz2 rfl (by decide) (.slice none 0 0) 0 [] (World.ownsRow_nil W _ 65 2) ⟨g, off, none⟩ m cap (lcs ls) hl (fun j u hj => by
      rw [add_plain]
      exact Lks.cells_at (cap := cap) L.size hr j u hj) (lcs_one ls) (by unfold maxLen; omega) (by omega) (Nat.le_refl _)
    rw [Nat.zero_add, List.nil_append] at r1
    obtain ⟨a', cap', rfl, L', hb⟩ := own_lks r1 L.size
    exact ⟨a', cap', w', hrun, L', hb, ⟨r2.os, r2.tape, r2.output, r2.size, fun q hq => r2.block q hq (by simp [Value.ownBlock])⟩⟩
theorem wpList_copy_lst {ops : Array Oper} {rest : List Oper} {o : Oper} {A : Act} {W : World} {Q : Exit → Act → World → Prop} (hgd : o.guard = none) (s x : Operand) (ho : o.op = .call { callee := .builtin .append, args := #[s, x], argTypes := #[22, 22] }) {a : Option Addr} {n cap : Nat} {ds : List DG}
    (hs : A.eval s = .slice none 0 0) (hx : A.eval x = .slice a n cap) (L : Lst W a n cap ds) (hn : n * 40 ≤ 140737488355328)
    (h : ∀ a' cap' w', Lst w' a' n cap' ds → (∀ g off, a' = some ⟨g, off, none⟩ → W.heap.size ≤ g) → Below W.heap.size W w' → wpList Try.prog ops Q rest (A.put o.dst (.slice a' n cap')) w') : wpList Try.prog ops Q (o :: rest) A W := by
  obtain ⟨a', cap', w', hrun, L', hb, hB⟩ := run_copy_lst o.type L hn
  refine wpList_plain hgd fun K hK => ?_
  unfold Oper.wp
  simp [execOp, ho, resolve, invoke, builtin, hs, hx, hrun, Result.andThen]
  exact hK _ _ (h a' cap' w' L' hb hB)
theorem wpList_copy_lks {ops : Array Oper} {rest : List Oper} {o : Oper} {A : Act} {W : World} {Q : Exit → Act → World → Prop} (hgd : o.guard = none) (s x : Operand) (ho : o.op = .call { callee := .builtin .append, args := #[s, x], argTypes := #[23, 23] }) {a : Option Addr} {m cap : Nat} {ls : List LK}
    (hs : A.eval s = .slice none 0 0) (hx : A.eval x = .slice a m cap) (L : Lks W a m cap ls) (hm : m * 16 ≤ 140737488355328)
    (h : ∀ a' cap' w', Lks w' a' m cap' ls → (∀ g off, a' = some ⟨g, off, none⟩ → W.heap.size ≤ g) → Below W.heap.size W w' → wpList Try.prog ops Q rest (A.put o.dst (.slice a' m cap')) w') : wpList Try.prog ops Q (o :: rest) A W := by
  obtain ⟨a', cap', w', hrun, L', hb, hB⟩ := run_copy_lks o.type L hm
  refine wpList_plain hgd fun K hK => ?_
  unfold Oper.wp
  simp [execOp, ho, resolve, invoke, builtin, hs, hx, hrun, Result.andThen]
  exact hK _ _ (h a' cap' w' L' hb hB)
theorem Lks.of_block {W W' : World} {a : Option Addr} {m cap : Nat} {ls : List LK} (h : Lks W a m cap ls) (hs : W.heap.size ≤ W'.heap.size) (hb : ∀ g off, a = some ⟨g, off, none⟩ → W'.heap[g]? = W.heap[g]?) : Lks W' a m cap ls :=
  ⟨h.size, h.le, h.max, h.mem.imp id fun ⟨g, off, e, hl, r⟩ => ⟨g, off, e, by omega, fun i hi j v hv => (World.cell?_of_block (a := ⟨g, off + i * 2 + j, none⟩) (hb g off e)).trans (r i hi j v hv)⟩⟩
theorem Lks.below {W W' : World} {a : Option Addr} {m cap : Nat} {ls : List LK} (h : Lks W a m cap ls) (hb : Below W.heap.size W W') : Lks W' a m cap ls := by
  refine h.of_block hb.size fun g off e => ?_
  rcases h.mem with ⟨e', _⟩ | ⟨g', off', e', hl, _⟩
  · rw [e'] at e; cases e
  · rw [e'] at e; cases e; exact hb.block g hl
theorem Lst.below {W W' : World} {a : Option Addr} {n cap : Nat} {ds : List DG} (h : Lst W a n cap ds) (hb : Below W.heap.size W W') : Lst W' a n cap ds :=
  h.of_block fun g off e => by subst e; exact hb.block g h.lt
/-- Copy's three boxes. -/
structure Cp (w : World) (A Z B : Array Value) (W : World) : Prop where
  below : Below w.heap.size w W
  size : w.heap.size + 3 ≤ W.heap.size
  one : W.heap[w.heap.size]? = some (.cells A 25 (0, 0))
  two : W.heap[w.heap.size + 1]? = some (.cells Z 25 (0, 0))
  three : W.heap[w.heap.size + 1 + 1]? = some (.cells B 25 (0, 0))
theorem Cp.start (w : World) (A Z B : Array Value) : Cp w A Z B (((w.alloc (.cells A 25)).alloc (.cells Z 25)).alloc (.cells B 25)) := by
  refine ⟨(((Below.refl _ _).alloc (Nat.le_refl _) _).alloc (by simp) _).alloc (by simp; omega) _, by simp, ?_, ?_, ?_⟩
  · exact (Below.heap_alloc _ _ _ (by simp; omega)).trans ((Below.heap_alloc _ _ _ (by simp)).trans (World.alloc_heap_new w _))
  · refine (Below.heap_alloc _ _ _ (by simp)).trans ?_
    have := World.alloc_heap_new (w.alloc (.cells A 25)) (.cells Z 25)
    rw [World.size_alloc] at this
    exact this
  · have := World.alloc_heap_new ((w.alloc (.cells A 25)).alloc (.cells Z 25)) (.cells B 25)
    rw [World.size_alloc, World.size_alloc] at this
    exact this
theorem Cp.later {w : World} {A Z B : Array Value} {W W' : World} (h : Cp w A Z B W) (b : Below W.heap.size W W') : Cp w A Z B W' :=
  have hs := h.size
  ⟨h.below.trans (b.mono h.below.size), Nat.le_trans h.size b.size, (b.block _ (by omega)).trans h.one, (b.block _ (by omega)).trans h.two, (b.block _ (by omega)).trans h.three⟩
theorem Cp.set {w : World} {A Z B : Array Value} {W : World} (h : Cp w A Z B W) (i : Nat) (v : Value) : Cp w A Z (B.setIfInBounds i v) (W.setCell ⟨w.heap.size + 1 + 1, i, none⟩ v) :=
  ⟨h.below.setCell (p := ⟨w.heap.size + 1 + 1, i, none⟩) (by show w.heap.size ≤ w.heap.size + 1 + 1; omega) v, by simpa [World.setCell] using h.size, (set_far rfl (by omega) _ _).trans h.one, (set_far rfl (by omega) _ _).trans h.two, set_row h.three i v⟩
theorem Cp.out {w : World} {A Z B : Array Value} {W : World} (h : Cp w A Z B W) (i : Nat) (v : Value) : Cp w A (Z.setIfInBounds i v) B (W.setCell ⟨w.heap.size + 1, i, none⟩ v) :=
  ⟨h.below.setCell (p := ⟨w.heap.size + 1, i, none⟩) (by show w.heap.size ≤ w.heap.size + 1; omega) v, by simpa [World.setCell] using h.size, (set_far rfl (by omega) _ _).trans h.one, set_row h.two i v, (set_far rfl (by omega) _ _).trans h.three⟩
theorem load_25m {w : World} {g : Nat} {x y z : Value} (h : w.heap[g]? = some (.cells #[x, y, z] 25 (0, 0))) : (loadVar 25 ⟨g, 0, none⟩).run Try.prog w = .ok (.agg #[x, y, z]) w :=
  run_loadVar_row (P := Try.prog) w g 25 25 _ (0, 0) _ h Try.underlying25 rfl (by show _ = some 3; kernel_rfl)
set_option maxHeartbeats 4000000 in
theorem copy_any (next : Int) (a : Option Addr) (n c : Nat) (ds : List DG) (la : Option Addr) (m lc : Nat) (ls : List LK) (w : World) (L : Lst w a n c ds) (K : Lks w la m lc ls) (hn : n * 40 ≤ 140737488355328) (hm : m * 16 ≤ 140737488355328) :
    Calls Try.prog 7 #[mailV next a n c la m lc] w fun e w' => ∃ a' c' la' lc', e = .returned (mailV next a' n c' la' m lc') ∧ Lst w' a' n c' ds ∧ Lks w' la' m lc' ls ∧ (∀ g off, a' = some ⟨g, off, none⟩ → w.heap.size ≤ g) ∧ (∀ g off, la' = some ⟨g, off, none⟩ → w.heap.size ≤ g) ∧ Below w.heap.size w w' := by
  have C0 := Cp.start w #[.int .i64 next, .slice a n c, .slice la m lc] #[.int .i64 0, .slice none 0 0, .slice none 0 0] #[.int .i64 next, .slice none 0 0, .slice none 0 0]
  have HN : Hid (n * 40 ≤ 140737488355328) := ⟨hn⟩
  have HM : Hid (m * 16 ≤ 140737488355328) := ⟨hm⟩
  have LL := L.below C0.below
  clear hn hm
  go_enter Try.func7, Try.ntmps7
  go_wp2_with (first
    | ((with_reducible show wpList _ _ _ (Oper.mk _ (Op.call { callee := Callee.builtin Builtin.append, args := _, argTypes := #[22, 22] }) _ _ _ _ :: _) _ _); go_must (refine wpList_copy_lst rfl _ _ rfl rfl rfl LL HN.out ?_; intro a1 c1 w1 L1 o1 b1; have C1 := C0.later b1; have ⟨p0, p1, p2⟩ := cel3 C1.one; have ⟨z0, z1, z2⟩ := cel3 C1.two; have ⟨q0, q1, q2⟩ := cel3 C1.three; have f1 := row_free C1.three 1))
    | ((with_reducible show wpList _ _ _ (Oper.mk _ (Op.call { callee := Callee.builtin Builtin.append, args := _, argTypes := #[23, 23] }) _ _ _ _ :: _) _ _); go_must (have C2 := C1.set 1 (.slice a1 n c1); have KK := K.below C2.below; refine wpList_copy_lks rfl _ _ rfl rfl rfl KK HM.out ?_; intro a2 c2 w2 K2 o2 b2; have C3 := C2.later b2; have ⟨r0, r1, r2⟩ := cel3 C3.one; have ⟨s0, s1, s2⟩ := cel3 C3.two; have ⟨t0, t1, t2⟩ := cel3 C3.three; have f2 := row_free C3.three 2; have f3 := row_free C3.two 0; have f4 := row_free C3.two 1; have f5 := row_free C3.two 2)))
  have C4 := (((C3.set 2 (.slice a2 m c2)).out 0 (.int .i64 next)).out 1 (.slice a1 n c1)).out 2 (.slice a2 m c2)
  have far : ∀ g, w.heap.size + 3 ≤ g → g < w2.heap.size → ((((w2.setCell ⟨w.heap.size + 1 + 1, 2, none⟩ (.slice a2 m c2)).setCell ⟨w.heap.size + 1, 0, none⟩ (.int .i64 next)).setCell ⟨w.heap.size + 1, 1, none⟩ (.slice a1 n c1)).setCell ⟨w.heap.size + 1, 2, none⟩ (.slice a2 m c2)).heap[g]? = w2.heap[g]? := fun g h1 h2 =>
    set_far (set_far (set_far (set_far rfl (by omega) _ _) (by omega) _ _) (by omega) _ _) (by omega) _ _
  have hs1 : w1.heap.size ≤ w2.heap.size := by have := b2.size; simpa [World.setCell] using this
  have e1 : ∀ g off, a1 = some ⟨g, off, none⟩ → w.heap.size + 3 ≤ g := fun g off e => by have := o1 g off e; simp at this; omega
  have hsz2 := C2.size
  have e2 : ∀ g off, a2 = some ⟨g, off, none⟩ → w.heap.size + 3 ≤ g := fun g off e => by have := o2 g off e; omega
  refine bodyPost_ret (results_row1 rfl _ _ (w.heap.size + 1) _ rfl (load_25m C4.two)) rfl ⟨a1, c1, a2, c2, rfl, L1.of_block fun g off e => ?_, K2.of_block (by simp [World.setCell]) fun g off e => ?_, fun g off e => by have := e1 g off e; omega, fun g off e => by have := e2 g off e; omega, C4.below⟩
  · have hlt : g < w1.heap.size := by subst e; exact L1.lt
    refine (far g (e1 g off e) (by omega)).trans ((b2.block g (by simpa [World.setCell] using hlt)).trans ?_)
    exact set_far rfl (by have := e1 g off e; omega) _ _
  · refine far g (e2 g off e) ?_
    rcases K2.mem with ⟨e', _⟩ | ⟨g', off', e', hl, _⟩
    · rw [e'] at e; cases e
    · rw [e'] at e; cases e; exact hl
end Go.Proofs.Ytoppecppmjpgiaa
