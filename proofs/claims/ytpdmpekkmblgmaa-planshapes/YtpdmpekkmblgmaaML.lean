/-
  Pairs: rows of them in memory, of one's own or as they came in.
-/
import Derived.Test.YtpdmpekkmblgmaaM0
import Derived.Shelf.Abstract
import Derived.Shelf.RegionOpen
import Derived.OwnWalkIn
import Derived.TacticsInMore
import Derived.LoopNIn
import Derived.LoopIn
import Derived.Sort.LoopGhostIn
import Derived.Scope
import Derived.WalkMore
import Derived.RangeFuncCalls
namespace Go.Proofs.Ytpdmpekkmblgmaa
open Go.ChangeShapes Go.WideShapes Go.ChangeAt Go.RowKit
set_option linter.unusedVariables false
set_option linter.unusedSimpArgs false

/-- A pair of nodes. -/
abbrev LK := Int × Int
def LK.cells (d : LK) : List Value := [.int .i64 d.1, .int .i64 d.2]
def LK.val (d : LK) : Value := .agg #[.int .i64 d.1, .int .i64 d.2]
def LK.z : LK := (0, 0)
theorem cells_oneL (d : LK) : ∀ u ∈ d.cells, u.oneCell' = true := by simp [LK.cells, Value.oneCell']
def csL (ds : List LK) : List Value := ds.flatMap LK.cells
theorem csL_len (ds : List LK) : (csL ds).length = 2 * ds.length := by
  unfold csL
  induction ds with
  | nil => rfl
  | cons d ds ih => rw [List.flatMap_cons, List.length_append, ih, List.length_cons]; show 2 + _ = _; omega
theorem csL_append (a b : List LK) : csL (a ++ b) = csL a ++ csL b := by simp [csL]
theorem csL_snoc (ds : List LK) (d : LK) : csL (ds ++ [d]) = csL ds ++ d.cells := by simp [csL]
theorem csL_one (ds : List LK) : ∀ u ∈ csL ds, u.oneCell' = true := by
  intro u hu
  obtain ⟨d, _, hd⟩ := List.mem_flatMap.1 hu
  exact cells_oneL d u hd
theorem csL_get (ds : List LK) (i j : Nat) (d : LK) (hi : ds[i]? = some d) (hj : j < 2) : (csL ds)[2 * i + j]? = d.cells[j]? := by
  induction ds generalizing i with
  | nil => cases hi
  | cons e ds ih =>
    have hl : e.cells.length = 2 := rfl
    cases i with
    | zero =>
      cases hi
      show (d.cells ++ csL ds)[2 * 0 + j]? = _
      rw [List.getElem?_append_left (by omega)]
      congr 1
      omega
    | succ i =>
      show (e.cells ++ csL ds)[2 * (i + 1) + j]? = _
      rw [List.getElem?_append_right (by omega), hl, show 2 * (i + 1) + j - 2 = 2 * i + j by omega]
      exact ih i (by simpa using hi)
theorem csL_take (ds : List LK) (i : Nat) : csL (ds.take i) = (csL ds).take (2 * i) := by
  induction ds generalizing i with
  | nil => simp [csL]
  | cons d ds ih =>
    cases i with
    | zero => simp [csL]
    | succ i =>
      show d.cells ++ csL (ds.take i) = (d.cells ++ csL ds).take (2 * (i + 1))
      have hl : d.cells.length = 2 := rfl
      rw [ih, List.take_append, List.take_of_length_le (l := d.cells) (by omega), hl]
      congr 2
theorem csL_drop (ds : List LK) (i : Nat) : csL (ds.drop i) = (csL ds).drop (2 * i) := by
  induction ds generalizing i with
  | nil => simp [csL]
  | cons d ds ih =>
    cases i with
    | zero => simp [csL]
    | succ i =>
      show csL (ds.drop i) = (d.cells ++ csL ds).drop (2 * (i + 1))
      have hl : d.cells.length = 2 := rfl
      rw [ih, List.drop_append, List.drop_of_length_le (l := d.cells) (by omega), hl, List.nil_append]
      congr 1
theorem get_zL (ls : List LK) (i : Nat) (hi : i < ls.length) : ls[i]? = some (ls.getD i LK.z) := by rw [List.getD_eq_getElem?_getD, List.getElem?_eq_getElem hi]; rfl
theorem info49 : (Try.prog.info? 49).map (fun i => (i.zero, i.size, i.bytes)) = some (some (LK.val LK.z), 2, 16) := by kernel_rfl
theorem load_49 {w : World} {g : Nat} {d : LK} (h : w.heap[g]? = some (.cells d.cells.toArray 49 (0, 0))) : (loadVar 49 ⟨g, 0, none⟩).run Try.prog w = .ok d.val w :=
  run_loadVar_row (P := Try.prog) w g 49 49 _ (0, 0) _ h Try.underlying49 rfl (by show _ = some 2; kernel_rfl)
/-- Of one's own: the block's cells from the slice's first on. -/
structure LstL (W : World) (a : Option Addr) (n cap : Nat) (ds : List LK) : Prop where
  size : ds.length = n
  le : n ≤ cap
  max : cap ≤ 9223372036854775807
  mem : (a = none ∧ cap = 0) ∨ ∃ g off cur, a = some ⟨g, off, none⟩ ∧ W.heap[g]? = some (.cells cur 49 (0, 0)) ∧ cur.size = off + 2 * cap ∧ (cur.toList.drop off).take (2 * n) = csL ds
/-- As they came in: what a slice leads to. -/
structure RdL (W : World) (a : Option Addr) (n cap : Nat) (ds : List LK) : Prop where
  size : ds.length = n
  le : n ≤ cap
  max : n * 16 ≤ 140737488355328
  mem : (a = none ∧ n = 0 ∧ cap = 0) ∨ (n = 0 ∧ ∃ x, a = some x) ∨ ∃ g off, a = some ⟨g, off, none⟩ ∧ g < W.heap.size ∧ W.rangeAt g off (csL ds)
theorem lstL_nil (W : World) : LstL W none 0 0 [] := ⟨rfl, Nat.le_refl _, by omega, .inl ⟨rfl, rfl⟩⟩
theorem rdL_nil (W : World) : RdL W none 0 0 [] := ⟨rfl, Nat.le_refl _, by omega, .inl ⟨rfl, rfl, rfl⟩⟩
theorem LstL.of_block {W W' : World} {a : Option Addr} {n cap : Nat} {ds : List LK} (h : LstL W a n cap ds) (hb : ∀ g off, a = some ⟨g, off, none⟩ → W'.heap[g]? = W.heap[g]?) : LstL W' a n cap ds :=
  ⟨h.size, h.le, h.max, h.mem.imp id fun ⟨g, off, cur, e, hh, r⟩ => ⟨g, off, cur, e, (hb g off e).trans hh, r⟩⟩
theorem LstL.lt {W : World} {g off n cap : Nat} {ds : List LK} (h : LstL W (some ⟨g, off, none⟩) n cap ds) : g < W.heap.size := by
  rcases h.mem with ⟨e, _⟩ | ⟨g', off', cur, e, hh, _⟩
  · cases e
  · cases e; exact row_lt hh
theorem LstL.lt' {W : World} {a : Option Addr} {g off n cap : Nat} {ds : List LK} (h : LstL W a n cap ds) (e : a = some ⟨g, off, none⟩) : g < W.heap.size := by subst e; exact h.lt
theorem LstL.below {W W' : World} {a : Option Addr} {n cap : Nat} {ds : List LK} (h : LstL W a n cap ds) (hb : Below W.heap.size W W') : LstL W' a n cap ds :=
  h.of_block fun g off e => by subst e; exact hb.block g h.lt
theorem LstL.ne_cells {W : World} {g off n cap q : Nat} {ds : List LK} {cs : Array Value} {t : TypeId} (h : LstL W (some ⟨g, off, none⟩) n cap ds) (hq : W.heap[q]? = some (.cells cs t (0, 0))) (ht : t ≠ 49) : g ≠ q := by
  rintro rfl
  rcases h.mem with ⟨e, _⟩ | ⟨g', off', cur, e, hh, _⟩
  · cases e
  · cases e
    rw [hh] at hq
    cases hq
    exact ht rfl
theorem LstL.range {W : World} {g off n cap : Nat} {ds : List LK} (L : LstL W (some ⟨g, off, none⟩) n cap ds) (i : Nat) (hi : i ≤ n) : W.rangeAt g (off + i * 2) (csL (ds.drop i)) := by
  intro j v hv
  rcases L.mem with ⟨e, _⟩ | ⟨g', off', cur, e, hh, hc, ht⟩
  · cases e
  · cases e
    refine row_cell hh _ _ ?_
    have hlen := csL_len (ds.drop i)
    rw [List.length_drop, L.size] at hlen
    have hj : j < 2 * (n - i) := by rw [← hlen]; exact (List.getElem?_eq_some_iff.1 hv).1
    rw [csL_drop, ← ht, List.getElem?_drop, List.getElem?_take, if_pos (by omega), List.getElem?_drop, Array.getElem?_toList] at hv
    rw [← hv]
    congr 1
    omega
theorem LstL.rd {W : World} {a : Option Addr} {n cap : Nat} {ds : List LK} (h : LstL W a n cap ds) (hn : n * 16 ≤ 140737488355328) : RdL W a n cap ds := by
  refine ⟨h.size, h.le, hn, ?_⟩
  rcases h.mem with ⟨rfl, rfl⟩ | ⟨g, off, cur, rfl, hh, hc, ht⟩
  · exact .inl ⟨rfl, by have := h.le; omega, rfl⟩
  · have := h.range 0 (Nat.zero_le _)
    simp at this
    exact .inr (.inr ⟨g, off, rfl, row_lt hh, this⟩)
theorem RdL.below {W W' : World} {a : Option Addr} {n cap : Nat} {ds : List LK} (h : RdL W a n cap ds) (hb : Below W.heap.size W W') : RdL W' a n cap ds := by
  refine ⟨h.size, h.le, h.max, ?_⟩
  rcases h.mem with x | x | ⟨g, off, rfl, hg, hr⟩
  · exact .inl x
  · exact .inr (.inl x)
  · exact .inr (.inr ⟨g, off, rfl, Nat.lt_of_lt_of_le hg hb.size, range_later hr hg hb⟩)
theorem RdL.same {W W' : World} {N : Nat} {C : Nat → Prop} {w : World} {a : Option Addr} {n cap : Nat} {ds : List LK} (h : RdL w a n cap ds) (hb : Below w.heap.size w W) (s : Same N C W W') (hN : w.heap.size ≤ N) : RdL W' a n cap ds := h.below (Below.same hb s hN (Nat.le_refl _))
theorem RdL.at {W : World} {a : Option Addr} {n cap : Nat} {ds : List LK} (L : RdL W a n cap ds) (i : Nat) (hi : i < n) : ∃ g off, a = some ⟨g, off, none⟩ ∧ g < W.heap.size ∧ ds[i]? = some (ds.getD i LK.z) ∧ W.rangeAt g (off + i * 2) (ds.getD i LK.z).cells := by
  have hs := L.size
  have hd : ds[i]? = some (ds.getD i LK.z) := get_zL ds i (by omega)
  rcases L.mem with ⟨_, h0, _⟩ | ⟨h0, _⟩ | ⟨g, off, rfl, hg, hr⟩
  · omega
  · omega
  · refine ⟨g, off, rfl, hg, hd, fun j v hv => ?_⟩
    have hj : j < 2 := (List.getElem?_eq_some_iff.1 hv).1
    have e := csL_get ds i j _ hd hj
    have := hr (2 * i + j) v (e.trans hv)
    rw [show off + i * 2 + j = off + (2 * i + j) by omega]
    exact this
theorem RdL.small {W : World} {a : Option Addr} {n cap : Nat} {ds : List LK} (L : RdL W a n cap ds) : n ≤ 140737488355328 := by have := L.max; omega
theorem own_lstL {W : World} {base : Nat} {v : Value} {n : Nat} {ds : List LK} (h : W.ownsRow base 49 2 v n (csL ds)) (hn : ds.length = n) : ∃ a cap, v = .slice a n cap ∧ LstL W a n cap ds ∧ (∀ g off, a = some ⟨g, off, none⟩ → base ≤ g) := by
  rcases h.2 with ⟨rfl, h0⟩ | ⟨g, cap, cur, rfl, hg, hh, hnc, hc, hcs, ht⟩
  · subst h0
    exact ⟨none, 0, rfl, ⟨hn, Nat.le_refl _, by omega, .inl ⟨rfl, rfl⟩⟩, fun g off e => by cases e⟩
  · refine ⟨_, cap, rfl, ⟨hn, hnc, by unfold maxLen at hc; omega, .inr ⟨g, 0, cur, rfl, hh, by omega, ?_⟩⟩, fun g' off e => by cases e; exact hg⟩
    rw [List.drop_zero, ← ht]
    congr 1
    omega
/-- append(list, d). -/
theorem run_append_lstL {W : World} {a : Option Addr} {n cap s : Nat} {ds : List LK} {d : LK} (ty : TypeId) (L : LstL W a n cap ds) (hs : W.rangeAt s 0 d.cells) (hn : n ≤ 65536) :
    ∃ v' w', (Builtin.append_ #[23, 23] ty #[.slice a n cap, .slice (some ⟨s, 0, none⟩) 1 1]).run Try.prog W = .ok v' w' ∧ (∃ a' cap', v' = .slice a' (n + 1) cap' ∧ LstL w' a' (n + 1) cap' (ds ++ [d]) ∧ (∀ g off, a' = some ⟨g, off, none⟩ → (∃ o, a = some ⟨g, o, none⟩) ∨ W.heap.size ≤ g)) ∧ Only (atL a) W w' := by
  obtain ⟨i0, hi, hz0, hz1, hz2⟩ := info_parts info49
  have hnews : ∀ j u, d.cells[j]? = some u → W.cell? ((⟨s, 0, none⟩ : Addr).add j) = some u := fun j u hj => by rw [add_plain]; exact hs j u hj
  have hdl := csL_len ds
  have hsz := L.size
  have grown : ∀ w', W.grownBy w' none → Only (atL a) W w' := fun w' g => ⟨g.os, g.tape, g.output, g.size, fun q hq _ => g.block q hq (by simp)⟩
  rcases L.mem with ⟨rfl, rfl⟩ | ⟨g, off, cur, rfl, hh, hcs, htk⟩
  · have h0 : n = 0 := by have := L.le; omega
    subst h0
    have e : ds = [] := List.eq_nil_of_length_eq_zero hsz
    subst e
    obtain ⟨v', w', hrun, r1, r2, _⟩ := run_append_own (P := Try.prog) W W.heap.size 23 ty 49 i0 _ 2 16 Try.underlying23 hi hz0 hz1 hz2 rfl (by decide) (.slice none 0 0) 0 [] (World.ownsRow_nil W _ 49 2) ⟨s, 0, none⟩ 1 1 d.cells rfl hnews (cells_oneL d) (by unfold maxLen; omega) (by omega) (Nat.le_refl _)
    obtain ⟨a', cap', rfl, L', hb⟩ := own_lstL (ds := [d]) (by simpa [csL] using r1) rfl
    exact ⟨_, w', hrun, ⟨a', cap', rfl, L', fun g off e => .inr (hb g off e)⟩, grown _ r2⟩
  · by_cases hr : n + 1 ≤ cap
    · have hfc := run_firstCells_some (P := Try.prog) W i0.size 1 ⟨s, 0, none⟩ 1 1 d.cells (by rw [hz1]; rfl) hnews
      have hst := run_storeCells_at Try.prog g (off + n * 2) 49 d.cells 0 cur W hh (by rw [hcs]; show off + n * 2 + 0 + 2 ≤ _; omega) (cells_oneL d)
      simp only [Nat.add_zero] at hst
      obtain ⟨cur', hcur'⟩ : ∃ cur', (cur.toList.take (off + n * 2) ++ d.cells ++ cur.toList.drop (off + n * 2 + d.cells.length)).toArray = cur' := ⟨_, rfl⟩
      rw [hcur'] at hst
      refine ⟨.slice (some ⟨g, off, none⟩) (n + 1) cap, W.setRow g cur', ?_, ⟨_, cap, rfl, ⟨by simp; omega, hr, L.max, .inr ⟨g, off, cur', rfl, setRow_heap _ _ _ _ _ _ hh, ?_, ?_⟩⟩, fun g' off' e => by cases e; exact .inl ⟨off, rfl⟩⟩, Only.setRow (C := atL _) (Only.refl _ _) (fun _ => ⟨off, rfl⟩) _⟩
      · rw [hz1] at hfc
        simp [Builtin.append_, run_underlying Try.underlying23, sizeOf, typeInfo, hi, hz1, Builtin.lenOf, hr, hfc, Addr.add_lit, hst]
      · rw [← hcur']
        have hl : d.cells.length = 2 := rfl
        simp only [List.size_toArray, List.length_append, List.length_take, List.length_drop, Array.length_toList, hl]
        omega
      · rw [← hcur', csL_snoc, ← htk]
        have e1 : off + n * 2 = off + 2 * n := by omega
        have e2 : 2 * (n + 1) = 2 * n + d.cells.length := rfl
        rw [e1, e2]
        exact put_row _ _ _ _ _ (by rw [Array.length_toList, hcs]; omega)
    · obtain ⟨v', w', hrun, r1, r2⟩ := run_append_arg_grows (P := Try.prog) W 23 ty 49 i0 _ 2 16 Try.underlying23 hi hz0 hz1 hz2 rfl (by decide) ⟨g, off, none⟩ n cap (csL ds) (by rw [hdl, hsz]; omega) (fun j u hj => by
          rw [add_plain]
          refine row_cell hh _ _ ?_
          rw [← htk, List.getElem?_take, List.getElem?_drop] at hj
          split at hj
          · simpa using hj
          · cases hj) ⟨s, 0, none⟩ 1 1 d.cells rfl hnews (by omega) (by unfold maxLen; omega) (by omega)
      rw [← csL_snoc] at r1
      obtain ⟨a', cap', rfl, L', hb⟩ := own_lstL r1 (by simp; omega)
      exact ⟨_, w', hrun, ⟨a', cap', rfl, L', fun g off e => .inr (hb g off e)⟩, grown _ r2⟩
/-- Written over, from place i on. -/
theorem LstL.over {W : World} {g off n cap : Nat} {ds : List LK} (L : LstL W (some ⟨g, off, none⟩) n cap ds) (i : Nat) (es : List LK) (hi : i + es.length ≤ n) :
    ∃ cur', (storeCells ⟨g, off + i * 2, none⟩ (csL es)).run Try.prog W = .ok () (W.setRow g cur') ∧ LstL (W.setRow g cur') (some ⟨g, off, none⟩) n cap (ds.take i ++ es ++ ds.drop (i + es.length)) := by
  rcases L.mem with ⟨e, _⟩ | ⟨g', off', cur, e, hh, hc, ht⟩
  · cases e
  · cases e
    have hel := csL_len es
    have hle := L.le
    have hst := run_storeCells_at Try.prog g (off + i * 2) 49 (csL es) 0 cur W hh (by rw [hel, hc]; omega) (csL_one es)
    simp only [Nat.add_zero] at hst
    refine ⟨_, hst, ?_, hle, L.max, .inr ⟨g, off, _, rfl, setRow_heap _ _ _ _ _ _ hh, ?_, ?_⟩⟩
    · rw [List.length_append, List.length_append, List.length_take, List.length_drop, L.size]; omega
    · rw [List.size_toArray, List.length_append, List.length_append, List.length_take, List.length_drop, Array.length_toList, hel]; omega
    · have e1 : off + i * 2 = off + 2 * i := by omega
      show ((_ : List Value).drop off).take (2 * n) = _
      rw [e1, over_row cur.toList off (2 * n) (2 * i) (csL es) (by rw [Array.length_toList, hc]; omega) (by rw [hel]; omega), ht, csL_append, csL_append, csL_take, csL_drop, hel, ← Nat.mul_add]
theorem LstL.short {W : World} {a : Option Addr} {n cap : Nat} {ds : List LK} (L : LstL W a n cap ds) (k : Nat) (hk : k ≤ n) : LstL W a k cap (ds.take k) := by
  have hs := L.size
  refine ⟨by rw [List.length_take]; omega, Nat.le_trans hk L.le, L.max, L.mem.imp id ?_⟩
  rintro ⟨g, off, cur, e, hh, hc, ht⟩
  refine ⟨g, off, cur, e, hh, hc, ?_⟩
  rw [csL_take, ← ht, List.take_take, Nat.min_eq_left (by omega)]
/-- The room behind a list, with whatever lies there, as part of it. -/
theorem LstL.long {W : World} {g off n cap : Nat} {ds : List LK} (L : LstL W (some ⟨g, off, none⟩) n cap ds) (hr : n + 1 ≤ cap) (d : LK) : ∃ cur', (storeCells ⟨g, off + n * 2, none⟩ d.cells).run Try.prog W = .ok () (W.setRow g cur') ∧ LstL (W.setRow g cur') (some ⟨g, off, none⟩) (n + 1) cap (ds ++ [d]) := by
  rcases L.mem with ⟨e, _⟩ | ⟨g', off', cur, e, hh, hcs, htk⟩
  · cases e
  · cases e
    have hsz := L.size
    have hst := run_storeCells_at Try.prog g (off + n * 2) 49 d.cells 0 cur W hh (by rw [hcs]; show off + n * 2 + 0 + 2 ≤ _; omega) (cells_oneL d)
    simp only [Nat.add_zero] at hst
    refine ⟨_, hst, ⟨by simp; omega, hr, L.max, .inr ⟨g, off, _, rfl, setRow_heap _ _ _ _ _ _ hh, ?_, ?_⟩⟩⟩
    · have hl : d.cells.length = 2 := rfl
      simp only [List.size_toArray, List.length_append, List.length_take, List.length_drop, Array.length_toList, hl]
      omega
    · rw [csL_snoc, ← htk]
      have e1 : off + n * 2 = off + 2 * n := by omega
      have e2 : 2 * (n + 1) = 2 * n + d.cells.length := rfl
      show ((_ : List Value).drop off).take (2 * (n + 1)) = _
      rw [e1, e2]
      exact put_row _ _ _ _ _ (by rw [Array.length_toList, hcs]; omega)
theorem zero49 (w : World) : (zeroValue 49).run Try.prog w = .ok (LK.val LK.z) w := by kernel_rfl
/-- append(nil, list...). -/
theorem run_copy_lstL {W : World} {a : Option Addr} {n cap : Nat} {ds : List LK} (ty : TypeId) (L : RdL W a n cap ds) :
    ∃ a' cap' w', (Builtin.append_ #[23, 23] ty #[.slice none 0 0, .slice a n cap]).run Try.prog W = .ok (.slice a' n cap') w' ∧ LstL w' a' n cap' ds ∧ (∀ g off, a' = some ⟨g, off, none⟩ → W.heap.size ≤ g) ∧ Below W.heap.size W w' := by
  obtain ⟨i0, hi, hz0, hz1, hz2⟩ := info_parts info49
  have hmx := L.max
  have go : ∀ x : Addr, a = some x → (∀ j u, (csL ds)[j]? = some u → W.cell? (x.add j) = some u) → ∃ a' cap' w', (Builtin.append_ #[23, 23] ty #[.slice none 0 0, .slice a n cap]).run Try.prog W = .ok (.slice a' n cap') w' ∧ LstL w' a' n cap' ds ∧ (∀ g off, a' = some ⟨g, off, none⟩ → W.heap.size ≤ g) ∧ Below W.heap.size W w' := by
    rintro x rfl hc
    obtain ⟨v', w', hrun, r1, r2, _⟩ := run_append_own (P := Try.prog) W W.heap.size 23 ty 49 i0 _ 2 16 Try.underlying23 hi hz0 hz1 hz2 rfl (by decide) (.slice none 0 0) 0 [] (World.ownsRow_nil W _ 49 2) x n cap (csL ds) (by rw [csL_len, L.size]; omega) hc (csL_one ds) (by unfold maxLen; omega) (by omega) (Nat.le_refl _)
    rw [Nat.zero_add, List.nil_append] at r1
    obtain ⟨a', cap', rfl, L', hb⟩ := own_lstL r1 L.size
    exact ⟨a', cap', w', hrun, L', hb, ⟨r2.os, r2.tape, r2.output, r2.size, fun q hq => r2.block q hq (by simp [Value.ownBlock])⟩⟩
  rcases L.mem with ⟨rfl, rfl, rfl⟩ | ⟨rfl, x, rfl⟩ | ⟨g, off, rfl, hg, hr⟩
  · have e := List.eq_nil_of_length_eq_zero L.size
    subst e
    exact ⟨none, 0, W, run_append_owned_none (P := Try.prog) (w := W) W.heap.size 23 ty 49 i0 2 Try.underlying23 hi _ 0 [] (World.ownsRow_nil W _ 49 2), lstL_nil _, fun g off e => (by cases e), Below.refl _ _⟩
  · have e := List.eq_nil_of_length_eq_zero L.size
    subst e
    exact go x rfl (fun j u hu => by cases hu)
  · exact go ⟨g, off, none⟩ rfl (fun j u hu => by rw [add_plain]; exact hr j u hu)
/-- append(own, stretch...). -/
theorem run_more_lstL {W : World} {base k : Nat} {v : Value} {es : List LK} {x : Addr} {n c : Nat} {ds : List LK} (ty : TypeId) (hown : W.ownsRow base 49 2 v k (csL es)) (hl : ds.length = n) (hc : ∀ j u, (csL ds)[j]? = some u → W.cell? (x.add j) = some u) (hn : ((k + n) + (k + n) / 4 + 192) * 16 ≤ 281474976710656) (hb : base ≤ W.heap.size) :
    ∃ v' w', (Builtin.append_ #[23, 23] ty #[v, .slice (some x) n c]).run Try.prog W = .ok v' w' ∧ w'.ownsRow base 49 2 v' (k + n) (csL (es ++ ds)) ∧ W.grownBy w' v.ownBlock ∧ Below base W w' := by
  obtain ⟨i0, hi, hz0, hz1, hz2⟩ := info_parts info49
  obtain ⟨v', w', hrun, r1, r2, _⟩ := run_append_own_wide (P := Try.prog) W base 23 ty 49 i0 _ 2 16 Try.underlying23 hi hz0 hz1 hz2 rfl (by decide) v k (csL es) hown x n c (csL ds) (by rw [csL_len, hl]; omega) hc (csL_one ds) (by unfold maxLen; omega) hn hb
  rw [← csL_append] at r1
  exact ⟨v', w', hrun, r1, r2, (Below.refl _ _).grown r2 hb (fun q hq => (World.ownsRow.lt hown q hq).1)⟩
section
variable {ops : Array Oper} {rest : List Oper} {o : Oper} {A : Act} {W : World} {Q : Exit → Act → World → Prop} {K : Act → World → Prop}
theorem wp_copy_lstL (s x : Operand) (ho : o.op = .call { callee := .builtin .append, args := #[s, x], argTypes := #[23, 23] }) {a : Option Addr} {n cap : Nat} {ds : List LK}
    (hs : A.eval s = .slice none 0 0) (hx : A.eval x = .slice a n cap) (L : RdL W a n cap ds)
    (h : ∀ a' cap' w', LstL w' a' n cap' ds → (∀ g off, a' = some ⟨g, off, none⟩ → W.heap.size ≤ g) → Below W.heap.size W w' → K (A.put o.dst (.slice a' n cap')) w') : o.wp Try.prog A W K Q := by
  obtain ⟨a', cap', w', hrun, L', hb, hB⟩ := run_copy_lstL o.type L
  unfold Oper.wp
  simp [execOp, ho, resolve, invoke, builtin, hs, hx, hrun, Result.andThen]
  exact h a' cap' w' L' hb hB
theorem wpList_copy_lstL (hgd : o.guard = none) (s x : Operand) (ho : o.op = .call { callee := .builtin .append, args := #[s, x], argTypes := #[23, 23] }) {a : Option Addr} {n cap : Nat} {ds : List LK}
    (hs : A.eval s = .slice none 0 0) (hx : A.eval x = .slice a n cap) (L : RdL W a n cap ds)
    (h : ∀ a' cap' w', LstL w' a' n cap' ds → (∀ g off, a' = some ⟨g, off, none⟩ → W.heap.size ≤ g) → Below W.heap.size W w' → wpList Try.prog ops Q rest (A.put o.dst (.slice a' n cap')) w') : wpList Try.prog ops Q (o :: rest) A W :=
  wpList_plain hgd fun _ hK => wp_copy_lstL s x ho hs hx L fun a' cap' w' h1 h2 h3 => hK _ _ (h a' cap' w' h1 h2 h3)
theorem wp_more_lstL (s x : Operand) (ho : o.op = .call { callee := .builtin .append, args := #[s, x], argTypes := #[23, 23] }) {base k : Nat} {v : Value} {es : List LK} {ad : Addr} {n c : Nat} {ds : List LK}
    (hs : A.eval s = v) (hx : A.eval x = .slice (some ad) n c) (hown : W.ownsRow base 49 2 v k (csL es)) (hl : ds.length = n) (hc : ∀ j u, (csL ds)[j]? = some u → W.cell? (ad.add j) = some u) (hn : ((k + n) + (k + n) / 4 + 192) * 16 ≤ 281474976710656) (hb : base ≤ W.heap.size)
    (h : ∀ v' w', w'.ownsRow base 49 2 v' (k + n) (csL (es ++ ds)) → W.grownBy w' v.ownBlock → Below base W w' → K (A.put o.dst v') w') : o.wp Try.prog A W K Q := by
  obtain ⟨v', w', hrun, r1, r2, r3⟩ := run_more_lstL (c := c) o.type hown hl hc hn hb
  unfold Oper.wp
  simp [execOp, ho, resolve, invoke, builtin, hs, hx, hrun, Result.andThen]
  exact h v' w' r1 r2 r3
theorem wpList_more_lstL (hgd : o.guard = none) (s x : Operand) (ho : o.op = .call { callee := .builtin .append, args := #[s, x], argTypes := #[23, 23] }) {base k : Nat} {v : Value} {es : List LK} {ad : Addr} {n c : Nat} {ds : List LK}
    (hs : A.eval s = v) (hx : A.eval x = .slice (some ad) n c) (hown : W.ownsRow base 49 2 v k (csL es)) (hl : ds.length = n) (hc : ∀ j u, (csL ds)[j]? = some u → W.cell? (ad.add j) = some u) (hn : ((k + n) + (k + n) / 4 + 192) * 16 ≤ 281474976710656) (hb : base ≤ W.heap.size)
    (h : ∀ v' w', w'.ownsRow base 49 2 v' (k + n) (csL (es ++ ds)) → W.grownBy w' v.ownBlock → Below base W w' → wpList Try.prog ops Q rest (A.put o.dst v') w') : wpList Try.prog ops Q (o :: rest) A W :=
  wpList_plain hgd fun _ hK => wp_more_lstL s x ho hs hx hown hl hc hn hb fun v' w' h1 h2 h3 => hK _ _ (h v' w' h1 h2 h3)
theorem wpList_load49 (hgd : o.guard = none) (x : Operand) (ho : o.op = .load 49 x) (g off : Nat) (d : LK) (hx : A.eval x = .pointer (some ⟨g, off, none⟩)) (hc : W.rangeAt g off d.cells)
    (h : wpList Try.prog ops Q rest (A.put o.dst d.val) W) : wpList Try.prog ops Q (o :: rest) A W := by
  refine wpList_plain hgd fun K hK => ?_
  unfold Oper.wp
  simp only [execOp, ho, hx, Instr.loadAt, Instr.sureAddr, Sem.run_bind, Sem.run_pure, Result.andThen_ok, run_loadVar_mid W g off 49 d.cells _ hc Try.underlying49 rfl (by show _ = some 2; kernel_rfl)]
  exact hK _ _ h
theorem exec_load49 {ρ : Operand → Value} {x : Operand} (ho : o.op = .load 49 x) (g off : Nat) (d : LK) (hx : ρ x = .pointer (some ⟨g, off, none⟩)) (hc : W.rangeAt g off d.cells) : (execOp ρ o).run Try.prog W = .ok (.value d.val) W := by
  simp only [execOp, ho, hx, Instr.loadAt, Instr.sureAddr, Sem.run_bind, Sem.run_pure, Result.andThen_ok, run_loadVar_mid W g off 49 d.cells _ hc Try.underlying49 rfl (by show _ = some 2; kernel_rfl)]
  rfl
theorem wpListIn_load49 {F : Fence} {n : Nat} (hgd : o.guard = none) (x : Operand) (ho : o.op = .load 49 x) (g off : Nat) (d : LK) (hx : A.eval x = .pointer (some ⟨g, off, none⟩)) (hc : W.rangeAt g off d.cells)
    (h : wpListIn F n Try.prog ops Q rest (A.put o.dst d.val) W) : wpListIn F n Try.prog ops Q (o :: rest) A W := by
  refine wpListIn_plain hgd fun K hK => ?_
  unfold Oper.wpIn
  refine ⟨?_, ?_⟩
  · simp [Oper.about, ho]
  · rw [Oper.semAt_plain F _ _ (by rw [ho]; intro c hc'; cases hc')]
    simp only [execOp, ho, hx, Instr.loadAt, Instr.sureAddr, Sem.run_bind, Sem.run_pure, Result.andThen_ok, run_loadVar_mid W g off 49 d.cells _ hc Try.underlying49 rfl (by show _ = some 2; kernel_rfl)]
    exact hK _ _ h
end
theorem range_rowL {W : World} {g : Nat} {d : LK} (h : W.heap[g]? = some (.cells d.cells.toArray 49 (0, 0))) : W.rangeAt g 0 d.cells := fun j v hv => by
  rw [Nat.zero_add]
  exact row_cell h j v (by simpa using hv)
end Go.Proofs.Ytpdmpekkmblgmaa
