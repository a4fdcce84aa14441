/-
  Steps: rows of them in memory, of one's own or as they came in.
-/
import Derived.Test.YtpdmpekkmblgmaaM0
import Derived.Shelf.Abstract
import Derived.Shelf.RegionOpen
import Derived.OwnWalkIn
import Derived.TacticsInMore
import Derived.LoopNIn
import Derived.LoopIn
import Derived.Sort.LoopGhostIn
import Derived.Scope
import Derived.WalkMore
import Derived.RangeFuncCalls
namespace Go.Proofs.Ytpdmpekkmblgmaa
open Go.ChangeShapes Go.WideShapes Go.ChangeAt Go.RowKit
set_option linter.unusedVariables false
set_option linter.unusedSimpArgs false

/-- A step of a script. -/
structure SP where
  kd : Int
  a : Int
  b : Int
  nm : ByteArray
  k : Int
  n : Int
def SP.cells (d : SP) : List Value := [.int .i64 d.kd, .int .i64 d.a, .int .i64 d.b, .string d.nm, .int .i64 d.k, .int .i64 d.n]
def SP.val (d : SP) : Value := .agg #[.int .i64 d.kd, .int .i64 d.a, .int .i64 d.b, .string d.nm, .int .i64 d.k, .int .i64 d.n]
def SP.z : SP := ⟨0, 0, 0, ByteArray.empty, 0, 0⟩
theorem cells_oneS (d : SP) : ∀ u ∈ d.cells, u.oneCell' = true := by simp [SP.cells, Value.oneCell']
def csS (ds : List SP) : List Value := ds.flatMap SP.cells
theorem csS_len (ds : List SP) : (csS ds).length = 6 * ds.length := by
  unfold csS
  induction ds with
  | nil => rfl
  | cons d ds ih => rw [List.flatMap_cons, List.length_append, ih, List.length_cons]; show 6 + _ = _; omega
theorem csS_append (a b : List SP) : csS (a ++ b) = csS a ++ csS b := by simp [csS]
theorem csS_snoc (ds : List SP) (d : SP) : csS (ds ++ [d]) = csS ds ++ d.cells := by simp [csS]
theorem csS_one (ds : List SP) : ∀ u ∈ csS ds, u.oneCell' = true := by
  intro u hu
  obtain ⟨d, _, hd⟩ := List.mem_flatMap.1 hu
  exact cells_oneS d u hd
theorem csS_get (ds : List SP) (i j : Nat) (d : SP) (hi : ds[i]? = some d) (hj : j < 6) : (csS ds)[6 * i + j]? = d.cells[j]? := by
  induction ds generalizing i with
  | nil => cases hi
  | cons e ds ih =>
    have hl : e.cells.length = 6 := rfl
    cases i with
    | zero =>
      cases hi
      show (d.cells ++ csS ds)[6 * 0 + j]? = _
      rw [List.getElem?_append_left (by omega)]
      congr 1
      omega
    | succ i =>
      show (e.cells ++ csS ds)[6 * (i + 1) + j]? = _
      rw [List.getElem?_append_right (by omega), hl, show 6 * (i + 1) + j - 6 = 6 * i + j by omega]
      exact ih i (by simpa using hi)
theorem csS_take (ds : List SP) (i : Nat) : csS (ds.take i) = (csS ds).take (6 * i) := by
  induction ds generalizing i with
  | nil => simp [csS]
  | cons d ds ih =>
    cases i with
    | zero => simp [csS]
    | succ i =>
      show d.cells ++ csS (ds.take i) = (d.cells ++ csS ds).take (6 * (i + 1))
      have hl : d.cells.length = 6 := rfl
      rw [ih, List.take_append, List.take_of_length_le (l := d.cells) (by omega), hl]
      congr 2
theorem csS_drop (ds : List SP) (i : Nat) : csS (ds.drop i) = (csS ds).drop (6 * i) := by
  induction ds generalizing i with
  | nil => simp [csS]
  | cons d ds ih =>
    cases i with
    | zero => simp [csS]
    | succ i =>
      show csS (ds.drop i) = (d.cells ++ csS ds).drop (6 * (i + 1))
      have hl : d.cells.length = 6 := rfl
      rw [ih, List.drop_append, List.drop_of_length_le (l := d.cells) (by omega), hl, List.nil_append]
      congr 1
theorem get_zS (ls : List SP) (i : Nat) (hi : i < ls.length) : ls[i]? = some (ls.getD i SP.z) := by rw [List.getD_eq_getElem?_getD, List.getElem?_eq_getElem hi]; rfl
theorem info74 : (Try.prog.info? 74).map (fun i => (i.zero, i.size, i.bytes)) = some (some (SP.val SP.z), 6, 56) := by kernel_rfl
theorem load_74 {w : World} {g : Nat} {d : SP} (h : w.heap[g]? = some (.cells d.cells.toArray 74 (0, 0))) : (loadVar 74 ⟨g, 0, none⟩).run Try.prog w = .ok d.val w :=
  run_loadVar_row (P := Try.prog) w g 74 74 _ (0, 0) _ h Try.underlying74 rfl (by show _ = some 6; kernel_rfl)
/-- Of one's own: the block's cells from the slice's first on. -/
structure LstS (W : World) (a : Option Addr) (n cap : Nat) (ds : List SP) : Prop where
  size : ds.length = n
  le : n ≤ cap
  max : cap ≤ 9223372036854775807
  mem : (a = none ∧ cap = 0) ∨ ∃ g off cur, a = some ⟨g, off, none⟩ ∧ W.heap[g]? = some (.cells cur 74 (0, 0)) ∧ cur.size = off + 6 * cap ∧ (cur.toList.drop off).take (6 * n) = csS ds
/-- As they came in: what a slice leads to. -/
structure RdS (W : World) (a : Option Addr) (n cap : Nat) (ds : List SP) : Prop where
  size : ds.length = n
  le : n ≤ cap
  max : n * 56 ≤ 140737488355328
  mem : (a = none ∧ n = 0 ∧ cap = 0) ∨ (n = 0 ∧ ∃ x, a = some x) ∨ ∃ g off, a = some ⟨g, off, none⟩ ∧ g < W.heap.size ∧ W.rangeAt g off (csS ds)
theorem lstS_nil (W : World) : LstS W none 0 0 [] := ⟨rfl, Nat.le_refl _, by omega, .inl ⟨rfl, rfl⟩⟩
theorem rdS_nil (W : World) : RdS W none 0 0 [] := ⟨rfl, Nat.le_refl _, by omega, .inl ⟨rfl, rfl, rfl⟩⟩
theorem LstS.of_block {W W' : World} {a : Option Addr} {n cap : Nat} {ds : List SP} (h : LstS W a n cap ds) (hb : ∀ g off, a = some ⟨g, off, none⟩ → W'.heap[g]? = W.heap[g]?) : LstS W' a n cap ds :=
  ⟨h.size, h.le, h.max, h.mem.imp id fun ⟨g, off, cur, e, hh, r⟩ => ⟨g, off, cur, e, (hb g off e).trans hh, r⟩⟩
theorem LstS.lt {W : World} {g off n cap : Nat} {ds : List SP} (h : LstS W (some ⟨g, off, none⟩) n cap ds) : g < W.heap.size := by
  rcases h.mem with ⟨e, _⟩ | ⟨g', off', cur, e, hh, _⟩
  · cases e
  · cases e; exact row_lt hh
theorem LstS.lt' {W : World} {a : Option Addr} {g off n cap : Nat} {ds : List SP} (h : LstS W a n cap ds) (e : a = some ⟨g, off, none⟩) : g < W.heap.size := by subst e; exact h.lt
theorem LstS.below {W W' : World} {a : Option Addr} {n cap : Nat} {ds : List SP} (h : LstS W a n cap ds) (hb : Below W.heap.size W W') : LstS W' a n cap ds :=
  h.of_block fun g off e => by subst e; exact hb.block g h.lt
theorem LstS.ne_cells {W : World} {g off n cap q : Nat} {ds : List SP} {cs : Array Value} {t : TypeId} (h : LstS W (some ⟨g, off, none⟩) n cap ds) (hq : W.heap[q]? = some (.cells cs t (0, 0))) (ht : t ≠ 74) : g ≠ q := by
  rintro rfl
  rcases h.mem with ⟨e, _⟩ | ⟨g', off', cur, e, hh, _⟩
  · cases e
  · cases e
    rw [hh] at hq
    cases hq
    exact ht rfl
theorem LstS.range {W : World} {g off n cap : Nat} {ds : List SP} (L : LstS W (some ⟨g, off, none⟩) n cap ds) (i : Nat) (hi : i ≤ n) : W.rangeAt g (off + i * 6) (csS (ds.drop i)) := by
  intro j v hv
  rcases L.mem with ⟨e, _⟩ | ⟨g', off', cur, e, hh, hc, ht⟩
  · cases e
  · cases e
    refine row_cell hh _ _ ?_
    have hlen := csS_len (ds.drop i)
    rw [List.length_drop, L.size] at hlen
    have hj : j < 6 * (n - i) := by rw [← hlen]; exact (List.getElem?_eq_some_iff.1 hv).1
    rw [csS_drop, ← ht, List.getElem?_drop, List.getElem?_take, if_pos (by omega), List.getElem?_drop, Array.getElem?_toList] at hv
    rw [← hv]
    congr 1
    omega
theorem LstS.rd {W : World} {a : Option Addr} {n cap : Nat} {ds : List SP} (h : LstS W a n cap ds) (hn : n * 56 ≤ 140737488355328) : RdS W a n cap ds := by
  refine ⟨h.size, h.le, hn, ?_⟩
  rcases h.mem with ⟨rfl, rfl⟩ | ⟨g, off, cur, rfl, hh, hc, ht⟩
  · exact .inl ⟨rfl, by have := h.le; omega, rfl⟩
  · have := h.range 0 (Nat.zero_le _)
    simp at this
    exact .inr (.inr ⟨g, off, rfl, row_lt hh, this⟩)
theorem RdS.below {W W' : World} {a : Option Addr} {n cap : Nat} {ds : List SP} (h : RdS W a n cap ds) (hb : Below W.heap.size W W') : RdS W' a n cap ds := by
  refine ⟨h.size, h.le, h.max, ?_⟩
  rcases h.mem with x | x | ⟨g, off, rfl, hg, hr⟩
  · exact .inl x
  · exact .inr (.inl x)
  · exact .inr (.inr ⟨g, off, rfl, Nat.lt_of_lt_of_le hg hb.size, range_later hr hg hb⟩)
theorem RdS.same {W W' : World} {N : Nat} {C : Nat → Prop} {w : World} {a : Option Addr} {n cap : Nat} {ds : List SP} (h : RdS w a n cap ds) (hb : Below w.heap.size w W) (s : Same N C W W') (hN : w.heap.size ≤ N) : RdS W' a n cap ds := h.below (Below.same hb s hN (Nat.le_refl _))
theorem RdS.at {W : World} {a : Option Addr} {n cap : Nat} {ds : List SP} (L : RdS W a n cap ds) (i : Nat) (hi : i < n) : ∃ g off, a = some ⟨g, off, none⟩ ∧ g < W.heap.size ∧ ds[i]? = some (ds.getD i SP.z) ∧ W.rangeAt g (off + i * 6) (ds.getD i SP.z).cells := by
  have hs := L.size
  have hd : ds[i]? = some (ds.getD i SP.z) := get_zS ds i (by omega)
  rcases L.mem with ⟨_, h0, _⟩ | ⟨h0, _⟩ | ⟨g, off, rfl, hg, hr⟩
  · omega
  · omega
  · refine ⟨g, off, rfl, hg, hd, fun j v hv => ?_⟩
    have hj : j < 6 := (List.getElem?_eq_some_iff.1 hv).1
    have e := csS_get ds i j _ hd hj
    have := hr (6 * i + j) v (e.trans hv)
    rw [show off + i * 6 + j = off + (6 * i + j) by omega]
    exact this
theorem RdS.small {W : World} {a : Option Addr} {n cap : Nat} {ds : List SP} (L : RdS W a n cap ds) : n ≤ 140737488355328 := by have := L.max; omega
theorem own_lstS {W : World} {base : Nat} {v : Value} {n : Nat} {ds : List SP} (h : W.ownsRow base 74 6 v n (csS ds)) (hn : ds.length = n) : ∃ a cap, v = .slice a n cap ∧ LstS W a n cap ds ∧ (∀ g off, a = some ⟨g, off, none⟩ → base ≤ g) := by
  rcases h.2 with ⟨rfl, h0⟩ | ⟨g, cap, cur, rfl, hg, hh, hnc, hc, hcs, ht⟩
  · subst h0
    exact ⟨none, 0, rfl, ⟨hn, Nat.le_refl _, by omega, .inl ⟨rfl, rfl⟩⟩, fun g off e => by cases e⟩
  · refine ⟨_, cap, rfl, ⟨hn, hnc, by unfold maxLen at hc; omega, .inr ⟨g, 0, cur, rfl, hh, by omega, ?_⟩⟩, fun g' off e => by cases e; exact hg⟩
    rw [List.drop_zero, ← ht]
    congr 1
    omega
/-- append(list, d). -/
theorem run_append_lstS {W : World} {a : Option Addr} {n cap s : Nat} {ds : List SP} {d : SP} (ty : TypeId) (L : LstS W a n cap ds) (hs : W.rangeAt s 0 d.cells) (hn : n ≤ 65536) :
    ∃ v' w', (Builtin.append_ #[43, 43] ty #[.slice a n cap, .slice (some ⟨s, 0, none⟩) 1 1]).run Try.prog W = .ok v' w' ∧ (∃ a' cap', v' = .slice a' (n + 1) cap' ∧ LstS w' a' (n + 1) cap' (ds ++ [d]) ∧ (∀ g off, a' = some ⟨g, off, none⟩ → (∃ o, a = some ⟨g, o, none⟩) ∨ W.heap.size ≤ g)) ∧ Only (atL a) W w' := by
  obtain ⟨i0, hi, hz0, hz1, hz2⟩ := info_parts info74
  have hnews : ∀ j u, d.cells[j]? = some u → W.cell? ((⟨s, 0, none⟩ : Addr).add j) = some u := fun j u hj => by rw [add_plain]; exact hs j u hj
  have hdl := csS_len ds
  have hsz := L.size
  have grown : ∀ w', W.grownBy w' none → Only (atL a) W w' := fun w' g => ⟨g.os, g.tape, g.output, g.size, fun q hq _ => g.block q hq (by simp)⟩
  rcases L.mem with ⟨rfl, rfl⟩ | ⟨g, off, cur, rfl, hh, hcs, htk⟩
  · have h0 : n = 0 := by have := L.le; omega
    subst h0
    have e : ds = [] := List.eq_nil_of_length_eq_zero hsz
    subst e
    obtain ⟨v', w', hrun, r1, r2, _⟩ := run_append_own (P := Try.prog) W W.heap.size 43 ty 74 i0 _ 6 56 Try.underlying43 hi hz0 hz1 hz2 rfl (by decide) (.slice none 0 0) 0 [] (World.ownsRow_nil W _ 74 6) ⟨s, 0, none⟩ 1 1 d.cells rfl hnews (cells_oneS d) (by unfold maxLen; omega) (by omega) (Nat.le_refl _)
    obtain ⟨a', cap', rfl, L', hb⟩ := own_lstS (ds := [d]) (by simpa [csS] using r1) rfl
    exact ⟨_, w', hrun, ⟨a', cap', rfl, L', fun g off e => .inr (hb g off e)⟩, grown _ r2⟩
  · by_cases hr : n + 1 ≤ cap
    · have hfc := run_firstCells_some (P := Try.prog) W i0.size 1 ⟨s, 0, none⟩ 1 1 d.cells (by rw [hz1]; rfl) hnews
      have hst := run_storeCells_at Try.prog g (off + n * 6) 74 d.cells 0 cur W hh (by rw [hcs]; show off + n * 6 + 0 + 6 ≤ _; omega) (cells_oneS d)
      simp only [Nat.add_zero] at hst
      obtain ⟨cur', hcur'⟩ : ∃ cur', (cur.toList.take (off + n * 6) ++ d.cells ++ cur.toList.drop (off + n * 6 + d.cells.length)).toArray = cur' := ⟨_, rfl⟩
      rw [hcur'] at hst
      refine ⟨.slice (some ⟨g, off, none⟩) (n + 1) cap, W.setRow g cur', ?_, ⟨_, cap, rfl, ⟨by simp; omega, hr, L.max, .inr ⟨g, off, cur', rfl, setRow_heap _ _ _ _ _ _ hh, ?_, ?_⟩⟩, fun g' off' e => by cases e; exact .inl ⟨off, rfl⟩⟩, Only.setRow (C := atL _) (Only.refl _ _) (fun _ => ⟨off, rfl⟩) _⟩
      · rw [hz1] at hfc
        simp [Builtin.append_, run_underlying Try.underlying43, sizeOf, typeInfo, hi, hz1, Builtin.lenOf, hr, hfc, Addr.add_lit, hst]
      · rw [← hcur']
        have hl : d.cells.length = 6 := rfl
        simp only [List.size_toArray, List.length_append, List.length_take, List.length_drop, Array.length_toList, hl]
        omega
      · rw [← hcur', csS_snoc, ← htk]
        have e1 : off + n * 6 = off + 6 * n := by omega
        have e2 : 6 * (n + 1) = 6 * n + d.cells.length := rfl
        rw [e1, e2]
        exact put_row _ _ _ _ _ (by rw [Array.length_toList, hcs]; omega)
    · obtain ⟨v', w', hrun, r1, r2⟩ := run_append_arg_grows (P := Try.prog) W 43 ty 74 i0 _ 6 56 Try.underlying43 hi hz0 hz1 hz2 rfl (by decide) ⟨g, off, none⟩ n cap (csS ds) (by rw [hdl, hsz]; omega) (fun j u hj => by
          rw [add_plain]
          refine row_cell hh _ _ ?_
          rw [← htk, List.getElem?_take, List.getElem?_drop] at hj
          split at hj
          · simpa using hj
          · cases hj) ⟨s, 0, none⟩ 1 1 d.cells rfl hnews (by omega) (by unfold maxLen; omega) (by omega)
      rw [← csS_snoc] at r1
      obtain ⟨a', cap', rfl, L', hb⟩ := own_lstS r1 (by simp; omega)
      exact ⟨_, w', hrun, ⟨a', cap', rfl, L', fun g off e => .inr (hb g off e)⟩, grown _ r2⟩
/-- Written over, from place i on. -/
theorem LstS.over {W : World} {g off n cap : Nat} {ds : List SP} (L : LstS W (some ⟨g, off, none⟩) n cap ds) (i : Nat) (es : List SP) (hi : i + es.length ≤ n) :
    ∃ cur', (storeCells ⟨g, off + i * 6, none⟩ (csS es)).run Try.prog W = .ok () (W.setRow g cur') ∧ LstS (W.setRow g cur') (some ⟨g, off, none⟩) n cap (ds.take i ++ es ++ ds.drop (i + es.length)) := by
  rcases L.mem with ⟨e, _⟩ | ⟨g', off', cur, e, hh, hc, ht⟩
  · cases e
  · cases e
    have hel := csS_len es
    have hle := L.le
    have hst := run_storeCells_at Try.prog g (off + i * 6) 74 (csS es) 0 cur W hh (by rw [hel, hc]; omega) (csS_one es)
    simp only [Nat.add_zero] at hst
    refine ⟨_, hst, ?_, hle, L.max, .inr ⟨g, off, _, rfl, setRow_heap _ _ _ _ _ _ hh, ?_, ?_⟩⟩
    · rw [List.length_append, List.length_append, List.length_take, List.length_drop, L.size]; omega
    · rw [List.size_toArray, List.length_append, List.length_append, List.length_take, List.length_drop, Array.length_toList, hel]; omega
    · have e1 : off + i * 6 = off + 6 * i := by omega
      show ((_ : List Value).drop off).take (6 * n) = _
      rw [e1, over_row cur.toList off (6 * n) (6 * i) (csS es) (by rw [Array.length_toList, hc]; omega) (by rw [hel]; omega), ht, csS_append, csS_append, csS_take, csS_drop, hel, ← Nat.mul_add]
theorem LstS.short {W : World} {a : Option Addr} {n cap : Nat} {ds : List SP} (L : LstS W a n cap ds) (k : Nat) (hk : k ≤ n) : LstS W a k cap (ds.take k) := by
  have hs := L.size
  refine ⟨by rw [List.length_take]; omega, Nat.le_trans hk L.le, L.max, L.mem.imp id ?_⟩
  rintro ⟨g, off, cur, e, hh, hc, ht⟩
  refine ⟨g, off, cur, e, hh, hc, ?_⟩
  rw [csS_take, ← ht, List.take_take, Nat.min_eq_left (by omega)]
/-- The room behind a list, with whatever lies there, as part of it. -/
theorem LstS.long {W : World} {g off n cap : Nat} {ds : List SP} (L : LstS W (some ⟨g, off, none⟩) n cap ds) (hr : n + 1 ≤ cap) (d : SP) : ∃ cur', (storeCells ⟨g, off + n * 6, none⟩ d.cells).run Try.prog W = .ok () (W.setRow g cur') ∧ LstS (W.setRow g cur') (some ⟨g, off, none⟩) (n + 1) cap (ds ++ [d]) := by
  rcases L.mem with ⟨e, _⟩ | ⟨g', off', cur, e, hh, hcs, htk⟩
  · cases e
  · cases e
    have hsz := L.size
    have hst := run_storeCells_at Try.prog g (off + n * 6) 74 d.cells 0 cur W hh (by rw [hcs]; show off + n * 6 + 0 + 6 ≤ _; omega) (cells_oneS d)
    simp only [Nat.add_zero] at hst
    refine ⟨_, hst, ⟨by simp; omega, hr, L.max, .inr ⟨g, off, _, rfl, setRow_heap _ _ _ _ _ _ hh, ?_, ?_⟩⟩⟩
    · have hl : d.cells.length = 6 := rfl
      simp only [List.size_toArray, List.length_append, List.length_take, List.length_drop, Array.length_toList, hl]
      omega
    · rw [csS_snoc, ← htk]
      have e1 : off + n * 6 = off + 6 * n := by omega
      have e2 : 6 * (n + 1) = 6 * n + d.cells.length := rfl
      show ((_ : List Value).drop off).take (6 * (n + 1)) = _
      rw [e1, e2]
      exact put_row _ _ _ _ _ (by rw [Array.length_toList, hcs]; omega)
theorem zero74 (w : World) : (zeroValue 74).run Try.prog w = .ok (SP.val SP.z) w := by kernel_rfl
/-- append(nil, list...). -/
theorem run_copy_lstS {W : World} {a : Option Addr} {n cap : Nat} {ds : List SP} (ty : TypeId) (L : RdS W a n cap ds) :
    ∃ a' cap' w', (Builtin.append_ #[43, 43] ty #[.slice none 0 0, .slice a n cap]).run Try.prog W = .ok (.slice a' n cap') w' ∧ LstS w' a' n cap' ds ∧ (∀ g off, a' = some ⟨g, off, none⟩ → W.heap.size ≤ g) ∧ Below W.heap.size W w' := by
  obtain ⟨i0, hi, hz0, hz1, hz2⟩ := info_parts info74
  have hmx := L.max
  have go : ∀ x : Addr, a = some x → (∀ j u, (csS ds)[j]? = some u → W.cell? (x.add j) = some u) → ∃ a' cap' w', (Builtin.append_ #[43, 43] ty #[.slice none 0 0, .slice a n cap]).run Try.prog W = .ok (.slice a' n cap') w' ∧ LstS w' a' n cap' ds ∧ (∀ g off, a' = some ⟨g, off, none⟩ → W.heap.size ≤ g) ∧ Below W.heap.size W w' := by
    rintro x rfl hc
    obtain ⟨v', w', hrun, r1, r2, _⟩ := run_append_own (P := Try.prog) W W.heap.size 43 ty 74 i0 _ 6 56 Try.underlying43 hi hz0 hz1 hz2 rfl (by decide) (.slice none 0 0) 0 [] (World.ownsRow_nil W _ 74 6) x n cap (csS ds) (by rw [csS_len, L.size]; omega) hc (csS_one ds) (by unfold maxLen; omega) (by omega) (Nat.le_refl _)
    rw [Nat.zero_add, List.nil_append] at r1
    obtain ⟨a', cap', rfl, L', hb⟩ := own_lstS r1 L.size
    exact ⟨a', cap', w', hrun, L', hb, ⟨r2.os, r2.tape, r2.output, r2.size, fun q hq => r2.block q hq (by simp [Value.ownBlock])⟩⟩
  rcases L.mem with ⟨rfl, rfl, rfl⟩ | ⟨rfl, x, rfl⟩ | ⟨g, off, rfl, hg, hr⟩
  · have e := List.eq_nil_of_length_eq_zero L.size
    subst e
    exact ⟨none, 0, W, run_append_owned_none (P := Try.prog) (w := W) W.heap.size 43 ty 74 i0 6 Try.underlying43 hi _ 0 [] (World.ownsRow_nil W _ 74 6), lstS_nil _, fun g off e => (by cases e), Below.refl _ _⟩
  · have e := List.eq_nil_of_length_eq_zero L.size
    subst e
    exact go x rfl (fun j u hu => by cases hu)
  · exact go ⟨g, off, none⟩ rfl (fun j u hu => by rw [add_plain]; exact hr j u hu)
/-- append(own, stretch...). -/
theorem run_more_lstS {W : World} {base k : Nat} {v : Value} {es : List SP} {x : Addr} {n c : Nat} {ds : List SP} (ty : TypeId) (hown : W.ownsRow base 74 6 v k (csS es)) (hl : ds.length = n) (hc : ∀ j u, (csS ds)[j]? = some u → W.cell? (x.add j) = some u) (hn : ((k + n) + (k + n) / 4 + 192) * 56 ≤ 281474976710656) (hb : base ≤ W.heap.size) :
    ∃ v' w', (Builtin.append_ #[43, 43] ty #[v, .slice (some x) n c]).run Try.prog W = .ok v' w' ∧ w'.ownsRow base 74 6 v' (k + n) (csS (es ++ ds)) ∧ W.grownBy w' v.ownBlock ∧ Below base W w' := by
  obtain ⟨i0, hi, hz0, hz1, hz2⟩ := info_parts info74
  obtain ⟨v', w', hrun, r1, r2, _⟩ := run_append_own_wide (P := Try.prog) W base 43 ty 74 i0 _ 6 56 Try.underlying43 hi hz0 hz1 hz2 rfl (by decide) v k (csS es) hown x n c (csS ds) (by rw [csS_len, hl]; omega) hc (csS_one ds) (by unfold maxLen; omega) hn hb
  rw [← csS_append] at r1
  exact ⟨v', w', hrun, r1, r2, (Below.refl _ _).grown r2 hb (fun q hq => (World.ownsRow.lt hown q hq).1)⟩
section
variable {ops : Array Oper} {rest : List Oper} {o : Oper} {A : Act} {W : World} {Q : Exit → Act → World → Prop} {K : Act → World → Prop}
theorem wp_copy_lstS (s x : Operand) (ho : o.op = .call { callee := .builtin .append, args := #[s, x], argTypes := #[43, 43] }) {a : Option Addr} {n cap : Nat} {ds : List SP}
    (hs : A.eval s = .slice none 0 0) (hx : A.eval x = .slice a n cap) (L : RdS W a n cap ds)
    (h : ∀ a' cap' w', LstS w' a' n cap' ds → (∀ g off, a' = some ⟨g, off, none⟩ → W.heap.size ≤ g) → Below W.heap.size W w' → K (A.put o.dst (.slice a' n cap')) w') : o.wp Try.prog A W K Q := by
  obtain ⟨a', cap', w', hrun, L', hb, hB⟩ := run_copy_lstS o.type L
  unfold Oper.wp
  simp [execOp, ho, resolve, invoke, builtin, hs, hx, hrun, Result.andThen]
  exact h a' cap' w' L' hb hB
theorem wpList_copy_lstS (hgd : o.guard = none) (s x : Operand) (ho : o.op = .call { callee := .builtin .append, args := #[s, x], argTypes := #[43, 43] }) {a : Option Addr} {n cap : Nat} {ds : List SP}
    (hs : A.eval s = .slice none 0 0) (hx : A.eval x = .slice a n cap) (L : RdS W a n cap ds)
    (h : ∀ a' cap' w', LstS w' a' n cap' ds → (∀ g off, a' = some ⟨g, off, none⟩ → W.heap.size ≤ g) → Below W.heap.size W w' → wpList Try.prog ops Q rest (A.put o.dst (.slice a' n cap')) w') : wpList Try.prog ops Q (o :: rest) A W :=
  wpList_plain hgd fun _ hK => wp_copy_lstS s x ho hs hx L fun a' cap' w' h1 h2 h3 => hK _ _ (h a' cap' w' h1 h2 h3)
theorem wp_more_lstS (s x : Operand) (ho : o.op = .call { callee := .builtin .append, args := #[s, x], argTypes := #[43, 43] }) {base k : Nat} {v : Value} {es : List SP} {ad : Addr} {n c : Nat} {ds : List SP}
    (hs : A.eval s = v) (hx : A.eval x = .slice (some ad) n c) (hown : W.ownsRow base 74 6 v k (csS es)) (hl : ds.length = n) (hc : ∀ j u, (csS ds)[j]? = some u → W.cell? (ad.add j) = some u) (hn : ((k + n) + (k + n) / 4 + 192) * 56 ≤ 281474976710656) (hb : base ≤ W.heap.size)
    (h : ∀ v' w', w'.ownsRow base 74 6 v' (k + n) (csS (es ++ ds)) → W.grownBy w' v.ownBlock → Below base W w' → K (A.put o.dst v') w') : o.wp Try.prog A W K Q := by
  obtain ⟨v', w', hrun, r1, r2, r3⟩ := run_more_lstS (c := c) o.type hown hl hc hn hb
  unfold Oper.wp
  simp [execOp, ho, resolve, invoke, builtin, hs, hx, hrun, Result.andThen]
  exact h v' w' r1 r2 r3
theorem wpList_more_lstS (hgd : o.guard = none) (s x : Operand) (ho : o.op = .call { callee := .builtin .append, args := #[s, x], argTypes := #[43, 43] }) {base k : Nat} {v : Value} {es : List SP} {ad : Addr} {n c : Nat} {ds : List SP}
    (hs : A.eval s = v) (hx : A.eval x = .slice (some ad) n c) (hown : W.ownsRow base 74 6 v k (csS es)) (hl : ds.length = n) (hc : ∀ j u, (csS ds)[j]? = some u → W.cell? (ad.add j) = some u) (hn : ((k + n) + (k + n) / 4 + 192) * 56 ≤ 281474976710656) (hb : base ≤ W.heap.size)
    (h : ∀ v' w', w'.ownsRow base 74 6 v' (k + n) (csS (es ++ ds)) → W.grownBy w' v.ownBlock → Below base W w' → wpList Try.prog ops Q rest (A.put o.dst v') w') : wpList Try.prog ops Q (o :: rest) A W :=
  wpList_plain hgd fun _ hK => wp_more_lstS s x ho hs hx hown hl hc hn hb fun v' w' h1 h2 h3 => hK _ _ (h v' w' h1 h2 h3)
theorem wpList_load74 (hgd : o.guard = none) (x : Operand) (ho : o.op = .load 74 x) (g off : Nat) (d : SP) (hx : A.eval x = .pointer (some ⟨g, off, none⟩)) (hc : W.rangeAt g off d.cells)
    (h : wpList Try.prog ops Q rest (A.put o.dst d.val) W) : wpList Try.prog ops Q (o :: rest) A W := by
  refine wpList_plain hgd fun K hK => ?_
  unfold Oper.wp
  simp only [execOp, ho, hx, Instr.loadAt, Instr.sureAddr, Sem.run_bind, Sem.run_pure, Result.andThen_ok, run_loadVar_mid W g off 74 d.cells _ hc Try.underlying74 rfl (by show _ = some 6; kernel_rfl)]
  exact hK _ _ h
theorem exec_load74 {ρ : Operand → Value} {x : Operand} (ho : o.op = .load 74 x) (g off : Nat) (d : SP) (hx : ρ x = .pointer (some ⟨g, off, none⟩)) (hc : W.rangeAt g off d.cells) : (execOp ρ o).run Try.prog W = .ok (.value d.val) W := by
  simp only [execOp, ho, hx, Instr.loadAt, Instr.sureAddr, Sem.run_bind, Sem.run_pure, Result.andThen_ok, run_loadVar_mid W g off 74 d.cells _ hc Try.underlying74 rfl (by show _ = some 6; kernel_rfl)]
  rfl
theorem wpListIn_load74 {F : Fence} {n : Nat} (hgd : o.guard = none) (x : Operand) (ho : o.op = .load 74 x) (g off : Nat) (d : SP) (hx : A.eval x = .pointer (some ⟨g, off, none⟩)) (hc : W.rangeAt g off d.cells)
    (h : wpListIn F n Try.prog ops Q rest (A.put o.dst d.val) W) : wpListIn F n Try.prog ops Q (o :: rest) A W := by
  refine wpListIn_plain hgd fun K hK => ?_
  unfold Oper.wpIn
  refine ⟨?_, ?_⟩
  · simp [Oper.about, ho]
  · rw [Oper.semAt_plain F _ _ (by rw [ho]; intro c hc'; cases hc')]
    simp only [execOp, ho, hx, Instr.loadAt, Instr.sureAddr, Sem.run_bind, Sem.run_pure, Result.andThen_ok, run_loadVar_mid W g off 74 d.cells _ hc Try.underlying74 rfl (by show _ = some 6; kernel_rfl)]
    exact hK _ _ h
end
theorem range_rowS {W : World} {g : Nat} {d : SP} (h : W.heap[g]? = some (.cells d.cells.toArray 74 (0, 0))) : W.rangeAt g 0 d.cells := fun j v hv => by
  rw [Nat.zero_add]
  exact row_cell h j v (by simpa using hv)
end Go.Proofs.Ytpdmpekkmblgmaa
