/-
  Package bag: a bag in memory; New, given, Len, pair.
-/
import Derived.Test.YtoppecppmjpgiaaBg0
namespace Go.Proofs.Ytoppecppmjpgiaa
open Go.ChangeShapes Go.WideShapes Go.ChangeAt Go.RowKit Go.Maps
set_option linter.unusedVariables false
set_option linter.unusedSimpArgs false

def dcs (ds : List DG) : List Value := ds.flatMap DG.cells
theorem dcs_len (ds : List DG) : (dcs ds).length = 4 * ds.length := by
  unfold dcs
  induction ds with
  | nil => rfl
  | cons d ds ih => rw [List.flatMap_cons, List.length_append, ih, List.length_cons]; show 4 + _ = _; omega
/-- The packets that a slice value leads to: the block's cells behind what is there. -/
structure Lst (W : World) (a : Option Addr) (n cap : Nat) (ds : List DG) : Prop where
  size : ds.length = n
  le : n ≤ cap
  max : cap ≤ 9223372036854775807
  mem : (a = none ∧ cap = 0) ∨ ∃ g off cur, a = some ⟨g, off, none⟩ ∧ W.heap[g]? = some (.cells cur 33 (0, 0)) ∧ cur.size = off + 4 * cap ∧ (cur.toList.drop off).take (4 * n) = dcs ds
theorem lst_nil (W : World) : Lst W none 0 0 [] := ⟨rfl, Nat.le_refl _, by omega, .inl ⟨rfl, rfl⟩⟩
theorem Lst.of_block {W W' : World} {a : Option Addr} {n cap : Nat} {ds : List DG} (h : Lst W a n cap ds) (hb : ∀ g off, a = some ⟨g, off, none⟩ → W'.heap[g]? = W.heap[g]?) : Lst W' a n cap ds :=
  ⟨h.size, h.le, h.max, h.mem.imp id fun ⟨g, off, cur, e, hh, r⟩ => ⟨g, off, cur, e, (hb g off e).trans hh, r⟩⟩
theorem Lst.lt {W : World} {g off n cap : Nat} {ds : List DG} (h : Lst W (some ⟨g, off, none⟩) n cap ds) : g < W.heap.size := by
  rcases h.mem with ⟨e, _⟩ | ⟨g', off', cur, e, hh, _⟩
  · cases e
  · cases e; exact row_lt hh
/-- A bag. -/
structure BagAt (W : World) (b M : Nat) (a : Option Addr) (n cap k : Nat) (next : Int) (ds : List DG) (D : DataW Unit) : Prop where
  obj : W.heap[b]? = some (.cells #[.int .i64 next, .slice a n cap, .map (some M)] 61 (0, 0))
  lst : Lst W a n cap ds
  map : W.ownsMap Try.prog 65 (unitElem (H := Unit)) M k D
def bagC (b M : Nat) (a : Option Addr) : Nat → Prop := fun q => q = b ∨ q = M ∨ ∃ off, a = some ⟨q, off, none⟩
theorem owns_map {W : World} {M k : Nat} {D : DataW Unit} (h : W.ownsMap Try.prog 65 (unitElem (H := Unit)) M k D) : ∃ es c, W.heap[M]? = some (.map es c) := by
  obtain ⟨es, c, hb, _⟩ := h
  exact ⟨es, c, hb⟩
theorem BagAt.bM {W : World} {b M n cap k : Nat} {a : Option Addr} {next : Int} {ds : List DG} {D : DataW Unit} (h : BagAt W b M a n cap k next ds D) : b ≠ M := by
  rintro rfl
  obtain ⟨es, c, e⟩ := owns_map h.map
  rw [h.obj] at e
  cases e
theorem Lst.ne_cells {W : World} {g off n cap q : Nat} {ds : List DG} {cs : Array Value} {t : TypeId} (h : Lst W (some ⟨g, off, none⟩) n cap ds) (hq : W.heap[q]? = some (.cells cs t (0, 0))) (ht : t ≠ 33) : g ≠ q := by
  rintro rfl
  rcases h.mem with ⟨e, _⟩ | ⟨g', off', cur, e, hh, _⟩
  · cases e
  · cases e
    rw [hh] at hq
    cases hq
    exact ht rfl
theorem BagAt.gb {W : World} {b M n cap k g off : Nat} {next : Int} {ds : List DG} {D : DataW Unit} (h : BagAt W b M (some ⟨g, off, none⟩) n cap k next ds D) : g ≠ b := h.lst.ne_cells h.obj (by decide)
theorem BagAt.gM {W : World} {b M n cap k g off : Nat} {next : Int} {ds : List DG} {D : DataW Unit} (h : BagAt W b M (some ⟨g, off, none⟩) n cap k next ds D) : g ≠ M := by
  rintro rfl
  obtain ⟨es, c, e⟩ := owns_map h.map
  rcases h.lst.mem with ⟨e', _⟩ | ⟨g', off', cur, e', hh, _⟩
  · cases e'
  · cases e'; rw [hh] at e; cases e
theorem owns_of {W W' : World} {M k : Nat} {D : DataW Unit} (h : W.ownsMap Try.prog 65 (unitElem (H := Unit)) M k D) (e : W'.heap[M]? = W.heap[M]?) : W'.ownsMap Try.prog 65 (unitElem (H := Unit)) M k D := by
  obtain ⟨es, c, hb, r⟩ := h
  exact ⟨es, c, e.trans hb, r⟩
theorem BagAt.of_blocks {W W' : World} {b M n cap k : Nat} {a : Option Addr} {next : Int} {ds : List DG} {D : DataW Unit} (h : BagAt W b M a n cap k next ds D) (hb : ∀ q, bagC b M a q → W'.heap[q]? = W.heap[q]?) : BagAt W' b M a n cap k next ds D :=
  ⟨(hb b (.inl rfl)).trans h.obj, h.lst.of_block fun g off e => hb g (.inr (.inr ⟨off, e⟩)), owns_of h.map (hb M (.inr (.inl rfl)))⟩
theorem BagAt.ltC {W : World} {b M n cap k : Nat} {a : Option Addr} {next : Int} {ds : List DG} {D : DataW Unit} (h : BagAt W b M a n cap k next ds D) : ∀ q, bagC b M a q → q < W.heap.size := by
  rintro q (e | e | ⟨off, e⟩)
  · rw [e]; exact row_lt h.obj
  · rw [e]; exact h.map.lt
  · have l := h.lst; rw [e] at l; exact l.lt
theorem BagAt.below {W W' : World} {b M n cap k : Nat} {a : Option Addr} {next : Int} {ds : List DG} {D : DataW Unit} (h : BagAt W b M a n cap k next ds D) (hb : Below W.heap.size W W') : BagAt W' b M a n cap k next ds D :=
  h.of_blocks fun q hq => hb.block q (h.ltC q hq)
theorem BagAt.only {W W' : World} {b M n cap k : Nat} {a : Option Addr} {next : Int} {ds : List DG} {D : DataW Unit} {C : Nat → Prop} (h : BagAt W b M a n cap k next ds D) (o : Only C W W') (hC : ∀ q, bagC b M a q → ¬ C q) : BagAt W' b M a n cap k next ds D :=
  h.of_blocks fun q hq => o.block q (h.ltC q hq) (hC q hq)
theorem neq59 (w : World) (r : Option Nat) : (binOp .neq 59 (.map r) (.map none)).run Try.prog w = .ok (.bool (!r.isNone)) w := run_neq_map_nil w _ _ _ r Try.underlying59
set_option maxHeartbeats 1000000 in
theorem given_any (b M : Nat) (a : Option Addr) (n cap k : Nat) (next : Int) (ds : List DG) (D : DataW Unit) (w : World) (B : BagAt w b M a n cap k next ds D) : Calls Try.prog 34 #[.pointer (some ⟨b, 0, none⟩)] w fun e w' => e = .returned (.bool true) ∧ w' = w := by
  have c2 := row_cell B.obj 2 (.map (some M)) rfl
  have q59 := neq59
  go_enter Try.func34, Try.ntmps34
  go_wp2
  go_ret
  exact ⟨rfl, rfl⟩
set_option maxHeartbeats 1000000 in
theorem len_any (b M : Nat) (a : Option Addr) (n cap k : Nat) (next : Int) (ds : List DG) (D : DataW Unit) (w : World) (B : BagAt w b M a n cap k next ds D) : Calls Try.prog 14 #[.pointer (some ⟨b, 0, none⟩)] w fun e w' => e = .returned (.int .i64 (n : Int)) ∧ w' = w := by
  have c1 := row_cell B.obj 1 (.slice a n cap) rfl
  go_enter Try.func14, Try.ntmps14
  go_wp2_with (go_at_call 34; refine (given_any b M a n cap k next ds D _ B).mono ?_; rintro e w1 ⟨rfl, hw⟩; rw [hw]; clear hw)
  go_ret
  exact ⟨rfl, rfl⟩
set_option maxHeartbeats 1000000 in
theorem new_any (w : World) : Calls Try.prog 15 #[] w fun e w' => ∃ b, e = .returned (.pointer (some ⟨b, 0, none⟩)) ∧ w.heap.size ≤ b ∧ (∃ M, w.heap.size ≤ M ∧ BagAt w' b M none 0 0 0 0 [] (.map []) ∧ Below w.heap.size w w') := by
  have hmm := @run_makeMap Try.prog
  go_enter Try.func15, Try.ntmps15
  go_wp2
  go_ret
  refine ⟨w.heap.size + 1, rfl, by omega, w.heap.size, Nat.le_refl _, ⟨?_, lst_nil _, (World.ownsMap_made _ _ _ _).alloc _⟩, ((Below.refl _ _).alloc (Nat.le_refl _) _).alloc (by simp) _⟩
  have := World.alloc_heap_new (w.alloc (.map #[] 0)) (.cells #[.int .i64 0, .slice none 0 0, .map (some w.heap.size)] 61)
  rw [World.size_alloc] at this
  exact this
theorem wf_i64 {x : Int} (h : -9223372036854775808 ≤ x ∧ x ≤ 9223372036854775807) : (Lit.int .i64 x).wf = true := WalkArith.wf_i64 (by omega)
theorem results_row1 {fn : Func} {p : Tmp} {ty : TypeId} (h : fn.results = #[.cell p ty]) (tmps : Array Value) (w : World) (g : Nat) (cs : Array Value)
    (hp : tmps.getD p undef = .pointer (some ⟨g, 0, none⟩)) (hl : (loadVar ty ⟨g, 0, none⟩).run Try.prog w = .ok (.agg cs) w) :
    (results fn tmps).run Try.prog w = .ok (.agg cs) w := by
  have hp' : tmps[p]?.getD undef = .pointer (some ⟨g, 0, none⟩) := by simpa using hp
  simp [results, h, hp', asAddr, hl]
theorem load_65 {w : World} {g : Nat} {c0 c1 : Value} (h : w.heap[g]? = some (.cells #[c0, c1] 65 (0, 0))) : (loadVar 65 ⟨g, 0, none⟩).run Try.prog w = .ok (.agg #[c0, c1]) w :=
  run_loadVar_row (P := Try.prog) w g 65 65 _ (0, 0) _ h Try.underlying65 rfl (by show _ = some 2; kernel_rfl)
set_option maxHeartbeats 1000000 in
theorem pair_any (x y : Int) (w : World) : Calls Try.prog 38 #[.int .i64 x, .int .i64 y] w fun e w' => e = .returned (lnk (min x y) (max x y)) ∧ Below w.heap.size w w' := by
  have fin : ∀ u v : Int, u = min x y → v = max x y → ∀ tm : Array Value, tm.getD 4 undef = .pointer (some ⟨w.heap.size, 0, none⟩) → ∀ df, df = [] →
      bodyPost Try.prog Try.f38 (fun e w' => e = Ending.returned (lnk (min x y) (max x y)) ∧ Below w.heap.size w w') Exit.ret { tmps := tm, defers := df } (w.alloc (.cells #[.int .i64 u, .int .i64 v] 65)) := by
    rintro u v rfl rfl tm ht df rfl
    exact bodyPost_ret (results_row1 rfl _ _ w.heap.size _ ht (load_65 (World.alloc_heap_new w _))) rfl ⟨rfl, (Below.refl _ _).alloc (Nat.le_refl _) _⟩
  rcases Int.lt_trichotomy x y with h | h | h
  · go_enter Try.func38, Try.ntmps38
    go_wp2
    exact fin _ _ (by omega) (by omega) _ rfl _ rfl
  · subst h
    go_enter Try.func38, Try.ntmps38
    go_wp2
    all_goals exact fin _ _ (by omega) (by omega) _ rfl _ rfl
  · go_enter Try.func38, Try.ntmps38
    go_wp2
    exact fin _ _ (by omega) (by omega) _ rfl _ rfl
end Go.Proofs.Ytoppecppmjpgiaa
