/-
  Package bag: Take.
-/
import Derived.Test.YtoppecppmjpgiaaBgF
import Derived.Test.YtoppecppmjpgiaaBgD
import Derived.Test.YtoppecppmjpgiaaBgN
import Derived.Stop.RegionWithIn
import Derived.BigQuiet
import Derived.RangeFuncCalls
namespace Go.Proofs.Ytoppecppmjpgiaa
open Go.ChangeShapes Go.WideShapes Go.ChangeAt Go.RowKit Go.Maps Go.Shelf
set_option linter.unusedVariables false
set_option linter.unusedSimpArgs false
attribute [local go_sem] Oper.semAt_some

/-- remove, either way. -/
theorem remove_any (b M : Nat) (a : Option Addr) (n cap k : Nat) (next : Int) (ds : List DG) (D : DataW Unit) (i : Nat) (w : World) (B : BagAt w b M a n cap k next ds D) (hi : i < n) : Calls Try.prog 40 #[.pointer (some ⟨b, 0, none⟩), .int .i64 (i : Int)] w fun e w' => e = .returned (.tuple #[]) ∧ (∃ a' cap', BagAt w' b M a' (n - 1) cap' k next (ds.eraseIdx i) D ∧ (∀ g off, a' = some ⟨g, off, none⟩ → ∃ o, a = some ⟨g, o, none⟩)) ∧ Only (bagC b M a) w w' := by
  obtain ⟨g, off, rfl, _, _⟩ := B.lst.at i hi
  by_cases hh : n / 2 ≤ i
  · refine (remove_hi b M g off n cap k next ds D i w B hi hh).mono ?_
    rintro e w' ⟨rfl, B', o⟩
    exact ⟨rfl, ⟨_, _, B', fun g' off' e => ⟨off', e⟩⟩, o⟩
  · refine (remove_lo b M g off n cap k next ds D i w B (by omega)).mono ?_
    rintro e w' ⟨rfl, B', o⟩
    exact ⟨rfl, ⟨_, _, B', fun g' off' e => ⟨off, by cases e; rfl⟩⟩, o⟩
theorem run_store33row {W : World} {g : Nat} {cs : Array Value} (hh : W.heap[g]? = some (.cells cs 33 (0, 0))) (hc : cs.size = 4) (d : DG) : (Instr.storeAt 33 (.pointer (some ⟨g, 0, none⟩)) (dgv d)).run Try.prog W = .ok () (W.setRow g d.cells.toArray) := by
  have h4 : d.cells.length = 4 := rfl
  have hst := run_storeCells_at Try.prog g 0 33 d.cells 0 cs W hh (by rw [h4, hc]; decide) (cells_one d)
  have e : (cs.toList.take (0 + 0) ++ d.cells ++ cs.toList.drop (0 + 0 + d.cells.length)).toArray = d.cells.toArray := by
    rw [h4, List.drop_of_length_le (by rw [Array.length_toList, hc]; decide)]
    simp
  rw [e] at hst
  obtain ⟨i0, hi0, hz0, hz1, hz2⟩ := info_parts info33
  have hcl : (dgv d).cells = d.cells.toArray := rfl
  simp [Instr.storeAt, Instr.sureAddr, storeVar, sizeOf, typeInfo, hi0, hcl, hz1, hst, h4]
theorem wpListIn_store33row {F : Fence} {n : Nat} {ops : Array Oper} {rest : List Oper} {o : Oper} {A : Act} {W : World} {Q : Exit → Go.Act → World → Prop} (hgd : o.guard = none) (x y : Operand) (ho : o.op = .store 33 x y) {g : Nat} {cs : Array Value} (d : DG) (hh : W.heap[g]? = some (.cells cs 33 (0, 0))) (hc : cs.size = 4)
    (hx : A.eval x = .pointer (some ⟨g, 0, none⟩)) (hy : A.eval y = dgv d)
    (h : wpListIn F n Try.prog ops Q rest (A.put o.dst undef) (W.setRow g d.cells.toArray)) : wpListIn F n Try.prog ops Q (o :: rest) A W := by
  refine wpListIn_plain hgd fun K hK => ?_
  unfold Oper.wpIn
  refine ⟨?_, ?_⟩
  · simp [Oper.about, ho]
  · rw [Oper.semAt_plain F _ _ (by rw [ho]; intro c hc'; cases hc')]
    simp only [execOp, ho, hx, hy, Sem.run_bind, run_store33row hh hc d, Result.andThen_ok, Sem.run_pure]
    exact hK _ _ h
theorem Only.putObj {C : Nat → Prop} {a b : World} (h : Only C a b) {g : Nat} (hg : a.heap.size ≤ g) (o : Obj) : Only C a (b.putObj g o) :=
  ⟨h.os, h.tape, h.output, by simpa using h.size, fun q hq hn => (World.putObj_heap_other (by omega)).trans (h.block q hq hn)⟩
theorem BagAt.same {W W' : World} {b M n cap k N : Nat} {a : Option Addr} {next : Int} {ds : List DG} {D : DataW Unit} {C : Nat → Prop} (h : BagAt W b M a n cap k next ds D) (s : Same N C W W') (hb : ∀ q, bagC b M a q → q < N) : BagAt W' b M a n cap k next ds D :=
  h.of_blocks fun q hq => s.block q (h.ltC q hq) (.inl (hb q hq))
theorem KeepT.same {b M : Nat} {a : Option Addr} {n cap k : Nat} {next : Int} {ds : List DG} {D : DataW Unit} {fb fn : Nat} {num : Int} {A A' : World} {N : Nat} {C : Nat → Prop} (h : KeepT b M a n cap k next ds D fb fn num A) (s : Same N C A A') (hb : ∀ q, bagC b M a q → q < N) (h1 : fb < N) (h2 : fn < N) : KeepT b M a n cap k next ds D fb fn num A' :=
  ⟨h.bag.same s hb, h.ptr.same s h1, h.what.same s h2⟩
/-- The state in which Take and Double look on. -/
structure Looks (b M : Nat) (a : Option Addr) (n cap k : Nat) (next : Int) (ds : List DG) (D : DataW Unit) (num : Int) (w : World) (r0 r1 : Obj) (W : World) : Prop where
  keep : KeepT b M a n cap k next ds D (w.heap.size + 4) (w.heap.size + 5) num W
  ptr : W.heap[w.heap.size]? = some (.cells #[.pointer (some ⟨b, 0, none⟩)] 28 (0, 0))
  what : W.heap[w.heap.size + 1]? = some (.cells #[.int .i64 num] 2 (0, 0))
  res0 : W.heap[w.heap.size + 2]? = some r0
  res1 : W.heap[w.heap.size + 3]? = some r1
  below : Below w.heap.size w W
theorem Looks.same {b M : Nat} {a : Option Addr} {n cap k : Nat} {next : Int} {ds : List DG} {D : DataW Unit} {num : Int} {w : World} {r0 r1 : Obj} {W W' : World} {N : Nat} {C : Nat → Prop} (h : Looks b M a n cap k next ds D num w r0 r1 W) (s : Same N C W W') (hN : w.heap.size + 6 ≤ N) (hb : ∀ q, bagC b M a q → q < w.heap.size) : Looks b M a n cap k next ds D num w r0 r1 W' :=
  ⟨h.keep.same s (fun q hq => by have := hb q hq; omega) (by omega) (by omega), (s.block _ (row_lt h.ptr) (.inl (by omega))).trans h.ptr, (s.block _ (row_lt h.what) (.inl (by omega))).trans h.what, (s.block _ (row_lt h.res0) (.inl (by omega))).trans h.res0, (s.block _ (row_lt h.res1) (.inl (by omega))).trans h.res1, Below.same h.below s (by omega) (Nat.le_refl _)⟩
theorem Looks.later {b M : Nat} {a : Option Addr} {n cap k : Nat} {next : Int} {ds : List DG} {D : DataW Unit} {num : Int} {w : World} {r0 r1 : Obj} {W W' : World} (h : Looks b M a n cap k next ds D num w r0 r1 W) (s : Below W.heap.size W W') : Looks b M a n cap k next ds D num w r0 r1 W' :=
  ⟨⟨h.keep.bag.below s, h.keep.ptr.below s, h.keep.what.below s⟩, (s.block _ (row_lt h.ptr)).trans h.ptr, (s.block _ (row_lt h.what)).trans h.what, (s.block _ (row_lt h.res0)).trans h.res0, (s.block _ (row_lt h.res1)).trans h.res1, h.below.trans (s.mono h.below.size)⟩
/-- What Take comes to. -/
def TakeOut (b M : Nat) (a : Option Addr) (n k : Nat) (next : Int) (ds : List DG) (D : DataW Unit) (num : Int) (w : World) (e : Ending) (w' : World) : Prop :=
  (∃ (j : Nat) (d : DG) (a' : Option Addr) (cap' : Nat), ds[j]? = some d ∧ d.num = num ∧ e = .returned (.tuple #[dgv d, .int .i64 0]) ∧ BagAt w' b M a' (n - 1) cap' k next (ds.eraseIdx j) D ∧ Only (bagC b M a) w w' ∧ (∀ g off, a' = some ⟨g, off, none⟩ → ∃ o, a = some ⟨g, o, none⟩)) ∨
  ((∀ d ∈ ds, d.num ≠ num) ∧ e = .returned (.tuple #[dgv DG.z, .int .i64 31]) ∧ Below w.heap.size w w')
/-- Where Take has found it. -/
structure Took (b M : Nat) (a : Option Addr) (n k : Nat) (next : Int) (ds : List DG) (D : DataW Unit) (num : Int) (w W : World) : Prop where
  out : ∃ (j : Nat) (d : DG) (a' : Option Addr) (cap' : Nat), ds[j]? = some d ∧ d.num = num ∧ BagAt W b M a' (n - 1) cap' k next (ds.eraseIdx j) D ∧ (∀ g off, a' = some ⟨g, off, none⟩ → ∃ o, a = some ⟨g, o, none⟩) ∧ W.heap[w.heap.size + 2]? = some (.cells d.cells.toArray 33 (0, 0))
  res1 : W.heap[w.heap.size + 3]? = some (.cells #[.int .i64 0] 46 (0, 0))
  only : Only (bagC b M a) w W
theorem bagC_of {b M : Nat} {a a' : Option Addr} (h : ∀ g off, a' = some ⟨g, off, none⟩ → ∃ o, a = some ⟨g, o, none⟩) (q : Nat) (hq : bagC b M a' q) : bagC b M a q := by
  rcases hq with e | e | ⟨off, e⟩
  · exact .inl e
  · exact .inr (.inl e)
  · exact .inr (.inr (h q off e))
theorem only_same {C C' : Nat → Prop} {N : Nat} {w A B : World} (h : Only C w A) (s : Same N C' A B) (hN : w.heap.size ≤ N) : Only C w B :=
  ⟨s.os.trans h.os, s.tape.trans h.tape, s.output.trans h.output, Nat.le_trans h.size s.size, fun q hq hn => (s.block q (Nat.lt_of_lt_of_le hq h.size) (.inl (by omega))).trans (h.block q hq hn)⟩
theorem Took.same {b M : Nat} {a : Option Addr} {n k : Nat} {next : Int} {ds : List DG} {D : DataW Unit} {num : Int} {w W W' : World} {N : Nat} {C : Nat → Prop} (h : Took b M a n k next ds D num w W) (s : Same N C W W') (hN : w.heap.size + 6 ≤ N) (hb : ∀ q, bagC b M a q → q < w.heap.size) : Took b M a n k next ds D num w W' := by
  obtain ⟨j, d, a', cap', h1, h2, B, h3, h4⟩ := h.out
  exact ⟨⟨j, d, a', cap', h1, h2, B.same s (fun q hq => by have := hb q (bagC_of h3 q hq); omega), h3, (s.block _ (row_lt h4) (.inl (by omega))).trans h4⟩, (s.block _ (row_lt h.res1) (.inl (by omega))).trans h.res1, only_same h.only s (by omega)⟩
theorem took_mk {b M : Nat} {a a' : Option Addr} {n cap' k : Nat} {next : Int} {ds : List DG} {D : DataW Unit} {num : Int} {w W W2 : World} {cs : Array Value} {N j : Nat} {d : DG} {C : Nat → Prop} (hb : Below w.heap.size w W) (hbC : ∀ q, bagC b M a q → q < w.heap.size) (h1 : ds[j]? = some d) (h2 : d.num = num) (B2 : BagAt W2 b M a' (n - 1) cap' k next (ds.eraseIdx j) D) (ha : ∀ g off, a' = some ⟨g, off, none⟩ → ∃ o, a = some ⟨g, o, none⟩) (o2 : Only (bagC b M a) W W2)
    (R2 : W2.heap[w.heap.size + 2]? = some (.cells cs 33 (0, 0))) (R3 : W2.heap[w.heap.size + 3]? = some (.cells #[.int .i64 0] 46 (0, 0))) (hN : w.heap.size + 6 ≤ N) (hC : ∀ b, C b → N ≤ b ∧ b < W.heap.size) :
    Took b M a n k next ds D num w ((W2.setRow (w.heap.size + 2) d.cells.toArray).setCell ⟨w.heap.size + 3, 0, none⟩ (.int .i64 0)) ∧ Turn N C C W ((W2.setRow (w.heap.size + 2) d.cells.toArray).setCell ⟨w.heap.size + 3, 0, none⟩ (.int .i64 0)) := by
  have far : ∀ q, q ≠ w.heap.size + 2 → q ≠ w.heap.size + 3 → ((W2.setRow (w.heap.size + 2) d.cells.toArray).setCell ⟨w.heap.size + 3, 0, none⟩ (.int .i64 0)).heap[q]? = W2.heap[q]? := fun q h h' => (set_far rfl h' _ _).trans (setRow_other _ _ _ _ h)
  have hsz : ((W2.setRow (w.heap.size + 2) d.cells.toArray).setCell ⟨w.heap.size + 3, 0, none⟩ (.int .i64 0)).heap.size = W2.heap.size := by simp [World.setCell, size_setRow]
  refine ⟨⟨⟨j, d, a', cap', h1, h2, B2.of_blocks (fun q hq => far q (by have := hbC q (bagC_of ha q hq); omega) (by have := hbC q (bagC_of ha q hq); omega)), ha, (set_far rfl (by omega) _ _).trans (setRow_heap _ _ _ _ _ _ R2)⟩, ?_, ?_⟩, ⟨by rw [hsz]; exact o2.size, fun q h1 h2 h3 => (far q (by omega) (by omega)).trans (o2.block q h2 (fun h => by have := hbC q h; omega)), fun q hq => ⟨(hC q hq).1, by rw [hsz]; exact Nat.lt_of_lt_of_le (hC q hq).2 o2.size, .inl hq⟩⟩⟩
  · exact set_row ((setRow_other _ _ _ _ (by omega)).trans R3) 0 _
  · exact (((Only.of_below hb).trans o2).setRow (fun h => by omega) _).setCell (fun h => by omega) _ _
def Unseen (xs : List (Nat × DG)) (num : Int) (i : Nat) : Prop := ∀ q ∈ xs.take i, q.2.num ≠ num
set_option maxRecDepth 100000 in
set_option maxHeartbeats 8000000 in
theorem take_any (b M : Nat) (a : Option Addr) (n cap k : Nat) (next : Int) (ds : List DG) (D : DataW Unit) (num : Int) (w : World) (B : BagAt w b M a n cap k next ds D) (hn : n ≤ 65536) (hasc : Asc ds) :
    Calls Try.prog 18 #[.pointer (some ⟨b, 0, none⟩), .int .i64 num] w (TakeOut b M a n k next ds D num w) := by
  have hbC := B.ltC
  have hsz := B.lst.size
  have KT := toward_any (some ⟨b, 0, none⟩) num
  obtain ⟨w0, hw0⟩ : ∃ w0, ((((w.alloc (.cells #[.pointer (some ⟨b, 0, none⟩)] 28)).alloc (.cells #[.int .i64 num] 2)).alloc (.cells #[.int .i64 0, .int .i64 0, .int .i64 0, .string { data := #[] }] 33)).alloc (.cells #[.int .i64 0] 46)) = w0 := ⟨_, rfl⟩
  have B1 : Below w.heap.size w w0 := by rw [← hw0]; exact ((((Below.refl _ _).alloc (Nat.le_refl _) _).alloc (by simp <;> omega) _).alloc (by simp <;> omega) _).alloc (by simp <;> omega) _
  have z0 : w0.heap.size = w.heap.size + 4 := by rw [← hw0]; simp
  have x0 : w0.heap[w.heap.size]? = some (.cells #[.pointer (some ⟨b, 0, none⟩)] 28 (0, 0)) := by rw [← hw0]; exact (Below.heap_alloc _ _ _ (by simp <;> omega)).trans ((Below.heap_alloc _ _ _ (by simp <;> omega)).trans ((Below.heap_alloc _ _ _ (by simp <;> omega)).trans (World.alloc_heap_new _ _)))
  have x1 : w0.heap[w.heap.size + 1]? = some (.cells #[.int .i64 num] 2 (0, 0)) := by rw [← hw0]; exact (Below.heap_alloc _ _ _ (by simp <;> omega)).trans ((Below.heap_alloc _ _ _ (by simp <;> omega)).trans (heap_new (by simp <;> omega)))
  have x2 : w0.heap[w.heap.size + 2]? = some (.cells #[.int .i64 0, .int .i64 0, .int .i64 0, .string { data := #[] }] 33 (0, 0)) := by rw [← hw0]; exact (Below.heap_alloc _ _ _ (by simp <;> omega)).trans (heap_new (by simp <;> omega))
  have x3 : w0.heap[w.heap.size + 3]? = some (.cells #[.int .i64 0] 46 (0, 0)) := by rw [← hw0]; exact heap_new (by simp <;> omega)
  have BA := B.below B1
  refine (callsIn_wide (n := 2)).1 ?_
  refine callsIn_of_wp_marks Try.func18 rfl trivial ?_
  simp only [Try.ntmps18, List.size_toArray, List.length_cons, List.length_nil, Nat.reduceAdd, Nat.reduceSub, Array.replicate_succ, Array.replicate_zero, List.push_toArray, List.append_toArray, List.nil_append, List.cons_append]
  have c0 := row_cell x0 0 _ rfl
  have c1 := row_cell x1 0 _ rfl
  gi_wp2_with (first
    | (refine ⟨trivial, ?_⟩; gi_at_call 34; refine (callsIn_wide.2 (given_any b M a n cap k next ds D _ BA)).mono ?_; rintro e w1 ⟨rfl, hw⟩; rw [hw]; clear hw)
    | (refine ⟨trivial, ?_⟩; gi_at_call 39; refine (callsIn_wide.2 (KT _)).mono ?_; rintro e w1 ⟨rfl, hw1⟩))
  have B2 : Below w0.heap.size w0 w1 := by rw [hw1]; exact ((Below.refl _ _).alloc (Nat.le_refl _) _).alloc (by simp) _
  have z1 : w1.heap.size = w.heap.size + 6 := by rw [hw1]; simp [z0]
  have L0 : Looks b M a n cap k next ds D num w (.cells #[.int .i64 0, .int .i64 0, .int .i64 0, .string { data := #[] }] 33) (.cells #[.int .i64 0] 46) w1 := by
    refine ⟨⟨BA.below B2, ?_, ?_⟩, (B2.block _ (row_lt x0)).trans x0, (B2.block _ (row_lt x1)).trans x1, (B2.block _ (row_lt x2)).trans x2, (B2.block _ (row_lt x3)).trans x3, B1.trans (B2.mono B1.size)⟩
    · rw [hw1, ← z0]; exact (One.new _ _ _).alloc _
    · rw [hw1]; exact One.at (One.new _ _ _) (by simp [z0])
  rw [← hw1]
  have HZ : Hid (w1.heap.size = w.heap.size + 6) := ⟨z1⟩
  clear z1 KT hw1 x0 x1 x2 x3 c0 c1 hw0
  obtain ⟨xs, hxs⟩ : ∃ xs, probes ds num n 0 n = xs := ⟨_, rfl⟩
  have HXS : Hid (probes ds num n 0 n = xs) := ⟨hxs⟩
  have G := toward_gives b M a n cap k next ds D (w.heap.size + 4) (w.heap.size + 5) num w1 hn
  rw [hxs] at G
  clear hxs
  refine range_turns (gf := 55) (lb := #[.pointer (some ⟨w.heap.size + 4, 0, none⟩), .pointer (some ⟨w.heap.size + 4 + 1, 0, none⟩)]) (by first | rfl | simp) (enters_of Try.func55 (by kernel_rfl) rfl)
    G (Below.refl _ _) (fun _ => rfl)
    (fun i C W => Looks b M a n cap k next ds D num w (.cells #[.int .i64 0, .int .i64 0, .int .i64 0, .string { data := #[] }] 33) (.cells #[.int .i64 0] 46) W ∧ Unseen xs num i)
    (fun c C W => c = .ret ∧ Took b M a n k next ds D num w W)
    (fun i C A h => h.1.keep)
    (fun i C A B h s => ⟨h.1.same s (by have := HZ.out; omega) hbC, h.2⟩)
    (fun c C A B h s => ⟨h.1, h.2.same s (by have := HZ.out; omega) hbC⟩)
    ⟨L0, fun q hq => by simp at hq⟩
    (fun q a' W => ∃ c : Nat, w1.heap.size + 2 ≤ c ∧ W.heap[c]? = some (.cells #[.int .i64 q.2.num, .int .i64 q.2.src, .int .i64 q.2.dst, .string q.2.body] 33 (0, 0)) ∧ a' = { tmps := #[.pointer (some ⟨b, 0, none⟩), .int .i64 num, .pointer (some ⟨w.heap.size, 0, none⟩), .pointer (some ⟨w.heap.size + 1, 0, none⟩), .pointer (some ⟨w.heap.size + 1 + 1, 0, none⟩), .pointer (some ⟨w.heap.size + 1 + 1 + 1, 0, none⟩), .int .i64 (q.1 : Int), .pointer (some ⟨c, 0, none⟩), .pointer (some ⟨b, 0, none⟩), .bool true, .bool false, undef, .pointer (some ⟨b, 0, none⟩), .int .i64 num, .func (.func 55) #[] #[.pointer (some ⟨w.heap.size + 4, 0, none⟩), .pointer (some ⟨w.heap.size + 4 + 1, 0, none⟩)], .int .i64 (q.1 : Int), .agg #[.int .i64 q.2.num, .int .i64 q.2.src, .int .i64 q.2.dst, .string q.2.body], undef, undef, undef, undef, undef, undef, undef, undef, undef], defers := [] })
    (fun q a' A o ⟨c, hc, hr, e⟩ => ⟨c, hc, (World.putObj_heap_other (by omega)).trans hr, e⟩)
    ?assign ?body ?done ?stop
  case assign =>
    intro i q W C K hi hs hK
    gi_wp2
    exact hK _ _ ⟨W.heap.size, hs, World.alloc_heap_new _ _, rfl⟩ ((Below.refl _ _).alloc (Nat.le_refl _) _)
  case body =>
    rintro i ⟨m, dn, ds1, dd1, dby⟩ C a' W ⟨LK, hno⟩ ⟨c, hc, hr, rfl⟩ hx hs hC
    have r0 := row_cell hr 0 (.int .i64 dn) rfl
    have n1 := row_cell LK.what 0 (.int .i64 num) rfl
    have p1 := row_cell LK.ptr 0 (.pointer (some ⟨b, 0, none⟩)) rfl
    have hC' : ∀ b, C b → w1.heap.size ≤ b ∧ b < W.heap.size := fun b hb => ⟨by have := (hC b hb).1; omega, (hC b hb).2⟩
    by_cases he : dn = num
    · subst he
      have hmem : (m, (⟨dn, ds1, dd1, dby⟩ : DG)) ∈ probes ds dn n 0 n := by rw [HXS.out]; exact List.mem_of_getElem? hx
      obtain ⟨_, hmn, hmd⟩ := probes_in ds dn n 0 n _ hmem
      simp only at hmn hmd
      have hdm : ds[m]? = some ⟨dn, ds1, dd1, dby⟩ := by rw [hmd, List.getD_eq_getElem?_getD, List.getElem?_eq_getElem (by omega)]; rfl
      have HDM : Hid (ds[m]? = some ⟨dn, ds1, dd1, dby⟩) := ⟨hdm⟩
      have KR := remove_any b M a n cap k next ds D m W LK.keep.bag hmn
      clear hdm hmd hmem hx hno HXS G
      gi_wp2_with (first
        | (refine ⟨trivial, ?_⟩; gi_at_call 40; refine (CallsIn.inRound _ (callsIn_wide.2 KR)).mono ?_; rintro e W2 ⟨rfl, ⟨a', cap', B2, ha'⟩, o2⟩; clear KR; have X2 := (o2.block c (row_lt hr) (fun h => (by have := hbC c h; have := HZ.out; omega))).trans hr; have X2r := range_of_row (d := ⟨dn, ds1, dd1, dby⟩) X2; have R2 := (o2.block _ (row_lt LK.res0) (fun h => (by have := hbC _ h; omega))).trans LK.res0; have R3 := (o2.block _ (row_lt LK.res1) (fun h => (by have := hbC _ h; omega))).trans LK.res1; have R3' : (W2.setRow (w.heap.size + 2) (DG.cells ⟨dn, ds1, dd1, dby⟩).toArray).heap[w.heap.size + 3]? = some (.cells #[.int .i64 0] 46 (0, 0)) := (setRow_other _ _ _ _ (by omega)).trans R3; have c46 := row_cell R3' 0 (.int .i64 0) rfl; have f46 := row_free R3' 0)
        | ((with_reducible show wpListIn _ _ _ _ _ (Oper.mk _ (Op.load 33 _) _ _ _ _ :: _) _ _); refine wpListIn_load33x rfl _ rfl c 0 dn ds1 dd1 dby rfl X2r ?_)
        | ((with_reducible show wpListIn _ _ _ _ _ (Oper.mk _ (Op.store 33 _ _) _ _ _ _ :: _) _ _); refine wpListIn_store33row rfl _ _ rfl ⟨dn, ds1, dd1, dby⟩ R2 rfl rfl rfl ?_))
      obtain ⟨t1, t2⟩ := took_mk (N := w1.heap.size) LK.below hbC HDM.out rfl B2 ha' o2 R2 R3 (by have := HZ.out; omega) hC'
      exact ⟨C, ⟨rfl, t1⟩, t2⟩
    · gi_wp2
      refine ⟨C, ⟨LK, fun q hq => ?_⟩, Turn.of_below (Below.refl _ _) hC'⟩
      rw [List.take_add_one, hx] at hq
      rcases List.mem_append.1 hq with hq | hq
      · exact hno q hq
      · simp at hq; subst hq; exact he
  case done =>
    rintro C W ⟨LK, hno⟩ hK hC
    have hnone : ∀ d ∈ ds, d.num ≠ num := by
      intro d hd he
      obtain ⟨j, hj, hjd⟩ := List.mem_iff_getElem.1 hd
      have hg : ds.getD j DG.z = d := by rw [List.getD_eq_getElem?_getD, List.getElem?_eq_getElem hj, hjd]; rfl
      have := probes_find hasc num j (by rw [hg]; exact he) n 0 n (by omega) (Nat.zero_le _) (by omega) (by omega)
      rw [HXS.out] at this
      exact hno _ (by rw [List.take_length]; exact this) (by rw [hg]; exact he)
    have HN : Hid (∀ d ∈ ds, d.num ≠ num) := ⟨hnone⟩
    have R3' : (W.setRow (w.heap.size + 2) (DG.cells DG.z).toArray).heap[w.heap.size + 3]? = some (.cells #[.int .i64 0] 46 (0, 0)) := (setRow_other _ _ _ _ (by omega)).trans LK.res1
    have c46 := row_cell R3' 0 (.int .i64 0) rfl
    have f46 := row_free R3' 0
    have R2 := LK.res0
    clear hnone hno G HXS
    gi_wp2_with ((with_reducible show wpListIn _ _ _ _ _ (Oper.mk _ (Op.store 33 _ _) _ _ _ _ :: _) _ _); refine wpListIn_store33row rfl _ _ rfl DG.z R2 rfl rfl rfl ?_)
    have hz := HZ.out
    have hD : ((W.setRow (w.heap.size + 2) DG.z.cells.toArray).setCell ⟨w.heap.size + 3, 0, none⟩ (.int .i64 31)).heap[w1.heap.size]? = some (.deferred (some [])) := (set_far rfl (by omega) _ _).trans ((setRow_other _ _ _ _ (by omega)).trans hK)
    refine ⟨by simp, .inl ⟨_, _, rfl, run_takeDeferred hD, ?_⟩⟩
    refine ⟨_, results_two rfl _ _ (w.heap.size + 2) (w.heap.size + 3) _ _ rfl rfl (load_33 (d := DG.z) ((World.putObj_heap_other (by omega)).trans ((set_far rfl (by omega) _ _).trans (setRow_heap _ _ _ _ _ _ R2)))) (load_46 (x := 31) ((World.putObj_heap_other (by omega)).trans (set_row R3' 0 _))), .inr ⟨HN.out, rfl, ?_⟩⟩
    have BW := LK.below
    have BR : Below w.heap.size w (W.setRow (w.heap.size + 2) DG.z.cells.toArray) := (Only.setRow (C := none_) (Only.of_below BW) (fun h => absurd h (by omega)) _).calm
    exact below_putObj (BR.setCell (by show w.heap.size ≤ w.heap.size + 3; omega) _) (by omega) _
  case stop =>
    rintro c C W ⟨rfl, TK⟩ hK hC
    gi_wp2
    have hz := HZ.out
    obtain ⟨j, d, a', cap', h1, h2, Bj, h3, h4⟩ := TK.out
    refine ⟨by simp, .inl ⟨_, _, rfl, run_takeDeferred hK, ?_⟩⟩
    refine ⟨_, results_two rfl _ _ (w.heap.size + 2) (w.heap.size + 3) _ _ rfl rfl (load_33 (d := d) ((World.putObj_heap_other (by omega)).trans h4)) (load_46 (x := 0) ((World.putObj_heap_other (by omega)).trans TK.res1)), .inl ⟨j, d, a', cap', h1, h2, rfl, ?_, TK.only.putObj (by omega) _, h3⟩⟩
    exact Bj.of_blocks fun q hq => World.putObj_heap_other (by have := hbC q (bagC_of h3 q hq); omega)
end Go.Proofs.Ytoppecppmjpgiaa
