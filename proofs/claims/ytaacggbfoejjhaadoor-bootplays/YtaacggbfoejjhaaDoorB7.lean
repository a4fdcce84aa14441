/-
  Package boot: the greatest number that stands, and the slot with the least one.
-/
import Derived.Test.YtaacggbfoejjhaaDoorB6
import Derived.Stop.RegionWithIn
import Derived.BigQuiet
import Derived.RangeFuncCalls
namespace Go.Proofs.YtaacggbfoejjhaaDoor
open Go.ChangeShapes Go.WideShapes Go.ChangeAt Go.RowKit Go.Shelf
open D
set_option linter.unusedVariables false
set_option linter.unusedSimpArgs false
attribute [local go_sem] Oper.semAt_some

/-- A block of few cells. -/
def Cel (w : World) (g : Nat) (T : TypeId) (cs : Array Value) : Prop := w.heap[g]? = some (.cells cs T (0, 0))
structure NwC (w w1 : World) (T : TypeId) (cs : Array Value) : Prop where
  cel : Cel w1 w.heap.size T cs
  below : Below w.heap.size w w1
  size : w1.heap.size = w.heap.size + 1
structure WrC (w w1 : World) (g : Nat) (T : TypeId) (cs : Array Value) : Prop where
  cel : Cel w1 g T cs
  only : Only (at1 g) w w1
  size : w1.heap.size = w.heap.size
theorem Cel.below {W W' : World} {g : Nat} {t : TypeId} {cs : Array Value} (h : Cel W g t cs) (b : Below W.heap.size W W') : Cel W' g t cs := (b.block g (row_lt h)).trans h
theorem Cel.only {C : Nat → Prop} {W W' : World} {g : Nat} {t : TypeId} {cs : Array Value} (h : Cel W g t cs) (b : Only C W W') (hC : ¬ C g) : Cel W' g t cs := (b.block g (row_lt h) hC).trans h
theorem run_allocC (w : World) {T : TypeId} {v : Value} (h : (Tryd.prog.info? T).map (·.zero) = some (some v)) : (Instr.alloc T true (.tuple #[])).run Tryd.prog w = .ok (.pointer (some ⟨w.heap.size, 0, none⟩)) (w.alloc (.cells v.cells T)) := by
  cases hq : Tryd.prog.info? T with
  | none => simp [hq] at h
  | some i =>
    simp only [hq, Option.map_some, Option.some.injEq] at h
    simp [Instr.alloc, zeroValue, typeInfo, hq, h, newVar, newRow, go_sem]
theorem nwc_alloc (w : World) (T : TypeId) (cs : Array Value) : NwC w (w.alloc (.cells cs T)) T cs := ⟨World.alloc_heap_new _ _, (Below.refl _ _).alloc (Nat.le_refl _) _, by simp⟩
theorem run_storeC (w : World) (g o : Nat) (t T : TypeId) (hT : (Tryd.prog.info? T).map (·.size) = some 1) (cs : Array Value) (v : Value) (hv : v.oneCell' = true) (hl : Cel w g t cs) (hf : o < cs.size) :
    (Instr.storeAt T (.pointer (some ⟨g, o, none⟩)) v).run Tryd.prog w = .ok () (w.setRow g (cs.setIfInBounds o v)) := by
  have hst := run_storeCells_at Tryd.prog g o t [v] 0 cs w hl (by simp; omega) (by simpa using hv)
  simp only [Nat.add_zero] at hst
  have e : (cs.toList.take o ++ [v] ++ cs.toList.drop (o + [v].length)).toArray = cs.setIfInBounds o v := by
    apply Array.toList_inj.1
    simp [List.set_eq_take_append_cons_drop, hf]
  rw [e] at hst
  have hc : v.cells = #[v] := by cases v <;> simp_all [Value.cells, Value.oneCell']
  cases hq : Tryd.prog.info? T with
  | none => simp [hq] at hT
  | some j =>
    have hs : j.size = 1 := by simpa [hq] using hT
    simp [Instr.storeAt, Instr.sureAddr, storeVar, sizeOf, typeInfo, hq, hc, hs, hst]
theorem wrc_row {w : World} {g : Nat} {t : TypeId} {bs : Array Value} (h : Cel w g t bs) (zs : Array Value) : WrC w (w.setRow g zs) g t zs :=
  ⟨setRow_heap _ _ _ _ _ _ h, Only.setRow (C := at1 g) (Only.refl _ _) (fun _ => rfl) _, size_setRow _ _ _⟩
theorem wrc_set {w : World} {g : Nat} {t : TypeId} {cs : Array Value} (h : Cel w g t cs) (i : Nat) (v : Value) : WrC w (w.setCell ⟨g, i, none⟩ v) g t (cs.setIfInBounds i v) :=
  ⟨set_row h i v, Only.setCell (C := at1 g) (Only.refl _ _) (fun _ => rfl) _ _, by simp [World.setCell]⟩
section
variable {F : Fence} {n : Nat} {ops : Array Oper} {rest : List Oper} {o : Oper} {a : Act} {w : World} {Q : Exit → Act → World → Prop}
theorem wpListIn_allocC (hgd : o.guard = none) (T : Nat) (ho : o.op = .alloc T) (v : Value) (h0 : (Tryd.prog.info? T).map (·.zero) = some (some v))
    (h : ∀ w1, NwC w w1 T v.cells → wpListIn F n Tryd.prog ops Q rest (a.put o.dst (.pointer (some ⟨w.heap.size, 0, none⟩))) w1) : wpListIn F n Tryd.prog ops Q (o :: rest) a w := by
  refine wpListIn_plain hgd fun K hK => ?_
  unfold Oper.wpIn
  refine ⟨by simp [Oper.about, ho], ?_⟩
  rw [Oper.semAt_plain F _ _ (by rw [ho]; intro c hc'; cases hc')]
  simp only [execOp, ho, Sem.run_bind, run_allocC w h0, Result.andThen_ok, Sem.run_pure]
  exact hK _ _ (h _ (nwc_alloc _ _ _))
theorem wpListIn_storeC (hgd : o.guard = none) (T : Nat) (hT : (Tryd.prog.info? T).map (·.size) = some 1) (x y : Operand) (ho : o.op = .store T x y) (g off : Nat) (t : TypeId) (cs : Array Value) (v : Value) (hv : v.oneCell' = true)
    (hx : a.eval x = .pointer (some ⟨g, off, none⟩)) (hy : a.eval y = v) (hl : Cel w g t cs) (hf : off < cs.size)
    (h : ∀ w1, WrC w w1 g t (cs.setIfInBounds off v) → wpListIn F n Tryd.prog ops Q rest (a.put o.dst undef) w1) : wpListIn F n Tryd.prog ops Q (o :: rest) a w := by
  refine wpListIn_plain hgd fun K hK => ?_
  unfold Oper.wpIn
  refine ⟨by simp [Oper.about, ho], ?_⟩
  rw [Oper.semAt_plain F _ _ (by rw [ho]; intro c hc'; cases hc')]
  simp only [execOp, ho, hx, hy, Sem.run_bind, run_storeC w g off t T hT cs v hv hl hf, Result.andThen_ok, Sem.run_pure]
  exact hK _ _ (h _ (wrc_row hl _))
theorem wpListIn_boxB (hgd : o.guard = none) (T : Nat) (x : Operand) (ho : o.op = .box T x) (zs : List Int) (hx : a.eval x = vb zs)
    (h : ∀ w1, Nw w w1 T zs → wpListIn F n Tryd.prog ops Q rest (a.put o.dst (.pointer (some ⟨w.heap.size, 0, none⟩))) w1) : wpListIn F n Tryd.prog ops Q (o :: rest) a w := by
  refine wpListIn_plain hgd fun K hK => ?_
  unfold Oper.wpIn
  refine ⟨by simp [Oper.about, ho], ?_⟩
  rw [Oper.semAt_plain F _ _ (by rw [ho]; intro c hc'; cases hc')]
  simp only [execOp, ho, hx, Instr.box, newVar, newRow, Value.cells, Sem.run_bind, Sem.run_pure, Result.andThen_ok, run_newObj]
  exact hK _ _ (h _ (nw_alloc _ _ _))
end
theorem zero2 : (Tryd.prog.info? 2).map (·.zero) = some (some (.int .i64 0)) := by kernel_rfl
theorem zero3 : (Tryd.prog.info? 3).map (·.zero) = some (some (.int .i64 0)) := by kernel_rfl
theorem zero59 : (Tryd.prog.info? 59).map (·.zero) = some (some (.agg #[.int .i64 0, .int .i64 0])) := by kernel_rfl
theorem one2 : (Tryd.prog.info? 2).map (·.size) = some 1 := by kernel_rfl
theorem one3 : (Tryd.prog.info? 3).map (·.size) = some 1 := by kernel_rfl
set_option maxHeartbeats 1000000 in
theorem numbers_any (zs : List Int) (w : World) : Calls Tryd.prog 25 #[vb zs] w fun e w' => e = .returned (.func (.func 43) #[] #[.pointer (some ⟨w.heap.size, 0, none⟩)]) ∧ Nw w w' 56 zs := by
  have hmf : ∀ (fn : Fn) (first cap : Array Value) (w : World), (Instr.makeFunc fn first cap).run Tryd.prog w = .ok (.func fn first cap) w := fun _ _ _ _ => rfl
  go_enter Tryd.func25, Tryd.ntmps25
  go_wp2_with ((with_reducible show wpList _ _ _ (Oper.mk _ (Op.box 56 _) _ _ _ _ :: _) _ _); refine wpList_boxB rfl 56 _ rfl zs rfl ?_; intro w1 N1)
  go_ret
  exact ⟨rfl, N1⟩
theorem Blk.same {W W' : World} {g N : Nat} {t : TypeId} {zs : List Int} {C : Nat → Prop} (h : Blk W g t zs) (s : S.Same N C W W') (hg : g < N) : Blk W' g t zs := (s.block g (row_lt h) (.inl hg)).trans h
theorem Cel.same {W W' : World} {g N : Nat} {t : TypeId} {cs : Array Value} {C : Nat → Prop} (h : Cel W g t cs) (s : S.Same N C W W') (hg : g < N) : Cel W' g t cs := (s.block g (row_lt h) (.inl hg)).trans h
theorem tab_same {W W' : World} {N : Nat} {C : Nat → Prop} (h : S.Tab W) (s : S.Same N C W W') (hg : 0 < N) : S.Tab W' := fun i hi => (World.cell?_of_block (a := ⟨0, i, none⟩) (s.block 0 h.pos (.inl hg))).trans (h i hi)
theorem tab_only {W W' : World} {C : Nat → Prop} (h : S.Tab W) (s : Only C W W') (hg : ¬ C 0) : S.Tab W' := fun i hi => (World.cell?_of_block (a := ⟨0, i, none⟩) (s.block 0 h.pos hg)).trans (h i hi)
theorem KeepN.same {k : Nat} {zs : List Int} {A B : World} {N : Nat} {C : Nat → Prop} (h : KeepN k zs A) (s : S.Same N C A B) (hk : k < N) : KeepN k zs B := ⟨h.blk.same s hk, tab_same h.tab s (by omega)⟩
theorem KeepN.only {k : Nat} {zs : List Int} {A B : World} {C : Nat → Prop} (h : KeepN k zs A) (s : Only C A B) (hk : ¬ C k) (h0 : ¬ C 0) : KeepN k zs B := ⟨h.blk.only s hk, tab_only h.tab s h0⟩
/-- What such a loop leaves: a cell of its own (c), and the iterator's. -/
structure Lst (w W : World) (c k : Nat) (T : TypeId) (zs : List Int) (cs : Array Value) : Prop where
  keep : KeepN k zs W
  cel : Cel W c T cs
  below : Below w.heap.size w W
theorem Lst.same {w A B : World} {c k N : Nat} {T : TypeId} {zs : List Int} {cs : Array Value} {C : Nat → Prop} (h : Lst w A c k T zs cs) (s : S.Same N C A B) (hc : c < N) (hk : k < N) (hw : w.heap.size ≤ N) : Lst w B c k T zs cs :=
  ⟨h.keep.same s hk, h.cel.same s hc, S.Below.same h.below s hw (Nat.le_refl _)⟩
theorem Lst.wr {w A B : World} {c k : Nat} {T : TypeId} {zs : List Int} {cs ds : Array Value} (h : Lst w A c k T zs cs) (s : WrC A B c T ds) (hc : w.heap.size ≤ c) (hk : k ≠ c) (hw : 0 < w.heap.size) : Lst w B c k T zs ds :=
  ⟨h.keep.only s.only hk (by intro e; have e' : 0 = c := e; omega), s.cel, h.below.trans (s.only.below h.below.size (by intro q e; have e' : q = c := e; omega))⟩
theorem turn_wr {A B : World} {c N : Nat} {T : TypeId} {ds : Array Value} {C : Nat → Prop} (s : WrC A B c T ds) (hc : c < N) (hC : ∀ b, C b → N ≤ b ∧ b < A.heap.size) : S.Turn N C C A B :=
  ⟨s.only.size, fun b h1 h2 h3 => s.only.block b h2 (by intro e; have e' : b = c := e; omega), fun b hb => ⟨(hC b hb).1, by rw [s.size]; exact (hC b hb).2, .inl hb⟩⟩
def mxs (xs : List (Nat × Nat)) (i : Nat) : Nat := ((xs.take i).map Prod.snd).foldl max 0
theorem mxs_succ {xs : List (Nat × Nat)} {i : Nat} {q : Nat × Nat} (h : xs[i]? = some q) : mxs xs (i + 1) = max (mxs xs i) q.2 := by
  unfold mxs
  rw [List.take_add_one, h]
  simp
theorem mxs_nums (zs : List Int) : mxs (nums zs) 2 = max (stand (slot zs 0)) (stand (slot zs 1)) := by simp [mxs, nums]
set_option maxRecDepth 100000 in
set_option maxHeartbeats 4000000 in
theorem last_any (zs : List Int) (w : World) (hz : zs.length = 64) (hb : Byt zs) (ht : S.Tab w) : Calls Tryd.prog 26 #[vb zs] w fun e w' => e = .returned (.int .i64 ((max (stand (slot zs 0)) (stand (slot zs 1)) : Nat) : Int)) ∧ Below w.heap.size w w' := by
  have h0 := ht.pos
  refine (callsIn_wide (n := 2)).1 ?_
  refine callsIn_of_wp_marks Tryd.func26 rfl trivial ?_
  simp only [Tryd.ntmps26, List.size_toArray, List.length_cons, List.length_nil, Nat.reduceAdd, Nat.reduceSub, Array.replicate_succ, Array.replicate_zero, List.push_toArray, List.append_toArray, List.nil_append, List.cons_append]
  gi_wp2_with (first
    | ((with_reducible show wpListIn _ _ _ _ _ (Oper.mk _ (Op.box 56 _) _ _ _ _ :: _) _ _); refine wpListIn_boxB rfl 56 _ rfl zs rfl ?_; intro w1 N1)
    | ((with_reducible show wpListIn _ _ _ _ _ (Oper.mk _ (Op.alloc 2) _ _ _ _ :: _) _ _); refine wpListIn_allocC rfl 2 rfl (.int .i64 0) zero2 ?_; intro w2 N2)
    | ((with_reducible show wpListIn _ _ _ _ _ (Oper.mk _ (Op.store 2 _ _) _ _ _ _ :: _) _ _); refine wpListIn_storeC rfl 2 one2 _ _ rfl w1.heap.size 0 2 #[.int .i64 0] (.int .i64 0) rfl rfl rfl N2.cel (by decide) ?_; intro w3 W3; have Bx := (N1.blk.below N2.below).only W3.only (by intro e; have e' : w.heap.size = w1.heap.size := e; have := N1.size; omega))
    | ((with_reducible show wpListIn _ _ _ _ _ (Oper.mk _ (Op.load 56 _) _ _ _ _ :: _) _ _); refine wpListIn_loadB rfl 56 64 arr56 _ rfl w.heap.size 0 zs rfl Bx.whole hz ?_)
    | (refine ⟨trivial, ?_⟩; gi_at_call 25; refine (callsIn_wide.2 (numbers_any zs w3)).mono ?_; rintro e w4 ⟨rfl, N4⟩))
  have z3 : w3.heap.size = w.heap.size + 2 := by rw [W3.size, N2.size, N1.size]
  have z4 : w4.heap.size = w.heap.size + 3 := by rw [N4.size, z3]
  have hc1 : w1.heap.size = w.heap.size + 1 := N1.size
  have Bw3 : Below w.heap.size w w3 := (N1.below.trans (N2.below.mono N1.below.size)).trans (W3.only.below (by rw [N2.size]; omega) (by intro q e; have e' : q = w1.heap.size := e; omega))
  have Bw4 : Below w.heap.size w w4 := Bw3.trans (N4.below.mono Bw3.size)
  have L0 : Lst w w4 w1.heap.size w3.heap.size 2 zs #[.int .i64 0] := ⟨⟨N4.blk, ht.below Bw4⟩, W3.cel.below N4.below, Bw4⟩
  have HZ : Hid (w4.heap.size = w.heap.size + 3 ∧ w3.heap.size = w.heap.size + 2 ∧ w1.heap.size = w.heap.size + 1) := ⟨z4, z3, hc1⟩
  clear z3 z4 hc1 N1 N2 W3 Bx N4 Bw3 Bw4
  have G := numbers_gives w3.heap.size zs w4 hz hb
  have HMX : Hid (mxs (nums zs) 2 = max (stand (slot zs 0)) (stand (slot zs 1))) := mxs_nums zs
  have HXL : Hid ((nums zs).length = 2) := rfl
  obtain ⟨xs, HXS⟩ : ∃ xs, Hid (nums zs = xs) := ⟨_, rfl⟩
  rw [HXS.out] at G HMX HXL
  generalize w1.heap.size = c at *
  generalize w3.heap.size = k at *
  refine S.range_turns (gf := 43) (lb := #[.pointer (some ⟨k, 0, none⟩)]) (by first | rfl | simp) (enters_of Tryd.func43 (by kernel_rfl) rfl)
    G (Below.refl _ _) (fun _ => rfl)
    (fun i C W => Lst w W c k 2 zs #[.int .i64 (mxs xs i : Nat)])
    (fun c C W => False)
    (fun i C A h => h.keep)
    (fun i C A B h s => h.same s (by have := HZ.out; omega) (by have := HZ.out; omega) (by have := HZ.out; omega))
    (fun c C A B h s => h)
    L0
    (fun q a' W => a' = { tmps := #[vb zs, .pointer (some ⟨w.heap.size, 0, none⟩), .int .i64 0, .pointer (some ⟨c, 0, none⟩), undef, .int .i64 (q.2 : Int), vb zs, .func (.func 43) #[] #[.pointer (some ⟨k, 0, none⟩)], .int .i64 (q.1 : Int), .int .i64 (q.2 : Int), undef, undef, undef, undef], defers := [] })
    (fun q a' A o h => h)
    ?assign ?body ?done ?stop
  case assign =>
    intro i q W C K hi hs hK
    gi_wp2
    exact hK _ _ rfl (Below.refl _ _)
  case body =>
    rintro i ⟨qi, qn⟩ C a' W L rfl hx hs hC
    have c0 := row_cell L.cel 0 _ rfl
    have hz' := HZ.out
    have hm := mxs_succ hx
    have HM : Hid (mxs xs (i + 1) = max (mxs xs i) qn) := hm
    clear hm hx hz' HMX HXL HXS G
    have f0 := row_free L.cel 0
    have fin : ∀ (a1 : Act) (v : Int), v = ((max (mxs xs i) qn : Nat) : Int) → S.turnPost w4.heap.size (fun i C W => Lst w W c k 2 zs #[.int .i64 (mxs xs i : Nat)]) (fun c C W => False) i C W .normal a1 (W.setCell ⟨c, 0, none⟩ (.int .i64 v)) := by
      rintro a1 v rfl
      have X2 := wrc_set L.cel 0 (.int .i64 ((max (mxs xs i) qn : Nat) : Int))
      refine ⟨C, ?_, turn_wr X2 (by have := HZ.out; omega) (fun b hb => ⟨by have := (hC b hb).1; omega, (hC b hb).2⟩)⟩
      show Lst w _ c k 2 zs #[.int .i64 (mxs xs (i + 1) : Nat)]
      rw [HM.out]
      exact L.wr X2 (by have := HZ.out; omega) (by have := HZ.out; omega) h0
    gi_wp2
    all_goals exact fin _ _ (by omega)
  case done =>
    intro C W L hK hC
    have c0 := row_cell L.cel 0 _ rfl
    have HV : Hid (mxs xs xs.length = max (stand (slot zs 0)) (stand (slot zs 1))) := by show _ = _; rw [HXL.out]; exact HMX.out
    have BW := L.below
    gi_wp2
    refine ⟨by simp, .inl ⟨_, _, rfl, run_takeDeferred hK, ?_⟩⟩
    refine ⟨_, results_tmp rfl _ _ _, ?_, S.below_putObj BW (by have := HZ.out; omega) _⟩
    show Ending.returned (.int .i64 ((mxs xs xs.length : Nat) : Int)) = _
    rw [HV.out]
  case stop =>
    rintro c C W h _ _
    exact h.elim
end Go.Proofs.YtaacggbfoejjhaaDoor
