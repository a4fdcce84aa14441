/-
  Package half: Merge.
-/
import Derived.Test.YtacefkchhcpgaaaC7
import Derived.Test.YtacefkchhcpgaaaC3
namespace Go.Proofs.Ytacefkchhcpgaaa
open Go.ChangeShapes Go.WideShapes Go.ChangeAt Go.RowKit
set_option linter.unusedVariables false
set_option linter.unusedSimpArgs false

theorem results_ct {P : Program} {fn : Func} {p q : Tmp} {t : TypeId} (h : fn.results = #[.cell p t, .tmp q]) (tmps : Array Value) (w : World) (g : Nat) (v : Value)
    (hp : tmps.getD p undef = .pointer (some ⟨g, 0, none⟩)) (h1 : (loadVar t ⟨g, 0, none⟩).run P w = .ok v w) :
    (results fn tmps).run P w = .ok (.tuple #[v, tmps.getD q undef]) w := by
  have hp' : tmps[p]?.getD undef = .pointer (some ⟨g, 0, none⟩) := by simpa using hp
  simp [results, h, hp', asAddr, h1]
theorem run_store24row {W : World} {g : Nat} {cs : Array Value} (hh : W.heap[g]? = some (.cells cs 24 (0, 0))) (hc : cs.size = 6) (d : HR) : (Instr.storeAt 24 (.pointer (some ⟨g, 0, none⟩)) d.val).run Try.prog W = .ok () (W.setRow g d.cells.toArray) := by
  have h4 : d.cells.length = 6 := rfl
  have hst := run_storeCells_at Try.prog g 0 24 d.cells 0 cs W hh (by rw [h4, hc]; decide) (cells_oneH d)
  have e : (cs.toList.take (0 + 0) ++ d.cells ++ cs.toList.drop (0 + 0 + d.cells.length)).toArray = d.cells.toArray := by
    rw [h4, List.drop_of_length_le (by rw [Array.length_toList, hc]; decide)]
    simp
  rw [e] at hst
  obtain ⟨i0, hi0, hz0, hz1, hz2⟩ := info_parts info24
  have hcl : d.val.cells = d.cells.toArray := rfl
  simp [Instr.storeAt, Instr.sureAddr, storeVar, sizeOf, typeInfo, hi0, hcl, hz1, hst, h4]
section
variable {ops : Array Oper} {rest : List Oper} {o : Oper} {A : Act} {W : World} {Q : Exit → Act → World → Prop} {K : Act → World → Prop}
theorem wp_store24row (x y : Operand) (ho : o.op = .store 24 x y) {g : Nat} {cs : Array Value} (d : HR) (hh : W.heap[g]? = some (.cells cs 24 (0, 0))) (hc : cs.size = 6) (hx : A.eval x = .pointer (some ⟨g, 0, none⟩)) (hy : A.eval y = d.val)
    (h : K (A.put o.dst undef) (W.setRow g d.cells.toArray)) : o.wp Try.prog A W K Q := by
  unfold Oper.wp execOp
  simp only [ho, hx, hy, Sem.run_bind, run_store24row hh hc d, Result.andThen_ok, Sem.run_pure]
  exact h
theorem wpList_store24row (hgd : o.guard = none) (x y : Operand) (ho : o.op = .store 24 x y) {g : Nat} {cs : Array Value} (d : HR) (hh : W.heap[g]? = some (.cells cs 24 (0, 0))) (hc : cs.size = 6) (hx : A.eval x = .pointer (some ⟨g, 0, none⟩)) (hy : A.eval y = d.val)
    (h : wpList Try.prog ops Q rest (A.put o.dst undef) (W.setRow g d.cells.toArray)) : wpList Try.prog ops Q (o :: rest) A W :=
  wpList_plain hgd fun _ hK => wp_store24row x y ho d hh hc hx hy (hK _ _ h)
end
/-- What Merge comes to. -/
def HS.mgB (id : Int) (h : HS) (name : ByteArray) (v p f : Int) : Bool := fitB v p f id h.peer && newB v p (regN name h.ls).v (regN name h.ls).p
def HS.mg (id : Int) (h : HS) (name : ByteArray) (v p f : Int) : HS := if h.mgB id name v p f = true then h.wr name v p f else h
def HS.mgC (id : Int) (h : HS) (name : ByteArray) (v p f : Int) : Bool := h.mgB id name v p f && sameB (regN name (wrL name v p f h.ls)).v (regN name (wrL name v p f h.ls)).p (regN name (wrL name v p f h.ls)).f v p f

set_option maxRecDepth 100000 in
set_option maxHeartbeats 8000000 in
theorem merge_unfit (id peer boot life : Int) (ls : List LS) (pend : Bool) (miss : Int) (a : Option Addr) (c : Nat) (name : ByteArray) (v p f : Int) (w : World) (R : RdL w a ls.length c ls) (hn : ls.length + 1 ≤ 65536) (hfit : fitB v p f id peer = false) : Calls Try.prog 34 #[.int .i64 id, .agg #[.int .i64 peer, .int .i64 boot, .int .i64 life, .slice a ls.length c, .bool pend, .int .i64 miss], .string name, rg v p f] w fun e w' => ∃ a' c', e = .returned (.tuple #[((HS.mk peer boot life ls pend miss).on a' c').val, .bool false]) ∧ Own w.heap.size w' (HS.mk peer boot life ls pend miss) a' c' ∧ Below w.heap.size w w' := by
  have C0 := (((Bx.nil w).add rfl (.cells #[.int .i64 peer, .int .i64 boot, .int .i64 life, .slice a ls.length c, .bool pend, .int .i64 miss] 24)).add (by simp) (.cells #[.int .i64 v, .int .i64 p, .int .i64 f] 42)).add (by simp) (.cells z6 24)
  have T0 := ((Tri.new (w.alloc (.cells #[.int .i64 peer, .int .i64 boot, .int .i64 life, .slice a ls.length c, .bool pend, .int .i64 miss] 24)) (.int .i64 v) (.int .i64 p) (.int .i64 f) 42).at (k' := w.heap.size + 1) (by simp)).alloc (.cells z6 24)
  have hz0 : w.heap.size + 3 = (((w.alloc (.cells #[.int .i64 peer, .int .i64 boot, .int .i64 life, .slice a ls.length c, .bool pend, .int .i64 miss] 24)).alloc (.cells #[.int .i64 v, .int .i64 p, .int .i64 f] 42)).alloc (.cells z6 24)).heap.size := by simp
  have HM : Hid (ls.length * 40 ≤ 140737488355328) := R.max
  have KR : ∀ W, RdL W a ls.length c ls → Calls Try.prog 30 #[.agg #[.int .i64 peer, .int .i64 boot, .int .i64 life, .slice a ls.length c, .bool pend, .int .i64 miss], .string name] W fun e w' => e = .returned (rg (regN name ls).v (regN name ls).p (regN name ls).f) ∧ Below W.heap.size W w' := fun W h => reg_any ⟨peer, boot, life, ls, pend, miss⟩ a c name W h
  obtain ⟨⟨xn, xv, xp, xf⟩, hx⟩ : ∃ x, regN name ls = x := ⟨_, rfl⟩
  simp only [hx] at KR
  go_enter Try.func34, Try.ntmps34
  go_wp2
  obtain ⟨W0, hW0⟩ : ∃ W0, ((w.alloc (.cells #[.int .i64 peer, .int .i64 boot, .int .i64 life, .slice a ls.length c, .bool pend, .int .i64 miss] 24)).alloc (.cells #[.int .i64 v, .int .i64 p, .int .i64 f] 42)).alloc (.cells z6 24) = W0 := ⟨_, rfl⟩
  rw [hW0] at C0 T0 hz0
  have R0 := R.below C0.below
  have hW0' : ((w.alloc (.cells #[.int .i64 peer, .int .i64 boot, .int .i64 life, .slice a ls.length c, .bool pend, .int .i64 miss] 24)).alloc (.cells #[.int .i64 v, .int .i64 p, .int .i64 f] 42)).alloc (.cells #[.int .i64 0, .int .i64 0, .int .i64 0, .slice none 0 0, .bool false, .int .i64 0] 24) = W0 := hW0
  rw [hW0']
  clear hW0 hW0'
  obtain ⟨HB0, hHB⟩ : ∃ n, w.heap.size = n := ⟨_, rfl⟩
  have kr : ∀ X, Below W0.heap.size W0 X → X.cell? ⟨HB0 + 1, 0, none⟩ = some (.int .i64 v) ∧ X.cell? ⟨HB0 + 1, 1, none⟩ = some (.int .i64 p) ∧ X.cell? ⟨HB0 + 1, 2, none⟩ = some (.int .i64 f) := fun X h => by
    rw [← hHB]
    exact ⟨(h.cell (p := ⟨w.heap.size + 1, 0, none⟩) T0.lt).trans T0.c0, (h.cell (p := ⟨w.heap.size + 1, 1, none⟩) T0.lt).trans T0.c1, (h.cell (p := ⟨w.heap.size + 1, 2, none⟩) T0.lt).trans T0.c2⟩
  have kh : ∀ X, Below W0.heap.size W0 X → Cel6 X HB0 (.int .i64 peer) (.int .i64 boot) (.int .i64 life) (.slice a ls.length c) (.bool pend) (.int .i64 miss) := fun X h => by
    rw [← hHB]
    exact cel6 ((C0.later h).at0 _ rfl)
  simp only [hHB]
  refine wp_region_any (by kernel_rfl) ?_
  change wpAny _ _ _ _ _ _ _ (World.drew _)
  refine wpAny_narrow (fun W' => Below W0.heap.size W0 W') _ _ _ _ ?_
  refine anyH_take 0 11 (rg v p f) rfl rfl (by kernel_rfl) (by kernel_rfl) (by kernel_rfl) (fun _ _ _ h => h) (Or.inl ⟨by rfl, by intro w hSw; have ⟨k0, k1, k2⟩ := kr _ hSw; go_simp⟩) ((Below.refl _ _).drew) ?_
  try simp only [Act.put, List.setIfInBounds_toArray, List.set_cons_zero, List.set_cons_succ]
  refine anyH_take 1 12 (.int .i64 id) rfl rfl (by kernel_rfl) (by kernel_rfl) (by kernel_rfl) (fun _ _ _ h => h) (Or.inl ⟨by rfl, by intro w hSw; go_simp⟩) ((Below.refl _ _).drew) ?_
  try simp only [Act.put, List.setIfInBounds_toArray, List.set_cons_zero, List.set_cons_succ]
  refine anyH_take 2 13 (.pointer (some ⟨HB0, 0, none⟩)) rfl rfl (by kernel_rfl) (by kernel_rfl) (by kernel_rfl) (fun _ _ _ h => h) (Or.inl ⟨by rfl, by intro w hSw; go_simp⟩) ((Below.refl _ _).drew) ?_
  try simp only [Act.put, List.setIfInBounds_toArray, List.set_cons_zero, List.set_cons_succ]
  refine anyH_take 3 14 (.int .i64 peer) rfl rfl (by kernel_rfl) (by kernel_rfl) (by kernel_rfl) (fun _ _ _ h => h) (Or.inl ⟨by rfl, by intro w hSw; have ⟨k0, k1, k2, k3, k4, k5⟩ := kh _ hSw; go_simp⟩) ((Below.refl _ _).drew) ?_
  try simp only [Act.put, List.setIfInBounds_toArray, List.set_cons_zero, List.set_cons_succ]
  refine wpAnyH_ready (rs := [4]) (by kernel_rfl) (by simp) ?_
  refine AllReadyH.cons rfl (fun K hK => ?_) AllReadyH.nil
  go_simp
  go_wp2_with (go_at_call 57; refine (fit_any v p f id peer _).mono ?_; rw [hfit]; rintro e w4 ⟨rfl, b4⟩)
  refine hK.out _ _ ((Below.refl _ _).drew.trans b4) (fun hS => ?_)
  clear hK
  refine anyH_take 5 16 (.bool true) rfl rfl (by kernel_rfl) (by kernel_rfl) (by kernel_rfl) (fun _ _ _ h => h) (Or.inl ⟨by rfl, by intro w hSw; go_simp⟩) (hS) ?_
  try simp only [Act.put, List.setIfInBounds_toArray, List.set_cons_zero, List.set_cons_succ]
  refine anyH_take 6 17 (.bool true) rfl rfl (by kernel_rfl) (by kernel_rfl) (by kernel_rfl) (fun _ _ _ h => h) (Or.inl ⟨by rfl, by intro w hSw; go_simp⟩) (hS) ?_
  try simp only [Act.put, List.setIfInBounds_toArray, List.set_cons_zero, List.set_cons_succ]
  refine anyH_take 7 18 (undef) rfl rfl (by kernel_rfl) (by kernel_rfl) (by kernel_rfl) (fun _ _ _ h => h) (Or.inr ⟨by rfl, rfl⟩) (hS) ?_
  try simp only [Act.put, List.setIfInBounds_toArray, List.set_cons_zero, List.set_cons_succ]
  refine anyH_take 8 19 (undef) rfl rfl (by kernel_rfl) (by kernel_rfl) (by kernel_rfl) (fun _ _ _ h => h) (Or.inr ⟨by rfl, rfl⟩) (hS) ?_
  try simp only [Act.put, List.setIfInBounds_toArray, List.set_cons_zero, List.set_cons_succ]
  refine anyH_take 9 20 (undef) rfl rfl (by kernel_rfl) (by kernel_rfl) (by kernel_rfl) (fun _ _ _ h => h) (Or.inr ⟨by rfl, rfl⟩) (hS) ?_
  try simp only [Act.put, List.setIfInBounds_toArray, List.set_cons_zero, List.set_cons_succ]
  refine anyH_take 10 21 (undef) rfl rfl (by kernel_rfl) (by kernel_rfl) (by kernel_rfl) (fun _ _ _ h => h) (Or.inr ⟨by rfl, rfl⟩) (hS) ?_
  try simp only [Act.put, List.setIfInBounds_toArray, List.set_cons_zero, List.set_cons_succ]
  refine anyH_take 11 22 (undef) rfl rfl (by kernel_rfl) (by kernel_rfl) (by kernel_rfl) (fun _ _ _ h => h) (Or.inr ⟨by rfl, rfl⟩) (hS) ?_
  try simp only [Act.put, List.setIfInBounds_toArray, List.set_cons_zero, List.set_cons_succ]
  refine anyH_take 12 23 (undef) rfl rfl (by kernel_rfl) (by kernel_rfl) (by kernel_rfl) (fun _ _ _ h => h) (Or.inr ⟨by rfl, rfl⟩) (hS) ?_
  try simp only [Act.put, List.setIfInBounds_toArray, List.set_cons_zero, List.set_cons_succ]
  refine anyH_take 13 24 (.bool true) rfl rfl (by kernel_rfl) (by kernel_rfl) (by kernel_rfl) (fun _ _ _ h => h) (Or.inl ⟨by rfl, by intro w hSw; go_simp⟩) (hS) ?_
  try simp only [Act.put, List.setIfInBounds_toArray, List.set_cons_zero, List.set_cons_succ]
  refine wpAnyH_done (by kernel_rfl) ?_ _
  have C4 := C0.later hS
  have ⟨p0, p1, p2, p3, p4, p5⟩ := kh _ hS
  have R4 := R0.below hS
  rename World => w9
  have KO : ∀ W, RdL W a ls.length c ls → Calls Try.prog 50 #[.agg #[.int .i64 peer, .int .i64 boot, .int .i64 life, .slice a ls.length c, .bool pend, .int .i64 miss]] W fun e w' => ∃ a' c', e = .returned (.agg #[.int .i64 peer, .int .i64 boot, .int .i64 life, .slice a' ls.length c', .bool pend, .int .i64 miss]) ∧ Own W.heap.size w' ⟨peer, boot, life, ls, pend, miss⟩ a' c' ∧ Below W.heap.size W w' := fun W h => own_any ⟨peer, boot, life, ls, pend, miss⟩ a c W h
  have hc4 := C4.size
  rw [hHB] at hc4
  go_wp2_with (first
    | (go_at_call 50; refine (KO _ R4).mono ?_; rintro e w5 ⟨a1, c1, rfl, O1, b5⟩; clear KO; have C5 := C4.later b5; have X2 : w5.heap[HB0 + 1 + 1]? = some (.cells z6 24 (0, 0)) := (by rw [← hHB]; exact C5.at_ 2 _ rfl))
    | ((with_reducible show wpList _ _ _ (Oper.mk _ (Op.store 24 _ _) _ _ _ _ :: _) _ _); refine wpList_store24row rfl _ _ rfl ⟨peer, boot, life, a1, ls.length, c1, pend, miss⟩ X2 rfl rfl rfl ?_))
  have hfar : ∀ g, HB0 + 1 + 1 < g → (w5.setRow (HB0 + 1 + 1) (HR.cells ⟨peer, boot, life, a1, ls.length, c1, pend, miss⟩).toArray).heap[g]? = w5.heap[g]? := fun g hg => setRow_other _ _ _ _ (by omega)
  refine bodyPost_ret (results_ct rfl _ _ (HB0 + 1 + 1) _ rfl (load_24 (d := ⟨peer, boot, life, a1, ls.length, c1, pend, miss⟩) (setRow_heap _ _ _ _ _ _ X2))) rfl ⟨a1, c1, rfl, ⟨O1.lst.of_block fun g off e => hfar g (by have := O1.new g off e; simp at hc4; omega), fun g off e => by have := O1.new g off e; simp at hc4; omega⟩, ?_⟩
  exact (Only.setRow (C := none_) (Only.of_below C5.below) (fun h => absurd h (by omega)) _).calm

set_option maxRecDepth 100000 in
set_option maxHeartbeats 8000000 in
theorem merge_old (id peer boot life : Int) (ls : List LS) (pend : Bool) (miss : Int) (a : Option Addr) (c : Nat) (name : ByteArray) (v p f : Int) (w : World) (R : RdL w a ls.length c ls) (hn : ls.length + 1 ≤ 65536) (hfit : fitB v p f id peer = true) (hnew0 : newB v p (regN name ls).v (regN name ls).p = false) : Calls Try.prog 34 #[.int .i64 id, .agg #[.int .i64 peer, .int .i64 boot, .int .i64 life, .slice a ls.length c, .bool pend, .int .i64 miss], .string name, rg v p f] w fun e w' => ∃ a' c', e = .returned (.tuple #[((HS.mk peer boot life ls pend miss).on a' c').val, .bool false]) ∧ Own w.heap.size w' (HS.mk peer boot life ls pend miss) a' c' ∧ Below w.heap.size w w' := by
  have C0 := (((Bx.nil w).add rfl (.cells #[.int .i64 peer, .int .i64 boot, .int .i64 life, .slice a ls.length c, .bool pend, .int .i64 miss] 24)).add (by simp) (.cells #[.int .i64 v, .int .i64 p, .int .i64 f] 42)).add (by simp) (.cells z6 24)
  have T0 := ((Tri.new (w.alloc (.cells #[.int .i64 peer, .int .i64 boot, .int .i64 life, .slice a ls.length c, .bool pend, .int .i64 miss] 24)) (.int .i64 v) (.int .i64 p) (.int .i64 f) 42).at (k' := w.heap.size + 1) (by simp)).alloc (.cells z6 24)
  have hz0 : w.heap.size + 3 = (((w.alloc (.cells #[.int .i64 peer, .int .i64 boot, .int .i64 life, .slice a ls.length c, .bool pend, .int .i64 miss] 24)).alloc (.cells #[.int .i64 v, .int .i64 p, .int .i64 f] 42)).alloc (.cells z6 24)).heap.size := by simp
  have HM : Hid (ls.length * 40 ≤ 140737488355328) := R.max
  have KR : ∀ W, RdL W a ls.length c ls → Calls Try.prog 30 #[.agg #[.int .i64 peer, .int .i64 boot, .int .i64 life, .slice a ls.length c, .bool pend, .int .i64 miss], .string name] W fun e w' => e = .returned (rg (regN name ls).v (regN name ls).p (regN name ls).f) ∧ Below W.heap.size W w' := fun W h => reg_any ⟨peer, boot, life, ls, pend, miss⟩ a c name W h
  obtain ⟨⟨xn, xv, xp, xf⟩, hx⟩ : ∃ x, regN name ls = x := ⟨_, rfl⟩
  simp only [hx] at KR
  have hnew : newB v p xv xp = false := by have := hnew0; rw [hx] at this; exact this
  clear hnew0 hx
  go_enter Try.func34, Try.ntmps34
  go_wp2
  obtain ⟨W0, hW0⟩ : ∃ W0, ((w.alloc (.cells #[.int .i64 peer, .int .i64 boot, .int .i64 life, .slice a ls.length c, .bool pend, .int .i64 miss] 24)).alloc (.cells #[.int .i64 v, .int .i64 p, .int .i64 f] 42)).alloc (.cells z6 24) = W0 := ⟨_, rfl⟩
  rw [hW0] at C0 T0 hz0
  have R0 := R.below C0.below
  have hW0' : ((w.alloc (.cells #[.int .i64 peer, .int .i64 boot, .int .i64 life, .slice a ls.length c, .bool pend, .int .i64 miss] 24)).alloc (.cells #[.int .i64 v, .int .i64 p, .int .i64 f] 42)).alloc (.cells #[.int .i64 0, .int .i64 0, .int .i64 0, .slice none 0 0, .bool false, .int .i64 0] 24) = W0 := hW0
  rw [hW0']
  clear hW0 hW0'
  obtain ⟨HB0, hHB⟩ : ∃ n, w.heap.size = n := ⟨_, rfl⟩
  have kr : ∀ X, Below W0.heap.size W0 X → X.cell? ⟨HB0 + 1, 0, none⟩ = some (.int .i64 v) ∧ X.cell? ⟨HB0 + 1, 1, none⟩ = some (.int .i64 p) ∧ X.cell? ⟨HB0 + 1, 2, none⟩ = some (.int .i64 f) := fun X h => by
    rw [← hHB]
    exact ⟨(h.cell (p := ⟨w.heap.size + 1, 0, none⟩) T0.lt).trans T0.c0, (h.cell (p := ⟨w.heap.size + 1, 1, none⟩) T0.lt).trans T0.c1, (h.cell (p := ⟨w.heap.size + 1, 2, none⟩) T0.lt).trans T0.c2⟩
  have kh : ∀ X, Below W0.heap.size W0 X → Cel6 X HB0 (.int .i64 peer) (.int .i64 boot) (.int .i64 life) (.slice a ls.length c) (.bool pend) (.int .i64 miss) := fun X h => by
    rw [← hHB]
    exact cel6 ((C0.later h).at0 _ rfl)
  simp only [hHB]
  refine wp_region_any (by kernel_rfl) ?_
  change wpAny _ _ _ _ _ _ _ (World.drew _)
  refine wpAny_narrow (fun W' => Below W0.heap.size W0 W') _ _ _ _ ?_
  refine anyH_take 0 11 (rg v p f) rfl rfl (by kernel_rfl) (by kernel_rfl) (by kernel_rfl) (fun _ _ _ h => h) (Or.inl ⟨by rfl, by intro w hSw; have ⟨k0, k1, k2⟩ := kr _ hSw; go_simp⟩) ((Below.refl _ _).drew) ?_
  try simp only [Act.put, List.setIfInBounds_toArray, List.set_cons_zero, List.set_cons_succ]
  refine anyH_take 1 12 (.int .i64 id) rfl rfl (by kernel_rfl) (by kernel_rfl) (by kernel_rfl) (fun _ _ _ h => h) (Or.inl ⟨by rfl, by intro w hSw; go_simp⟩) ((Below.refl _ _).drew) ?_
  try simp only [Act.put, List.setIfInBounds_toArray, List.set_cons_zero, List.set_cons_succ]
  refine anyH_take 2 13 (.pointer (some ⟨HB0, 0, none⟩)) rfl rfl (by kernel_rfl) (by kernel_rfl) (by kernel_rfl) (fun _ _ _ h => h) (Or.inl ⟨by rfl, by intro w hSw; go_simp⟩) ((Below.refl _ _).drew) ?_
  try simp only [Act.put, List.setIfInBounds_toArray, List.set_cons_zero, List.set_cons_succ]
  refine anyH_take 3 14 (.int .i64 peer) rfl rfl (by kernel_rfl) (by kernel_rfl) (by kernel_rfl) (fun _ _ _ h => h) (Or.inl ⟨by rfl, by intro w hSw; have ⟨k0, k1, k2, k3, k4, k5⟩ := kh _ hSw; go_simp⟩) ((Below.refl _ _).drew) ?_
  try simp only [Act.put, List.setIfInBounds_toArray, List.set_cons_zero, List.set_cons_succ]
  refine wpAnyH_ready (rs := [4]) (by kernel_rfl) (by simp) ?_
  refine AllReadyH.cons rfl (fun K hK => ?_) AllReadyH.nil
  go_simp
  go_wp2_with (go_at_call 57; refine (fit_any v p f id peer _).mono ?_; rw [hfit]; rintro e w4 ⟨rfl, b4⟩)
  refine hK.out _ _ ((Below.refl _ _).drew.trans b4) (fun hS => ?_)
  clear hK
  refine anyH_take 5 16 (.bool false) rfl rfl (by kernel_rfl) (by kernel_rfl) (by kernel_rfl) (fun _ _ _ h => h) (Or.inl ⟨by rfl, by intro w hSw; go_simp⟩) (hS) ?_
  try simp only [Act.put, List.setIfInBounds_toArray, List.set_cons_zero, List.set_cons_succ]
  refine anyH_take 6 17 (.bool false) rfl rfl (by kernel_rfl) (by kernel_rfl) (by kernel_rfl) (fun _ _ _ h => h) (Or.inl ⟨by rfl, by intro w hSw; go_simp⟩) (hS) ?_
  try simp only [Act.put, List.setIfInBounds_toArray, List.set_cons_zero, List.set_cons_succ]
  refine anyH_take 7 18 (rg v p f) rfl rfl (by kernel_rfl) (by kernel_rfl) (by kernel_rfl) (fun _ _ _ h => h) (Or.inl ⟨by rfl, by intro w hSw; have ⟨k0, k1, k2⟩ := kr _ hSw; go_simp⟩) (hS) ?_
  try simp only [Act.put, List.setIfInBounds_toArray, List.set_cons_zero, List.set_cons_succ]
  refine anyH_take 8 19 (.agg #[.int .i64 peer, .int .i64 boot, .int .i64 life, .slice a ls.length c, .bool pend, .int .i64 miss]) rfl rfl (by kernel_rfl) (by kernel_rfl) (by kernel_rfl) (fun _ _ _ h => h) (Or.inl ⟨by rfl, by intro w hSw; have ⟨k0, k1, k2, k3, k4, k5⟩ := kh _ hSw; go_simp⟩) (hS) ?_
  try simp only [Act.put, List.setIfInBounds_toArray, List.set_cons_zero, List.set_cons_succ]
  refine anyH_take 9 20 (.string name) rfl rfl (by kernel_rfl) (by kernel_rfl) (by kernel_rfl) (fun _ _ _ h => h) (Or.inl ⟨by rfl, by intro w hSw; go_simp⟩) (hS) ?_
  try simp only [Act.put, List.setIfInBounds_toArray, List.set_cons_zero, List.set_cons_succ]
  refine wpAnyH_ready (rs := [10]) (by kernel_rfl) (by simp) ?_
  refine AllReadyH.cons rfl (fun K hK => ?_) AllReadyH.nil
  go_simp
  go_wp2_with (go_at_call 30; refine (KR _ (R0.below hS)).mono ?_; rintro e w10 ⟨rfl, b10⟩)
  refine hK.out _ _ (hS.trans (b10.mono hS.size)) (fun hS => ?_)
  clear hK
  refine wpAnyH_ready (rs := [11]) (by kernel_rfl) (by simp) ?_
  refine AllReadyH.cons rfl (fun K hK => ?_) AllReadyH.nil
  go_simp
  go_wp2_with (go_at_call 58; refine (newer_any v p f xv xp xf _).mono ?_; rw [hnew]; rintro e w11 ⟨rfl, b11⟩)
  refine hK.out _ _ (hS.trans (b11.mono hS.size)) (fun hS => ?_)
  clear hK
  refine anyH_take 12 23 (.bool true) rfl rfl (by kernel_rfl) (by kernel_rfl) (by kernel_rfl) (fun _ _ _ h => h) (Or.inl ⟨by rfl, by intro w hSw; go_simp⟩) (hS) ?_
  try simp only [Act.put, List.setIfInBounds_toArray, List.set_cons_zero, List.set_cons_succ]
  refine anyH_take 13 24 (.bool true) rfl rfl (by kernel_rfl) (by kernel_rfl) (by kernel_rfl) (fun _ _ _ h => h) (Or.inl ⟨by rfl, by intro w hSw; go_simp⟩) (hS) ?_
  try simp only [Act.put, List.setIfInBounds_toArray, List.set_cons_zero, List.set_cons_succ]
  refine wpAnyH_done (by kernel_rfl) ?_ _
  have C4 := C0.later hS
  have ⟨p0, p1, p2, p3, p4, p5⟩ := kh _ hS
  have R4 := R0.below hS
  rename World => w9
  have KO : ∀ W, RdL W a ls.length c ls → Calls Try.prog 50 #[.agg #[.int .i64 peer, .int .i64 boot, .int .i64 life, .slice a ls.length c, .bool pend, .int .i64 miss]] W fun e w' => ∃ a' c', e = .returned (.agg #[.int .i64 peer, .int .i64 boot, .int .i64 life, .slice a' ls.length c', .bool pend, .int .i64 miss]) ∧ Own W.heap.size w' ⟨peer, boot, life, ls, pend, miss⟩ a' c' ∧ Below W.heap.size W w' := fun W h => own_any ⟨peer, boot, life, ls, pend, miss⟩ a c W h
  have hc4 := C4.size
  rw [hHB] at hc4
  go_wp2_with (first
    | (go_at_call 50; refine (KO _ R4).mono ?_; rintro e w5 ⟨a1, c1, rfl, O1, b5⟩; clear KO; have C5 := C4.later b5; have X2 : w5.heap[HB0 + 1 + 1]? = some (.cells z6 24 (0, 0)) := (by rw [← hHB]; exact C5.at_ 2 _ rfl))
    | ((with_reducible show wpList _ _ _ (Oper.mk _ (Op.store 24 _ _) _ _ _ _ :: _) _ _); refine wpList_store24row rfl _ _ rfl ⟨peer, boot, life, a1, ls.length, c1, pend, miss⟩ X2 rfl rfl rfl ?_))
  have hfar : ∀ g, HB0 + 1 + 1 < g → (w5.setRow (HB0 + 1 + 1) (HR.cells ⟨peer, boot, life, a1, ls.length, c1, pend, miss⟩).toArray).heap[g]? = w5.heap[g]? := fun g hg => setRow_other _ _ _ _ (by omega)
  refine bodyPost_ret (results_ct rfl _ _ (HB0 + 1 + 1) _ rfl (load_24 (d := ⟨peer, boot, life, a1, ls.length, c1, pend, miss⟩) (setRow_heap _ _ _ _ _ _ X2))) rfl ⟨a1, c1, rfl, ⟨O1.lst.of_block fun g off e => hfar g (by have := O1.new g off e; simp at hc4; omega), fun g off e => by have := O1.new g off e; simp at hc4; omega⟩, ?_⟩
  exact (Only.setRow (C := none_) (Only.of_below C5.below) (fun h => absurd h (by omega)) _).calm

set_option maxRecDepth 100000 in
set_option maxHeartbeats 8000000 in
theorem merge_new (id peer boot life : Int) (ls : List LS) (pend : Bool) (miss : Int) (a : Option Addr) (c : Nat) (name : ByteArray) (v p f : Int) (w : World) (R : RdL w a ls.length c ls) (hn : ls.length + 1 ≤ 65536) (hfit : fitB v p f id peer = true) (hnew0 : newB v p (regN name ls).v (regN name ls).p = true) : Calls Try.prog 34 #[.int .i64 id, .agg #[.int .i64 peer, .int .i64 boot, .int .i64 life, .slice a ls.length c, .bool pend, .int .i64 miss], .string name, rg v p f] w fun e w' => ∃ a' c', e = .returned (.tuple #[(((HS.mk peer boot life ls pend miss).wr name v p f).on a' c').val, .bool (sameB (regN name (wrL name v p f ls)).v (regN name (wrL name v p f ls)).p (regN name (wrL name v p f ls)).f v p f)]) ∧ Own w.heap.size w' ((HS.mk peer boot life ls pend miss).wr name v p f) a' c' ∧ Below w.heap.size w w' := by
  have C0 := (((Bx.nil w).add rfl (.cells #[.int .i64 peer, .int .i64 boot, .int .i64 life, .slice a ls.length c, .bool pend, .int .i64 miss] 24)).add (by simp) (.cells #[.int .i64 v, .int .i64 p, .int .i64 f] 42)).add (by simp) (.cells z6 24)
  have T0 := ((Tri.new (w.alloc (.cells #[.int .i64 peer, .int .i64 boot, .int .i64 life, .slice a ls.length c, .bool pend, .int .i64 miss] 24)) (.int .i64 v) (.int .i64 p) (.int .i64 f) 42).at (k' := w.heap.size + 1) (by simp)).alloc (.cells z6 24)
  have hz0 : w.heap.size + 3 = (((w.alloc (.cells #[.int .i64 peer, .int .i64 boot, .int .i64 life, .slice a ls.length c, .bool pend, .int .i64 miss] 24)).alloc (.cells #[.int .i64 v, .int .i64 p, .int .i64 f] 42)).alloc (.cells z6 24)).heap.size := by simp
  have HM : Hid (ls.length * 40 ≤ 140737488355328) := R.max
  have KR : ∀ W, RdL W a ls.length c ls → Calls Try.prog 30 #[.agg #[.int .i64 peer, .int .i64 boot, .int .i64 life, .slice a ls.length c, .bool pend, .int .i64 miss], .string name] W fun e w' => e = .returned (rg (regN name ls).v (regN name ls).p (regN name ls).f) ∧ Below W.heap.size W w' := fun W h => reg_any ⟨peer, boot, life, ls, pend, miss⟩ a c name W h
  obtain ⟨⟨xn, xv, xp, xf⟩, hx⟩ : ∃ x, regN name ls = x := ⟨_, rfl⟩
  simp only [hx] at KR
  have hnew : newB v p xv xp = true := by have := hnew0; rw [hx] at this; exact this
  have HWL : Hid ((wrL name v p f ls).length * 40 ≤ 140737488355328) := by
    show _ ≤ _
    have h1 : (wrL name v p f ls).length ≤ ls.length + 1 := by
      unfold wrL
      repeat' split
      all_goals simp [List.length_eraseIdx]
      all_goals (repeat' split)
      all_goals omega
    omega
  clear hnew0 hx
  go_enter Try.func34, Try.ntmps34
  go_wp2
  obtain ⟨W0, hW0⟩ : ∃ W0, ((w.alloc (.cells #[.int .i64 peer, .int .i64 boot, .int .i64 life, .slice a ls.length c, .bool pend, .int .i64 miss] 24)).alloc (.cells #[.int .i64 v, .int .i64 p, .int .i64 f] 42)).alloc (.cells z6 24) = W0 := ⟨_, rfl⟩
  rw [hW0] at C0 T0 hz0
  have R0 := R.below C0.below
  have hW0' : ((w.alloc (.cells #[.int .i64 peer, .int .i64 boot, .int .i64 life, .slice a ls.length c, .bool pend, .int .i64 miss] 24)).alloc (.cells #[.int .i64 v, .int .i64 p, .int .i64 f] 42)).alloc (.cells #[.int .i64 0, .int .i64 0, .int .i64 0, .slice none 0 0, .bool false, .int .i64 0] 24) = W0 := hW0
  rw [hW0']
  clear hW0 hW0'
  obtain ⟨HB0, hHB⟩ : ∃ n, w.heap.size = n := ⟨_, rfl⟩
  have kr : ∀ X, Below W0.heap.size W0 X → X.cell? ⟨HB0 + 1, 0, none⟩ = some (.int .i64 v) ∧ X.cell? ⟨HB0 + 1, 1, none⟩ = some (.int .i64 p) ∧ X.cell? ⟨HB0 + 1, 2, none⟩ = some (.int .i64 f) := fun X h => by
    rw [← hHB]
    exact ⟨(h.cell (p := ⟨w.heap.size + 1, 0, none⟩) T0.lt).trans T0.c0, (h.cell (p := ⟨w.heap.size + 1, 1, none⟩) T0.lt).trans T0.c1, (h.cell (p := ⟨w.heap.size + 1, 2, none⟩) T0.lt).trans T0.c2⟩
  have kh : ∀ X, Below W0.heap.size W0 X → Cel6 X HB0 (.int .i64 peer) (.int .i64 boot) (.int .i64 life) (.slice a ls.length c) (.bool pend) (.int .i64 miss) := fun X h => by
    rw [← hHB]
    exact cel6 ((C0.later h).at0 _ rfl)
  simp only [hHB]
  refine wp_region_any (by kernel_rfl) ?_
  change wpAny _ _ _ _ _ _ _ (World.drew _)
  refine wpAny_narrow (fun W' => Below W0.heap.size W0 W') _ _ _ _ ?_
  refine anyH_take 0 11 (rg v p f) rfl rfl (by kernel_rfl) (by kernel_rfl) (by kernel_rfl) (fun _ _ _ h => h) (Or.inl ⟨by rfl, by intro w hSw; have ⟨k0, k1, k2⟩ := kr _ hSw; go_simp⟩) ((Below.refl _ _).drew) ?_
  try simp only [Act.put, List.setIfInBounds_toArray, List.set_cons_zero, List.set_cons_succ]
  refine anyH_take 1 12 (.int .i64 id) rfl rfl (by kernel_rfl) (by kernel_rfl) (by kernel_rfl) (fun _ _ _ h => h) (Or.inl ⟨by rfl, by intro w hSw; go_simp⟩) ((Below.refl _ _).drew) ?_
  try simp only [Act.put, List.setIfInBounds_toArray, List.set_cons_zero, List.set_cons_succ]
  refine anyH_take 2 13 (.pointer (some ⟨HB0, 0, none⟩)) rfl rfl (by kernel_rfl) (by kernel_rfl) (by kernel_rfl) (fun _ _ _ h => h) (Or.inl ⟨by rfl, by intro w hSw; go_simp⟩) ((Below.refl _ _).drew) ?_
  try simp only [Act.put, List.setIfInBounds_toArray, List.set_cons_zero, List.set_cons_succ]
  refine anyH_take 3 14 (.int .i64 peer) rfl rfl (by kernel_rfl) (by kernel_rfl) (by kernel_rfl) (fun _ _ _ h => h) (Or.inl ⟨by rfl, by intro w hSw; have ⟨k0, k1, k2, k3, k4, k5⟩ := kh _ hSw; go_simp⟩) ((Below.refl _ _).drew) ?_
  try simp only [Act.put, List.setIfInBounds_toArray, List.set_cons_zero, List.set_cons_succ]
  refine wpAnyH_ready (rs := [4]) (by kernel_rfl) (by simp) ?_
  refine AllReadyH.cons rfl (fun K hK => ?_) AllReadyH.nil
  go_simp
  go_wp2_with (go_at_call 57; refine (fit_any v p f id peer _).mono ?_; rw [hfit]; rintro e w4 ⟨rfl, b4⟩)
  refine hK.out _ _ ((Below.refl _ _).drew.trans b4) (fun hS => ?_)
  clear hK
  refine anyH_take 5 16 (.bool false) rfl rfl (by kernel_rfl) (by kernel_rfl) (by kernel_rfl) (fun _ _ _ h => h) (Or.inl ⟨by rfl, by intro w hSw; go_simp⟩) (hS) ?_
  try simp only [Act.put, List.setIfInBounds_toArray, List.set_cons_zero, List.set_cons_succ]
  refine anyH_take 6 17 (.bool false) rfl rfl (by kernel_rfl) (by kernel_rfl) (by kernel_rfl) (fun _ _ _ h => h) (Or.inl ⟨by rfl, by intro w hSw; go_simp⟩) (hS) ?_
  try simp only [Act.put, List.setIfInBounds_toArray, List.set_cons_zero, List.set_cons_succ]
  refine anyH_take 7 18 (rg v p f) rfl rfl (by kernel_rfl) (by kernel_rfl) (by kernel_rfl) (fun _ _ _ h => h) (Or.inl ⟨by rfl, by intro w hSw; have ⟨k0, k1, k2⟩ := kr _ hSw; go_simp⟩) (hS) ?_
  try simp only [Act.put, List.setIfInBounds_toArray, List.set_cons_zero, List.set_cons_succ]
  refine anyH_take 8 19 (.agg #[.int .i64 peer, .int .i64 boot, .int .i64 life, .slice a ls.length c, .bool pend, .int .i64 miss]) rfl rfl (by kernel_rfl) (by kernel_rfl) (by kernel_rfl) (fun _ _ _ h => h) (Or.inl ⟨by rfl, by intro w hSw; have ⟨k0, k1, k2, k3, k4, k5⟩ := kh _ hSw; go_simp⟩) (hS) ?_
  try simp only [Act.put, List.setIfInBounds_toArray, List.set_cons_zero, List.set_cons_succ]
  refine anyH_take 9 20 (.string name) rfl rfl (by kernel_rfl) (by kernel_rfl) (by kernel_rfl) (fun _ _ _ h => h) (Or.inl ⟨by rfl, by intro w hSw; go_simp⟩) (hS) ?_
  try simp only [Act.put, List.setIfInBounds_toArray, List.set_cons_zero, List.set_cons_succ]
  refine wpAnyH_ready (rs := [10]) (by kernel_rfl) (by simp) ?_
  refine AllReadyH.cons rfl (fun K hK => ?_) AllReadyH.nil
  go_simp
  go_wp2_with (go_at_call 30; refine (KR _ (R0.below hS)).mono ?_; rintro e w10 ⟨rfl, b10⟩)
  refine hK.out _ _ (hS.trans (b10.mono hS.size)) (fun hS => ?_)
  clear hK
  refine wpAnyH_ready (rs := [11]) (by kernel_rfl) (by simp) ?_
  refine AllReadyH.cons rfl (fun K hK => ?_) AllReadyH.nil
  go_simp
  go_wp2_with (go_at_call 58; refine (newer_any v p f xv xp xf _).mono ?_; rw [hnew]; rintro e w11 ⟨rfl, b11⟩)
  refine hK.out _ _ (hS.trans (b11.mono hS.size)) (fun hS => ?_)
  clear hK
  refine anyH_take 12 23 (.bool false) rfl rfl (by kernel_rfl) (by kernel_rfl) (by kernel_rfl) (fun _ _ _ h => h) (Or.inl ⟨by rfl, by intro w hSw; go_simp⟩) (hS) ?_
  try simp only [Act.put, List.setIfInBounds_toArray, List.set_cons_zero, List.set_cons_succ]
  refine anyH_take 13 24 (.bool false) rfl rfl (by kernel_rfl) (by kernel_rfl) (by kernel_rfl) (fun _ _ _ h => h) (Or.inl ⟨by rfl, by intro w hSw; go_simp⟩) (hS) ?_
  try simp only [Act.put, List.setIfInBounds_toArray, List.set_cons_zero, List.set_cons_succ]
  refine wpAnyH_done (by kernel_rfl) ?_ _
  have C4 := C0.later hS
  have ⟨p0, p1, p2, p3, p4, p5⟩ := kh _ hS
  have ⟨q0, q1, q2⟩ := kr _ hS
  have R4 := R0.below hS
  have KW : ∀ W, RdL W a ls.length c ls → Calls Try.prog 32 #[.agg #[.int .i64 peer, .int .i64 boot, .int .i64 life, .slice a ls.length c, .bool pend, .int .i64 miss], .string name, rg v p f] W fun e w' => ∃ a' c', e = .returned (.agg #[.int .i64 peer, .int .i64 boot, .int .i64 life, .slice a' (wrL name v p f ls).length c', .bool pend, .int .i64 miss]) ∧ Own W.heap.size w' ((HS.mk peer boot life ls pend miss).wr name v p f) a' c' ∧ Below W.heap.size W w' := fun W h => write_any ⟨peer, boot, life, ls, pend, miss⟩ a c name v p f W h hn
  have hc4 := C4.size
  rw [hHB] at hc4
  go_wp2_with (go_at_call 32; refine (KW _ R4).mono ?_; rintro e w5 ⟨a1, c1, rfl, O1, b5⟩; clear KW)
  have C5 := (C4.later b5).later ((Below.refl _ _).alloc (Nat.le_refl _) (.cells #[.int .i64 peer, .int .i64 boot, .int .i64 life, .slice a1 (wrL name v p f ls).length c1, .bool pend, .int .i64 miss] 24))
  have O2 := O1.below ((Below.refl _ _).alloc (Nat.le_refl _) (.cells #[.int .i64 peer, .int .i64 boot, .int .i64 life, .slice a1 (wrL name v p f ls).length c1, .bool pend, .int .i64 miss] 24))
  have T5 := ((T0.below hS).below b5).alloc (.cells #[.int .i64 peer, .int .i64 boot, .int .i64 life, .slice a1 (wrL name v p f ls).length c1, .bool pend, .int .i64 miss] 24)
  have X5 := World.alloc_heap_new w5 (.cells #[.int .i64 peer, .int .i64 boot, .int .i64 life, .slice a1 (wrL name v p f ls).length c1, .bool pend, .int .i64 miss] 24)
  have X2 : (w5.alloc (.cells #[.int .i64 peer, .int .i64 boot, .int .i64 life, .slice a1 (wrL name v p f ls).length c1, .bool pend, .int .i64 miss] 24)).heap[HB0 + 1 + 1]? = some (.cells z6 24 (0, 0)) := by rw [← hHB]; exact C5.at_ 2 _ rfl
  rw [hHB] at T5
  have hs5 : HB0 + 3 ≤ w5.heap.size := by have := b5.size; simp at hc4; omega
  obtain ⟨W5, hW5⟩ : ∃ W5, w5.alloc (.cells #[.int .i64 peer, .int .i64 boot, .int .i64 life, .slice a1 (wrL name v p f ls).length c1, .bool pend, .int .i64 miss] 24) = W5 := ⟨_, rfl⟩
  rw [hW5] at C5 O2 T5 X5 X2 ⊢
  have hsz5 : W5.heap.size = w5.heap.size + 1 := by rw [← hW5]; simp
  clear hW5
  have R5 : RdL W5.drew a1 (wrL name v p f ls).length c1 (wrL name v p f ls) := (O2.lst.of_block (W' := W5.drew) fun _ _ _ => rfl).rd HWL.out
  have KR2 : ∀ W, RdL W a1 (wrL name v p f ls).length c1 (wrL name v p f ls) → Calls Try.prog 30 #[.agg #[.int .i64 peer, .int .i64 boot, .int .i64 life, .slice a1 (wrL name v p f ls).length c1, .bool pend, .int .i64 miss], .string name] W fun e w' => e = .returned (rg (regN name (wrL name v p f ls)).v (regN name (wrL name v p f ls)).p (regN name (wrL name v p f ls)).f) ∧ Below W.heap.size W w' := fun W h => reg_any ((HS.mk peer boot life ls pend miss).wr name v p f) a1 c1 name W h
  obtain ⟨⟨yn, yv, yp, yf⟩, hy⟩ : ∃ x, regN name (wrL name v p f ls) = x := ⟨_, rfl⟩
  simp only [hy] at KR2
  have HY : Hid (regN name (wrL name v p f ls) = ⟨yn, yv, yp, yf⟩) := hy
  clear hy
  have hne : w5.heap.size ≠ HB0 + 1 + 1 := by omega
  have kw : ∀ X, (Only (at1 (HB0 + 1 + 1)) W5 X ∧ ∃ cs, X.heap[HB0 + 1 + 1]? = some (.cells cs 24 (0, 0)) ∧ cs.size = 6) → Cel6 X w5.heap.size (.int .i64 peer) (.int .i64 boot) (.int .i64 life) (.slice a1 (wrL name v p f ls).length c1) (.bool pend) (.int .i64 miss) := fun X h => cel6 ((h.1.block _ (row_lt X5) hne).trans X5)
  have kr2 : ∀ X, (Only (at1 (HB0 + 1 + 1)) W5 X ∧ ∃ cs, X.heap[HB0 + 1 + 1]? = some (.cells cs 24 (0, 0)) ∧ cs.size = 6) → X.cell? ⟨HB0 + 1, 0, none⟩ = some (.int .i64 v) ∧ X.cell? ⟨HB0 + 1, 1, none⟩ = some (.int .i64 p) ∧ X.cell? ⟨HB0 + 1, 2, none⟩ = some (.int .i64 f) := fun X h => by
    have T6 := T5.of_block (h.1.block (HB0 + 1) T5.lt (by show ¬ HB0 + 1 = _; omega)) h.1.size
    exact ⟨T6.c0, T6.c1, T6.c2⟩
  clear hS
  refine wp_region_any (by kernel_rfl) ?_
  change wpAny _ _ _ _ _ _ _ (World.drew _)
  refine wpAny_narrow (fun W' => Only (at1 (HB0 + 1 + 1)) W5 W' ∧ ∃ cs, W'.heap[HB0 + 1 + 1]? = some (.cells cs 24 (0, 0)) ∧ cs.size = 6) _ _ _ _ ?_
  refine anyH_take 0 31 (.agg #[.int .i64 peer, .int .i64 boot, .int .i64 life, .slice a1 (wrL name v p f ls).length c1, .bool pend, .int .i64 miss]) rfl rfl (by kernel_rfl) (by kernel_rfl) (by kernel_rfl) (fun _ _ _ h => h) (Or.inl ⟨by rfl, by intro w hSw; have ⟨k0, k1, k2, k3, k4, k5⟩ := kw _ hSw; go_simp⟩) (⟨(Only.refl _ _).drew, _, X2, rfl⟩) ?_
  try simp only [Act.put, List.setIfInBounds_toArray, List.set_cons_zero, List.set_cons_succ]
  refine anyH_take 1 32 (.agg #[.int .i64 peer, .int .i64 boot, .int .i64 life, .slice a1 (wrL name v p f ls).length c1, .bool pend, .int .i64 miss]) rfl rfl (by kernel_rfl) (by kernel_rfl) (by kernel_rfl) (fun _ _ _ h => h) (Or.inl ⟨by rfl, by intro w hSw; have ⟨k0, k1, k2, k3, k4, k5⟩ := kw _ hSw; go_simp⟩) (⟨(Only.refl _ _).drew, _, X2, rfl⟩) ?_
  try simp only [Act.put, List.setIfInBounds_toArray, List.set_cons_zero, List.set_cons_succ]
  refine anyH_take 2 33 (.string name) rfl rfl (by kernel_rfl) (by kernel_rfl) (by kernel_rfl) (fun _ _ _ h => h) (Or.inl ⟨by rfl, by intro w hSw; go_simp⟩) (⟨(Only.refl _ _).drew, _, X2, rfl⟩) ?_
  try simp only [Act.put, List.setIfInBounds_toArray, List.set_cons_zero, List.set_cons_succ]
  refine anyH_take 4 35 (rg v p f) rfl rfl (by kernel_rfl) (by kernel_rfl) (by kernel_rfl) (fun _ _ _ h => h) (Or.inl ⟨by rfl, by intro w hSw; have ⟨k0, k1, k2⟩ := kr2 _ hSw; go_simp⟩) (⟨(Only.refl _ _).drew, _, X2, rfl⟩) ?_
  try simp only [Act.put, List.setIfInBounds_toArray, List.set_cons_zero, List.set_cons_succ]
  refine wpAnyH_ready (rs := [3]) (by kernel_rfl) (by simp) ?_
  refine AllReadyH.cons rfl (fun K hK => ?_) AllReadyH.nil
  go_simp
  go_wp2_with (go_at_call 30; refine (KR2 _ R5).mono ?_; rintro e w6 ⟨rfl, b6⟩; have hS6 : (Only (at1 (HB0 + 1 + 1)) W5 w6 ∧ ∃ cs, w6.heap[HB0 + 1 + 1]? = some (.cells cs 24 (0, 0)) ∧ cs.size = 6) := ⟨((Only.refl _ _).drew).trans (Only.of_below b6), _, (b6.block _ (row_lt X2)).trans X2, rfl⟩)
  refine hK.out _ _ (hS6) (fun hS => ?_)
  clear hK
  refine anyH_take 5 36 (.bool (sameB yv yp yf v p f)) rfl rfl (by kernel_rfl) (by kernel_rfl) (by kernel_rfl) (fun _ _ _ h => h) (Or.inl ⟨by rfl, fun X hSw => exec_eql42 rfl yv yp yf v p f rfl rfl X⟩) (hS) ?_
  try simp only [Act.put, List.setIfInBounds_toArray, List.set_cons_zero, List.set_cons_succ]
  refine wpAnyH_ready (rs := [6]) (by kernel_rfl) (by simp) ?_
  refine AllReadyH.cons rfl (fun K hK => ?_) AllReadyH.nil
  obtain ⟨o4, cs, Y2, hcs⟩ := _root_.id hS
  refine wp_store24row _ _ rfl ⟨peer, boot, life, a1, (wrL name v p f ls).length, c1, pend, miss⟩ Y2 hcs rfl rfl ?_
  refine hK.out _ _ (⟨o4.setRow (C := at1 (HB0 + 1 + 1)) (fun _ => rfl) _, _, setRow_heap _ _ _ _ _ _ Y2, rfl⟩) (fun hS9 => ?_)
  clear hK
  try simp only [Act.put, List.setIfInBounds_toArray, List.set_cons_zero, List.set_cons_succ]
  refine anyH_take 7 9 (.bool (sameB yv yp yf v p f)) rfl rfl (by kernel_rfl) (by kernel_rfl) (by kernel_rfl) (fun _ _ _ h => h) (Or.inl ⟨by rfl, by intro w hSw; go_simp⟩) (hS9) ?_
  try simp only [Act.put, List.setIfInBounds_toArray, List.set_cons_zero, List.set_cons_succ]
  refine wpAnyH_done (by kernel_rfl) ?_ _
  go_wp2
  have hlt2 : ∀ g, HB0 + 1 + 1 < g → g < W5.heap.size → _ := fun g h1 h2 => hS9.1.block g h2 (by show ¬ g = _; omega)
  refine bodyPost_ret (results_ct rfl _ _ (HB0 + 1 + 1) _ rfl (load_24 (d := ⟨peer, boot, life, a1, (wrL name v p f ls).length, c1, pend, miss⟩) (setRow_heap _ _ _ _ _ _ Y2))) rfl ⟨a1, c1, (by rw [HY.out]; rfl), ⟨O2.lst.of_block fun g off e => hlt2 g (by have := O1.new g off e; simp at hc4; omega) (O2.lst.lt' e), fun g off e => by have := O1.new g off e; simp at hc4; omega⟩, ?_⟩
  have hb := hS9.1.below (n := HB0) (by omega) (fun q hq => by rw [show q = _ from hq]; omega)
  have hc := C5.below
  rw [hHB] at hc
  exact hc.trans hb
/-- Merge. -/
theorem merge_hs (id : Int) (h : HS) (a : Option Addr) (c : Nat) (name : ByteArray) (v p f : Int) (w : World) (R : RdO w h a c) (hn : h.ls.length + 1 ≤ 65536) : Calls Try.prog 34 #[.int .i64 id, (h.on a c).val, .string name, rg v p f] w fun e w' => ∃ a' c', e = .returned (.tuple #[((h.mg id name v p f).on a' c').val, .bool (h.mgC id name v p f)]) ∧ Own w.heap.size w' (h.mg id name v p f) a' c' ∧ Below w.heap.size w w' := by
  obtain ⟨peer, boot, life, ls, pend, miss⟩ := h
  cases h1 : fitB v p f id peer with
  | false =>
    have e1 : (HS.mk peer boot life ls pend miss).mgB id name v p f = false := by simp [HS.mgB, h1]
    have e2 : (HS.mk peer boot life ls pend miss).mg id name v p f = HS.mk peer boot life ls pend miss := by unfold HS.mg; rw [e1]; rfl
    have e3 : (HS.mk peer boot life ls pend miss).mgC id name v p f = false := by unfold HS.mgC; rw [e1]; rfl
    rw [e2, e3]
    exact merge_unfit id peer boot life ls pend miss a c name v p f w R hn h1
  | true =>
    cases h2 : newB v p (regN name ls).v (regN name ls).p with
    | false =>
      have e1 : (HS.mk peer boot life ls pend miss).mgB id name v p f = false := by simp [HS.mgB, h1, h2]
      have e2 : (HS.mk peer boot life ls pend miss).mg id name v p f = HS.mk peer boot life ls pend miss := by unfold HS.mg; rw [e1]; rfl
      have e3 : (HS.mk peer boot life ls pend miss).mgC id name v p f = false := by unfold HS.mgC; rw [e1]; rfl
      rw [e2, e3]
      exact merge_old id peer boot life ls pend miss a c name v p f w R hn h1 h2
    | true =>
      have e1 : (HS.mk peer boot life ls pend miss).mgB id name v p f = true := by simp [HS.mgB, h1, h2]
      have e2 : (HS.mk peer boot life ls pend miss).mg id name v p f = (HS.mk peer boot life ls pend miss).wr name v p f := by unfold HS.mg; rw [e1]; rfl
      have e3 : (HS.mk peer boot life ls pend miss).mgC id name v p f = sameB (regN name (wrL name v p f ls)).v (regN name (wrL name v p f ls)).p (regN name (wrL name v p f ls)).f v p f := by unfold HS.mgC; rw [e1]; rfl
      rw [e2, e3]
      exact merge_new id peer boot life ls pend miss a c name v p f w R hn h1 h2
end Go.Proofs.Ytacefkchhcpgaaa
