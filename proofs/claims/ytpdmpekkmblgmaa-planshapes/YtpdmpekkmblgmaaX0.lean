/-
  Records in memory, each in a block of its own, and what the operations make of them.
-/
import Derived.Test.YtpdmpekkmblgmaaML
import Derived.Test.YtpdmpekkmblgmaaU0
import Derived.Test.YtpdmpekkmblgmaaHeldIn
import Derived.Test.YtpdmpekkmblgmaaHeldM
namespace Go.Proofs.Ytpdmpekkmblgmaa
open Go.ChangeShapes Go.WideShapes Go.ChangeAt Go.RowKit
set_option linter.unusedVariables false
set_option linter.unusedSimpArgs false

theorem results_ct {P : Program} {fn : Func} {p q : Tmp} {t : TypeId} (h : fn.results = #[.cell p t, .tmp q]) (tmps : Array Value) (w : World) (g : Nat) (v : Value)
    (hp : tmps.getD p undef = .pointer (some ⟨g, 0, none⟩)) (h1 : (loadVar t ⟨g, 0, none⟩).run P w = .ok v w) :
    (results fn tmps).run P w = .ok (.tuple #[v, tmps.getD q undef]) w := by
  have hp' : tmps[p]?.getD undef = .pointer (some ⟨g, 0, none⟩) := by simpa using hp
  simp [results, h, hp', asAddr, h1]
abbrev Blk := Nat × Array Value × TypeId
/-- A type whose values are rows of cells. -/
structure RT (t : TypeId) (z : Array Value) : Prop where
  zero : ∀ W, (zeroValue t).run Try.prog W = .ok (.agg z) W
  row : ∃ d, Try.prog.underlying t = some d ∧ d.isRow = true
  size : (Try.prog.info? t).map (·.size) = some z.size
abbrev zL : Array Value := #[.int .i64 0, .int .i64 0]
theorem rt49 : RT 49 zL := ⟨fun W => by kernel_rfl, ⟨_, Try.underlying49, rfl⟩, by show _ = some 2; kernel_rfl⟩
def At (W : World) (k : Nat) (c : Array Value) (t : TypeId) : Prop := W.heap[k]? = some (.cells c t (0, 0))
/-- Since w what lies below N, and what is the caller's (C), is as it was; and the blocks of l, neither below N nor the caller's, hold what l says. -/
structure MemG (N : Nat) (C : Nat → Prop) (w W : World) (l : List Blk) : Prop where
  same : Same N C w W
  ns : N ≤ w.heap.size
  cb : ∀ b, C b → b < w.heap.size
  at_ : ∀ p, p ∈ l → At W p.1 p.2.1 p.2.2 ∧ N ≤ p.1 ∧ ¬ C p.1
  nd : (l.map Prod.fst).Nodup
/-- Since w nothing that was there has changed, and the blocks of l, made since, hold what l says. -/
abbrev Mem (w W : World) (l : List Blk) : Prop := MemG w.heap.size (fun _ => False) w W l
section
variable {N : Nat} {C : Nat → Prop}
theorem Mem.nil (w : World) : Mem w w [] := ⟨Same.refl _ _ _, Nat.le_refl _, fun b h => h.elim, fun p h => (by cases h), by simp⟩
theorem MemG.below {w W : World} {l : List Blk} (M : MemG w.heap.size (fun _ => False) w W l) : Below w.heap.size w W := M.same.below (Nat.le_refl _)
theorem MemG.size {w W : World} {l : List Blk} (M : MemG N C w W l) : N ≤ W.heap.size := Nat.le_trans M.ns M.same.size
theorem MemG.drew {w W : World} {l : List Blk} (M : MemG N C w W l) : MemG N C w W.drew l := ⟨M.same.drew, M.ns, M.cb, M.at_, M.nd⟩
theorem MemG.later {w W W' : World} {l : List Blk} (M : MemG N C w W l) (b : Below W.heap.size W W') : MemG N C w W' l :=
  ⟨M.same.trans (Same.of_below b), M.ns, M.cb, fun p hp => ⟨(b.block _ (row_lt (M.at_ p hp).1)).trans (M.at_ p hp).1, (M.at_ p hp).2⟩, M.nd⟩
theorem MemG.get {w W : World} {l : List Blk} (M : MemG N C w W l) {k : Nat} {c : Array Value} {t : TypeId} (h : (k, c, t) ∈ l) : W.heap[k]? = some (.cells c t (0, 0)) := (M.at_ _ h).1
theorem MemG.lt {w W : World} {l : List Blk} (M : MemG N C w W l) {k : Nat} {c : Array Value} {t : TypeId} (h : (k, c, t) ∈ l) : k < W.heap.size := row_lt (M.get h)
theorem MemG.ge {w W : World} {l : List Blk} (M : MemG N C w W l) {k : Nat} {c : Array Value} {t : TypeId} (h : (k, c, t) ∈ l) : N ≤ k := (M.at_ _ h).2.1
theorem MemG.add {w W : World} {l : List Blk} (M : MemG N C w W l) (c : Array Value) (t : TypeId) : MemG N C w (W.alloc (.cells c t)) ((W.heap.size, c, t) :: l) := by
  refine ⟨M.same.trans (Same.alloc _ _ _ _), M.ns, M.cb, fun p hp => ?_, ?_⟩
  · rcases List.mem_cons.1 hp with rfl | hp
    · exact ⟨World.alloc_heap_new W _, M.size, fun h => by have := M.cb _ h; have := M.same.size; dsimp only at *; omega⟩
    · exact ⟨(Below.heap_alloc _ _ _ (row_lt (M.at_ p hp).1)).trans (M.at_ p hp).1, (M.at_ p hp).2⟩
  · rw [List.map_cons, List.nodup_cons]
    refine ⟨fun h => ?_, M.nd⟩
    obtain ⟨p, hp, e⟩ := List.mem_map.1 h
    have := row_lt (M.at_ p hp).1
    dsimp only at e
    omega
theorem MemG.tail {w W : World} {l : List Blk} {b : Blk} (M : MemG N C w W (b :: l)) : MemG N C w W l := ⟨M.same, M.ns, M.cb, fun p hp => M.at_ p (.tail _ hp), (List.nodup_cons.1 (by simpa using M.nd)).2⟩
/-- Some of the blocks, in their order. -/
theorem MemG.sub {w W : World} {l l' : List Blk} (M : MemG N C w W l) (h : l'.Sublist l) : MemG N C w W l' := ⟨M.same, M.ns, M.cb, fun p hp => M.at_ p (h.subset hp), (h.map Prod.fst).nodup M.nd⟩
end
section
variable {N : Nat} {C : Nat → Prop}
theorem nodup_set (l : List Blk) (i k : Nat) (x y : Array Value × TypeId) (h : l[i]? = some (k, y)) : (l.set i (k, x)).map Prod.fst = l.map Prod.fst := by
  induction l generalizing i with
  | nil => cases h
  | cons a l ih =>
    cases i with
    | zero => cases h; rfl
    | succ i => simp only [List.set_cons_succ, List.map_cons, ih i h]
theorem nodup_at {l : List Blk} (hn : (l.map Prod.fst).Nodup) : ∀ {i j k : Nat} {x y : Array Value × TypeId}, l[i]? = some (k, x) → l[j]? = some (k, y) → i = j := by
  induction l with
  | nil => intro i j k x y h; cases h
  | cons a l ih =>
    rw [List.map_cons, List.nodup_cons] at hn
    intro i j k x y hi hj
    cases i with
    | zero =>
      cases j with
      | zero => rfl
      | succ j =>
        cases hi
        rw [List.getElem?_cons_succ] at hj
        exact absurd (List.mem_map.2 ⟨(k, y), List.mem_of_getElem? hj, rfl⟩) hn.1
    | succ i =>
      cases j with
      | zero =>
        cases hj
        rw [List.getElem?_cons_succ] at hi
        exact absurd (List.mem_map.2 ⟨(k, x), List.mem_of_getElem? hi, rfl⟩) hn.1
      | succ j => exact congrArg _ (ih hn.2 hi hj)
/-- One block is changed. -/
theorem MemG.put {w W W' : World} {l : List Blk} (M : MemG N C w W l) (i : Nat) {k : Nat} {y : Array Value} {t : TypeId} (x : Array Value) (hi : l[i]? = some (k, y, t)) (h1 : W'.os = W.os) (h2 : W'.tape = W.tape) (h3 : W'.output = W.output) (h4 : W'.heap.size = W.heap.size)
    (hk : At W' k x t) (hf : ∀ q, q ≠ k → W'.heap[q]? = W.heap[q]?) : MemG N C w W' (l.set i (k, x, t)) := by
  have hb := (M.at_ _ (List.mem_of_getElem? hi)).2
  dsimp only at hb
  refine ⟨⟨h1.trans M.same.os, h2.trans M.same.tape, h3.trans M.same.output, by rw [h4]; exact M.same.size, fun q hq hc => (hf q (fun e => by subst e; rcases hc with hc | hc; exact absurd hc (by omega); exact hb.2 hc)).trans (M.same.block q hq hc)⟩, M.ns, M.cb, fun p hp => ?_, ?_⟩
  · obtain ⟨j, hj⟩ := List.getElem?_of_mem hp
    by_cases e : i = j
    · subst e
      rw [List.getElem?_set_self (List.getElem?_eq_some_iff.1 hi).1] at hj
      cases hj
      exact ⟨hk, hb⟩
    · rw [List.getElem?_set_ne e] at hj
      have hm := M.at_ p (List.mem_of_getElem? hj)
      refine ⟨(hf p.1 (fun ep => e ?_)).trans hm.1, hm.2⟩
      obtain ⟨p1, p2⟩ := p
      dsimp only at ep
      subst ep
      exact nodup_at M.nd hi hj
  · rw [nodup_set l i k (x, t) (y, t) hi]
    exact M.nd
end
theorem load_row {W : World} {k : Nat} {c z : Array Value} {t : TypeId} (h : W.heap[k]? = some (.cells c t (0, 0))) (R : RT t z) (hs : c.size = z.size) : (loadVar t ⟨k, 0, none⟩).run Try.prog W = .ok (.agg c) W := by
  obtain ⟨d, hu, hd⟩ := R.row
  have hr : W.rangeAt k 0 c.toList := fun j v hv => by
    rw [Nat.zero_add]
    exact row_cell h j v (by simpa using hv)
  have := run_loadVar_mid (P := Try.prog) W k 0 t c.toList d hr hu hd (by rw [Array.length_toList, hs]; exact R.size)
  simpa using this
section
variable {ops : Array Oper} {rest : List Oper} {o : Oper} {A : Act} {w W : World} {l : List Blk} {Q : Exit → Act → World → Prop} {K : Act → World → Prop} {t : TypeId} {z : Array Value} {N : Nat} {C : Nat → Prop}
theorem exec_loadr {ρ : Operand → Value} {x : Operand} (ho : o.op = .load t x) (R : RT t z) {k : Nat} {c : Array Value} (hx : ρ x = .pointer (some ⟨k, 0, none⟩)) (hc : W.heap[k]? = some (.cells c t (0, 0))) (hs : c.size = z.size) : (execOp ρ o).run Try.prog W = .ok (.value (.agg c)) W := by
  simp only [execOp, ho, hx, Instr.loadAt, Instr.sureAddr, Sem.run_bind, Sem.run_pure, Result.andThen_ok, load_row hc R hs]
theorem wpList_load (M : MemG N C w W l) (hgd : Region.wanted o (yielded ops A.tmps) = true) (x : Operand) (ho : o.op = .load t x) (R : RT t z) {k : Nat} {c : Array Value} (hx : A.eval x = .pointer (some ⟨k, 0, none⟩)) (hk : (k, c, t) ∈ l) (hs : c.size = z.size)
    (H : wpList Try.prog ops Q rest (A.put o.dst (.agg c)) W) : wpList Try.prog ops Q (o :: rest) A W := by
  unfold wpList
  rw [if_pos hgd]
  left
  unfold Oper.wp
  rw [exec_loadr ho R hx (M.get hk) hs]
  exact H
theorem wp_put (M : MemG N C w W l) (x y : Operand) (ho : o.op = .store t x y) (R : RT t z) (i : Nat) {k : Nat} {y0 : Array Value} (c : Array Value) (hi : l[i]? = some (k, y0, t)) (hx : A.eval x = .pointer (some ⟨k, 0, none⟩)) (hy : A.eval y = .agg c) (h0 : y0.size = z.size) (hs : c.size = z.size) (h1 : ∀ u ∈ c.toList, u.oneCell' = true)
    (H : ∀ W', MemG N C w W' (l.set i (k, c, t)) → K (A.put o.dst undef) W') : o.wp Try.prog A W K Q := by
  have ha : W.heap[k]? = some (.cells y0 t (0, 0)) := M.get (List.mem_of_getElem? hi)
  refine wp_store_row t x y ho k c hx hy t _ ha (by rw [hs]; exact R.size) (by rw [h0, hs]) (by simp; exact fun i hi => h1 _ (by simp)) ?_
  exact H _ (M.put i c hi rfl rfl rfl (size_setRow _ _ _) (setRow_heap _ _ _ _ _ _ ha) (fun q hq => setRow_other _ _ _ _ hq))
theorem wpList_put (M : MemG N C w W l) (hgd : o.guard = none) (x y : Operand) (ho : o.op = .store t x y) (R : RT t z) (i : Nat) {k : Nat} {y0 : Array Value} (c : Array Value) (hi : l[i]? = some (k, y0, t)) (hx : A.eval x = .pointer (some ⟨k, 0, none⟩)) (hy : A.eval y = .agg c) (h0 : y0.size = z.size) (hs : c.size = z.size) (h1 : ∀ u ∈ c.toList, u.oneCell' = true)
    (H : ∀ W', MemG N C w W' (l.set i (k, c, t)) → wpList Try.prog ops Q rest (A.put o.dst undef) W') : wpList Try.prog ops Q (o :: rest) A W :=
  wpList_plain hgd fun _ hK => wp_put M x y ho R i c hi hx hy h0 hs h1 fun W' M' => hK _ _ (H W' M')
theorem wp_box (M : MemG N C w W l) (x : Operand) (ho : o.op = .box t x) (c : Array Value) (hx : A.eval x = .agg c)
    (H : ∀ k W', MemG N C w W' ((k, c, t) :: l) → K (A.put o.dst (.pointer (some ⟨k, 0, none⟩))) W') : o.wp Try.prog A W K Q := by
  unfold Oper.wp execOp
  simp only [ho, hx, Sem.run_bind, Instr.box, newVar, newRow, run_newObj_alloc, Sem.run_pure, Result.andThen_ok]
  exact H _ _ (M.add c t)
theorem wpList_box (M : MemG N C w W l) (hgd : o.guard = none) (x : Operand) (ho : o.op = .box t x) (c : Array Value) (hx : A.eval x = .agg c)
    (H : ∀ k W', MemG N C w W' ((k, c, t) :: l) → wpList Try.prog ops Q rest (A.put o.dst (.pointer (some ⟨k, 0, none⟩))) W') : wpList Try.prog ops Q (o :: rest) A W :=
  wpList_plain hgd fun _ hK => wp_box M x ho c hx fun k W' M' => hK _ _ (H k W' M')
theorem wp_alloc (M : MemG N C w W l) (ho : o.op = .alloc t) (R : RT t z)
    (H : ∀ k W', MemG N C w W' ((k, z, t) :: l) → K (A.put o.dst (.pointer (some ⟨k, 0, none⟩))) W') : o.wp Try.prog A W K Q := by
  unfold Oper.wp execOp
  simp only [ho, Sem.run_bind, Instr.alloc, R.zero, Result.andThen_ok, newVar, newRow, run_newObj_alloc, Sem.run_pure]
  exact H _ _ (M.add z t)
theorem wpList_alloc (M : MemG N C w W l) (hgd : o.guard = none) (ho : o.op = .alloc t) (R : RT t z)
    (H : ∀ k W', MemG N C w W' ((k, z, t) :: l) → wpList Try.prog ops Q rest (A.put o.dst (.pointer (some ⟨k, 0, none⟩))) W') : wpList Try.prog ops Q (o :: rest) A W :=
  wpList_plain hgd fun _ hK => wp_alloc M ho R fun k W' M' => hK _ _ (H k W' M')
theorem wpList_cell22 (M : MemG N C w W l) (hgd : Region.wanted o (yielded ops A.tmps) = true) (x : Operand) (ho : o.op = .load 22 x) {k i : Nat} {c : Array Value} {T : TypeId} (n : Int) (hx : A.eval x = .pointer (some ⟨k, i, none⟩)) (hk : (k, c, T) ∈ l) (hv : c[i]? = some (.int .u64 n))
    (H : wpList Try.prog ops Q rest (A.put o.dst (.int .u64 n)) W) : wpList Try.prog ops Q (o :: rest) A W := by
  unfold wpList
  rw [if_pos hgd]
  left
  have hc := row_cell (M.get hk) i _ hv
  unfold Oper.wp execOp
  simp only [ho, hx]
  go_simp
  exact H
theorem wpList_set22 (M : MemG N C w W l) (hgd : o.guard = none) (x y : Operand) (ho : o.op = .store 22 x y) (j : Nat) {k i : Nat} {c : Array Value} {T : TypeId} (n : Int) (v0 : Value) (hi : l[j]? = some (k, c, T)) (hx : A.eval x = .pointer (some ⟨k, i, none⟩)) (hy : A.eval y = .int .u64 n) (hv : c[i]? = some v0)
    (H : ∀ W', MemG N C w W' (l.set j (k, c.setIfInBounds i (.int .u64 n), T)) → wpList Try.prog ops Q rest (A.put o.dst undef) W') : wpList Try.prog ops Q (o :: rest) A W := by
  have ha : W.heap[k]? = some (.cells c T (0, 0)) := M.get (List.mem_of_getElem? hi)
  refine wpList_plain hgd fun K hK => ?_
  have hc := row_cell ha i _ hv
  have hf := row_free ha i
  unfold Oper.wp execOp
  simp only [ho, hx, hy]
  go_simp
  refine hK _ _ (H _ (M.put j _ hi rfl rfl rfl (by simp [World.setCell]) ?_ (fun q hq => Below.heap_setCell _ _ _ _ hq)))
  exact set_row ha i _
theorem wpList_cell3 (M : MemG N C w W l) (hgd : Region.wanted o (yielded ops A.tmps) = true) (x : Operand) (ho : o.op = .load 3 x) {k i : Nat} {c : Array Value} {T : TypeId} (n : Int) (hx : A.eval x = .pointer (some ⟨k, i, none⟩)) (hk : (k, c, T) ∈ l) (hv : c[i]? = some (.int .i64 n))
    (H : wpList Try.prog ops Q rest (A.put o.dst (.int .i64 n)) W) : wpList Try.prog ops Q (o :: rest) A W := by
  unfold wpList
  rw [if_pos hgd]
  left
  have hc := row_cell (M.get hk) i _ hv
  unfold Oper.wp execOp
  simp only [ho, hx]
  go_simp
  exact H
theorem wpList_set3 (M : MemG N C w W l) (hgd : o.guard = none) (x y : Operand) (ho : o.op = .store 3 x y) (j : Nat) {k i : Nat} {c : Array Value} {T : TypeId} (n : Int) (v0 : Value) (hi : l[j]? = some (k, c, T)) (hx : A.eval x = .pointer (some ⟨k, i, none⟩)) (hy : A.eval y = .int .i64 n) (hv : c[i]? = some v0)
    (H : ∀ W', MemG N C w W' (l.set j (k, c.setIfInBounds i (.int .i64 n), T)) → wpList Try.prog ops Q rest (A.put o.dst undef) W') : wpList Try.prog ops Q (o :: rest) A W := by
  have ha : W.heap[k]? = some (.cells c T (0, 0)) := M.get (List.mem_of_getElem? hi)
  refine wpList_plain hgd fun K hK => ?_
  have hc := row_cell ha i _ hv
  have hf := row_free ha i
  unfold Oper.wp execOp
  simp only [ho, hx, hy]
  go_simp
  refine hK _ _ (H _ (M.put j _ hi rfl rfl rfl (by simp [World.setCell]) ?_ (fun q hq => Below.heap_setCell _ _ _ _ hq)))
  exact set_row ha i _
theorem wpList_cell4 (M : MemG N C w W l) (hgd : Region.wanted o (yielded ops A.tmps) = true) (x : Operand) (ho : o.op = .load 4 x) {k i : Nat} {c : Array Value} {T : TypeId} (n : Bool) (hx : A.eval x = .pointer (some ⟨k, i, none⟩)) (hk : (k, c, T) ∈ l) (hv : c[i]? = some (.bool n))
    (H : wpList Try.prog ops Q rest (A.put o.dst (.bool n)) W) : wpList Try.prog ops Q (o :: rest) A W := by
  unfold wpList
  rw [if_pos hgd]
  left
  have hc := row_cell (M.get hk) i _ hv
  unfold Oper.wp execOp
  simp only [ho, hx]
  go_simp
  exact H
theorem wpList_set4 (M : MemG N C w W l) (hgd : o.guard = none) (x y : Operand) (ho : o.op = .store 4 x y) (j : Nat) {k i : Nat} {c : Array Value} {T : TypeId} (n : Bool) (v0 : Value) (hi : l[j]? = some (k, c, T)) (hx : A.eval x = .pointer (some ⟨k, i, none⟩)) (hy : A.eval y = .bool n) (hv : c[i]? = some v0)
    (H : ∀ W', MemG N C w W' (l.set j (k, c.setIfInBounds i (.bool n), T)) → wpList Try.prog ops Q rest (A.put o.dst undef) W') : wpList Try.prog ops Q (o :: rest) A W := by
  have ha : W.heap[k]? = some (.cells c T (0, 0)) := M.get (List.mem_of_getElem? hi)
  refine wpList_plain hgd fun K hK => ?_
  have hc := row_cell ha i _ hv
  have hf := row_free ha i
  unfold Oper.wp execOp
  simp only [ho, hx, hy]
  go_simp
  refine hK _ _ (H _ (M.put j _ hi rfl rfl rfl (by simp [World.setCell]) ?_ (fun q hq => Below.heap_setCell _ _ _ _ hq)))
  exact set_row ha i _
theorem wpList_cell23 (M : MemG N C w W l) (hgd : Region.wanted o (yielded ops A.tmps) = true) (x : Operand) (ho : o.op = .load 23 x) {k i : Nat} {c : Array Value} {T : TypeId} (a : Option Addr) (p q : Nat) (hx : A.eval x = .pointer (some ⟨k, i, none⟩)) (hk : (k, c, T) ∈ l) (hv : c[i]? = some (.slice a p q))
    (H : wpList Try.prog ops Q rest (A.put o.dst (.slice a p q)) W) : wpList Try.prog ops Q (o :: rest) A W := by
  unfold wpList
  rw [if_pos hgd]
  left
  have hc := row_cell (M.get hk) i _ hv
  unfold Oper.wp execOp
  simp only [ho, hx]
  go_simp
  exact H
theorem wpList_set23 (M : MemG N C w W l) (hgd : o.guard = none) (x y : Operand) (ho : o.op = .store 23 x y) (j : Nat) {k i : Nat} {c : Array Value} {T : TypeId} (a : Option Addr) (p q : Nat) (v0 : Value) (hi : l[j]? = some (k, c, T)) (hx : A.eval x = .pointer (some ⟨k, i, none⟩)) (hy : A.eval y = .slice a p q) (hv : c[i]? = some v0)
    (H : ∀ W', MemG N C w W' (l.set j (k, c.setIfInBounds i (.slice a p q), T)) → wpList Try.prog ops Q rest (A.put o.dst undef) W') : wpList Try.prog ops Q (o :: rest) A W := by
  have ha : W.heap[k]? = some (.cells c T (0, 0)) := M.get (List.mem_of_getElem? hi)
  refine wpList_plain hgd fun K hK => ?_
  have hc := row_cell ha i _ hv
  have hf := row_free ha i
  unfold Oper.wp execOp
  simp only [ho, hx, hy]
  go_simp
  refine hK _ _ (H _ (M.put j _ hi rfl rfl rfl (by simp [World.setCell]) ?_ (fun q hq => Below.heap_setCell _ _ _ _ hq)))
  exact set_row ha i _
end
end Go.Proofs.Ytpdmpekkmblgmaa
