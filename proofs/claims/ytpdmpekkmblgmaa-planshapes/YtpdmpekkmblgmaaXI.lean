/-
  Records in memory, within a fence or a round.
-/
import Derived.Test.YtpdmpekkmblgmaaX0
namespace Go.Proofs.Ytpdmpekkmblgmaa
open Go.ChangeShapes Go.WideShapes Go.ChangeAt Go.RowKit Go.Maps Go.Shelf
set_option linter.unusedVariables false
set_option linter.unusedSimpArgs false
attribute [local go_sem] Oper.semAt_some

theorem MemG.re {N : Nat} {C : Nat → Prop} {w W : World} {L : List Blk} (M : MemG N C w W L) : MemG N C W W L := ⟨Same.refl _ _ _, M.size, fun b h => Nat.lt_of_lt_of_le (M.cb b h) M.same.size, M.at_, M.nd⟩
section
variable {F : Fence} {n : Nat} {ops : Array Oper} {rest : List Oper} {o : Oper} {A : Act} {w W : World} {l : List Blk} {Q : Exit → Act → World → Prop} {t : TypeId} {z : Array Value} {N : Nat} {C : Nat → Prop} {P : Program} {md : Region.Mode} {S : World → Prop} {K : Act → World → Prop}
theorem anyInH_two (i j : Nat) {o p : Oper} {fuel : Nat} {listed : Array Bool} {a : Act} {w : World} (hr : Region.ready md ops listed = [i, j]) (ho : ops[i]? = some o) (hp : ops[j]? = some p) (hw : Region.wanted o (yielded ops a.tmps) = true) (hv : Region.wanted p (yielded ops a.tmps) = true)
    (h : ∀ K : Act → World → Prop, Shut (∀ a' w', S w' → (S w' → wpAnyInH F n P md ops Q S fuel (listed.setIfInBounds i true) a' w') → K a' w') → Oper.wpIn F n P o a w K Q)
    (k : ∀ K : Act → World → Prop, Shut (∀ a' w', S w' → (S w' → wpAnyInH F n P md ops Q S fuel (listed.setIfInBounds j true) a' w') → K a' w') → Oper.wpIn F n P p a w K Q) : wpAnyInH F n P md ops Q S (fuel + 1) listed a w := by
  refine ⟨fun h0 => (by rw [hr] at h0; cases h0), ?_⟩
  rw [hr]
  intro q hq
  have e : q = i ∨ q = j := by simpa using hq
  unfold wpOpIn
  rcases e with e | e
  · subst e
    simp only [ho]
    rw [if_pos hw]
    exact h _ (fun a' w' h1 h2 => ⟨h1, h2 h1⟩)
  · subst e
    simp only [hp]
    rw [if_pos hv]
    exact k _ (fun a' w' h1 h2 => ⟨h1, h2 h1⟩)
theorem wpIn_plain {W' : World} {v : Value} (hab : o.about Try.prog W A.eval = none) (hd : ∀ c, o.op ≠ .defer c) (hr : (execOp A.eval o).run Try.prog W = .ok (.value v) W') (H : K (A.put o.dst v) W') : o.wpIn F n Try.prog A W K Q := by
  unfold Oper.wpIn
  refine ⟨fun f hf => (by rw [hab] at hf; cases hf), ?_⟩
  rw [Oper.semAt_plain F _ _ hd, hr]
  exact H
theorem exec_alloc {ρ : Operand → Value} (ho : o.op = .alloc t) (R : RT t z) : (execOp ρ o).run Try.prog W = .ok (.value (.pointer (some ⟨W.heap.size, 0, none⟩))) (W.alloc (.cells z t)) := by
  unfold execOp
  simp only [ho, Sem.run_bind, Instr.alloc, R.zero, Result.andThen_ok, newVar, newRow, run_newObj_alloc, Sem.run_pure]
  rfl
theorem wpListIn_alloc (M : MemG N C w W l) (hgd : o.guard = none) (ho : o.op = .alloc t) (R : RT t z)
    (H : ∀ k W', MemG N C w W' ((k, z, t) :: l) → wpListIn F n Try.prog ops Q rest (A.put o.dst (.pointer (some ⟨k, 0, none⟩))) W') : wpListIn F n Try.prog ops Q (o :: rest) A W :=
  wpListIn_plain hgd fun K hK => wpIn_plain (by simp [Oper.about, ho]) (by rw [ho]; intro c h; cases h) (exec_alloc ho R) (hK _ _ (H _ _ (M.add z t)))
theorem wpIn_put (M : MemG N C w W l) (x y : Operand) (ho : o.op = .store t x y) (R : RT t z) (i : Nat) {k : Nat} {y0 : Array Value} (c : Array Value) (hi : l[i]? = some (k, y0, t)) (hx : A.eval x = .pointer (some ⟨k, 0, none⟩)) (hy : A.eval y = .agg c) (h0 : y0.size = z.size) (hs : c.size = z.size) (h1 : ∀ u ∈ c.toList, u.oneCell' = true)
    (H : ∀ W', MemG N C w W' (l.set i (k, c, t)) → K (A.put o.dst undef) W') : o.wpIn F n Try.prog A W K Q := by
  have ha : W.heap[k]? = some (.cells y0 t (0, 0)) := M.get (List.mem_of_getElem? hi)
  unfold Oper.wpIn
  refine ⟨by simp [Oper.about, ho], ?_⟩
  rw [Oper.semAt_plain F _ _ (by rw [ho]; intro c hc'; cases hc')]
  unfold execOp
  simp only [ho, hx, hy, Instr.storeAt, Instr.sureAddr, Sem.run_bind, Sem.run_pure, Result.andThen_ok, run_storeVar_row (P := Try.prog) W k t t y0 c ha (by rw [hs]; exact R.size) (by rw [h0, hs]) (by simp; exact fun i hi => h1 _ (by simp))]
  exact H _ (M.put i c hi rfl rfl rfl (size_setRow _ _ _) (setRow_heap _ _ _ _ _ _ ha) (fun q hq => setRow_other _ _ _ _ hq))
theorem wpListIn_load (M : MemG N C w W l) (hgd : o.guard = none) (x : Operand) (ho : o.op = .load t x) (R : RT t z) {k : Nat} {c : Array Value} (hx : A.eval x = .pointer (some ⟨k, 0, none⟩)) (hk : (k, c, t) ∈ l) (hs : c.size = z.size)
    (H : wpListIn F n Try.prog ops Q rest (A.put o.dst (.agg c)) W) : wpListIn F n Try.prog ops Q (o :: rest) A W := by
  refine wpListIn_plain hgd fun K hK => ?_
  unfold Oper.wpIn
  refine ⟨?_, ?_⟩
  · simp [Oper.about, ho]
  · rw [Oper.semAt_plain F _ _ (by rw [ho]; intro c hc'; cases hc'), exec_loadr ho R hx (M.get hk) hs]
    exact hK _ _ H
theorem wpListIn_put (M : MemG N C w W l) (hgd : o.guard = none) (x y : Operand) (ho : o.op = .store t x y) (R : RT t z) (i : Nat) {k : Nat} {y0 : Array Value} (c : Array Value) (hi : l[i]? = some (k, y0, t)) (hx : A.eval x = .pointer (some ⟨k, 0, none⟩)) (hy : A.eval y = .agg c) (h0 : y0.size = z.size) (hs : c.size = z.size) (h1 : ∀ u ∈ c.toList, u.oneCell' = true)
    (H : ∀ W', MemG N C w W' (l.set i (k, c, t)) → wpListIn F n Try.prog ops Q rest (A.put o.dst undef) W') : wpListIn F n Try.prog ops Q (o :: rest) A W :=
  wpListIn_plain hgd fun _ hK => wpIn_put M x y ho R i c hi hx hy h0 hs h1 fun W' M' => hK _ _ (H W' M')
theorem wpListIn_cell3 (M : MemG N C w W l) (hgd : o.guard = none) (x : Operand) (ho : o.op = .load 3 x) {k i : Nat} {c : Array Value} {T : TypeId} (m : Int) (hx : A.eval x = .pointer (some ⟨k, i, none⟩)) (hk : (k, c, T) ∈ l) (hv : c[i]? = some (.int .i64 m))
    (H : wpListIn F n Try.prog ops Q rest (A.put o.dst (.int .i64 m)) W) : wpListIn F n Try.prog ops Q (o :: rest) A W := by
  have hc := row_cell (M.get hk) i _ hv
  have hr : (execOp A.eval o).run Try.prog W = .ok (.value (.int .i64 m)) W := by
    unfold execOp
    simp only [ho, hx]
    go_simp
  exact wpListIn_plain hgd fun K hK => wpIn_plain (by simp [Oper.about, ho]) (by rw [ho]; intro c h; cases h) hr (hK _ _ H)
theorem wpListIn_cell4 (M : MemG N C w W l) (hgd : o.guard = none) (x : Operand) (ho : o.op = .load 4 x) {k i : Nat} {c : Array Value} {T : TypeId} (m : Bool) (hx : A.eval x = .pointer (some ⟨k, i, none⟩)) (hk : (k, c, T) ∈ l) (hv : c[i]? = some (.bool m))
    (H : wpListIn F n Try.prog ops Q rest (A.put o.dst (.bool m)) W) : wpListIn F n Try.prog ops Q (o :: rest) A W := by
  have hc := row_cell (M.get hk) i _ hv
  have hr : (execOp A.eval o).run Try.prog W = .ok (.value (.bool m)) W := by
    unfold execOp
    simp only [ho, hx]
    go_simp
  exact wpListIn_plain hgd fun K hK => wpIn_plain (by simp [Oper.about, ho]) (by rw [ho]; intro c h; cases h) hr (hK _ _ H)
theorem wpListIn_set3 (M : MemG N C w W l) (hgd : o.guard = none) (x y : Operand) (ho : o.op = .store 3 x y) (j : Nat) {k i : Nat} {c : Array Value} {T : TypeId} (m : Int) (v0 : Value) (hi : l[j]? = some (k, c, T)) (hx : A.eval x = .pointer (some ⟨k, i, none⟩)) (hy : A.eval y = .int .i64 m) (hv : c[i]? = some v0)
    (H : ∀ W', MemG N C w W' (l.set j (k, c.setIfInBounds i (.int .i64 m), T)) → wpListIn F n Try.prog ops Q rest (A.put o.dst undef) W') : wpListIn F n Try.prog ops Q (o :: rest) A W := by
  have ha : W.heap[k]? = some (.cells c T (0, 0)) := M.get (List.mem_of_getElem? hi)
  have hc := row_cell ha i _ hv
  have hf := row_free ha i
  refine wpListIn_plain hgd fun K hK => ?_
  unfold Oper.wpIn
  refine ⟨by simp [Oper.about, ho], ?_⟩
  rw [Oper.semAt_plain F _ _ (by rw [ho]; intro c hc'; cases hc')]
  unfold execOp
  simp only [ho, hx, hy]
  go_simp
  refine hK _ _ (H _ (M.put j _ hi rfl rfl rfl (by simp [World.setCell]) ?_ (fun q hq => Below.heap_setCell _ _ _ _ hq)))
  exact set_row ha i _
end
end Go.Proofs.Ytpdmpekkmblgmaa
