/-
  Package bag: remove.
-/
import Derived.Test.YtoppecppmjpgiaaBgC
namespace Go.Proofs.Ytoppecppmjpgiaa
open Go.ChangeShapes Go.WideShapes Go.ChangeAt Go.RowKit Go.Maps
set_option linter.unusedVariables false
set_option linter.unusedSimpArgs false

/-- copy(s[p:p+m], s[:m]) in place. -/
theorem wp_copy_over {o : Oper} {A : Act} {W : World} {K : Go.Act → World → Prop} {Q : Exit → Go.Act → World → Prop} (x y : Operand) (ho : o.op = .call { callee := .builtin .copy, args := #[x, y], argTypes := #[22, 22] }) {g off n cap c c' : Nat} {ds : List DG} (p m : Nat)
    (L : Lst W (some ⟨g, off, none⟩) n cap ds) (hp : p + m ≤ n)
    (hx : A.eval x = .slice (some ⟨g, off + p * 4, none⟩) m c) (hy : A.eval y = .slice (some ⟨g, off, none⟩) m c')
    (h : ∀ w', Lst w' (some ⟨g, off, none⟩) n cap (ds.take p ++ ds.take m ++ ds.drop (p + m)) → Only (at1 g) W w' → K (A.put o.dst (.int .i64 (m : Int))) w') : o.wp Try.prog A W K Q := by
  obtain ⟨i0, hi, hz0, hz1, hz2⟩ := info_parts info33
  have hsz := L.size
  have hdl : (ds.take m).length = m := by rw [List.length_take, hsz]; omega
  obtain ⟨cur', hst, L'⟩ := L.over p (ds.take m) (by rw [hdl]; omega)
  rw [hdl] at L'
  have hrg := L.range 0 (by omega)
  have hfc := run_firstCells_some (P := Try.prog) W i0.size m ⟨g, off, none⟩ m c' (dcs (ds.take m)) (by rw [hz1, dcs_len, hdl, Nat.mul_comm]) (fun q u hq => by
    rw [add_plain]
    have h1 := hrg q u (by
      rw [List.drop_zero]
      rw [dcs_take, List.getElem?_take] at hq
      split at hq
      · exact hq
      · cases hq)
    simpa using h1)
  have hrun : (Builtin.copy_ #[22, 22] o.type #[.slice (some ⟨g, off + p * 4, none⟩) m c, .slice (some ⟨g, off, none⟩) m c']).run Try.prog W = .ok (.int .i64 (m : Int)) (W.setRow g cur') := by
    rw [hz1] at hfc
    simp [Builtin.copy_, run_underlying Try.underlying22, sizeOf, typeInfo, hi, hz1, Builtin.lenOf, hfc, hst, goInt]
  unfold Oper.wp
  simp [execOp, ho, resolve, invoke, builtin, hx, hy, hrun, Result.andThen]
  exact h _ L' (Only.setRow (C := at1 g) (Only.refl _ _) (fun _ => rfl) _)
theorem Lst.tail {W : World} {g off n cap : Nat} {d : DG} {ds : List DG} (L : Lst W (some ⟨g, off, none⟩) n cap (d :: ds)) : Lst W (some ⟨g, off + 4, none⟩) (n - 1) (cap - 1) ds := by
  have hs := L.size
  have hl := L.le
  simp only [List.length_cons] at hs
  rcases L.mem with ⟨e, _⟩ | ⟨g', off', cur, e, hh, hc, ht⟩
  · cases e
  · cases e
    refine ⟨by omega, by omega, by have := L.max; omega, .inr ⟨g, off + 4, cur, rfl, hh, by omega, ?_⟩⟩
    have h4 : d.cells.length = 4 := rfl
    have e2 := congrArg (List.drop 4) ht
    rw [show dcs (d :: ds) = d.cells ++ dcs ds from rfl, List.drop_append, List.drop_of_length_le (l := d.cells) (by omega), h4, List.drop_take, List.drop_drop] at e2
    simpa [show 4 * n - 4 = 4 * (n - 1) by omega] using e2
set_option maxHeartbeats 2000000 in
theorem remove_hi (b M g off n cap k : Nat) (next : Int) (ds : List DG) (D : DataW Unit) (i : Nat) (w : World) (B : BagAt w b M (some ⟨g, off, none⟩) n cap k next ds D) (hi : i < n) (hh : n / 2 ≤ i) : Calls Try.prog 40 #[.pointer (some ⟨b, 0, none⟩), .int .i64 (i : Int)] w fun e w' => e = .returned (.tuple #[]) ∧ BagAt w' b M (some ⟨g, off, none⟩) (n - 1) cap k next (ds.eraseIdx i) D ∧ Only (bagC b M (some ⟨g, off, none⟩)) w w' := by
  have c1 := row_cell B.obj 1 (.slice (some ⟨g, off, none⟩) n cap) rfl
  have f1 := row_free B.obj 1
  have hmx := Nat.le_trans B.lst.le B.lst.max
  have hq : (n : Int) / 2 ≤ (i : Int) := by omega
  have hwr : IntKind.i64.wrap ((i : Int) + 1) = (i : Int) + 1 := by rw [IntKind.wrap_i64]; omega
  have KE := erase_any g off n cap ds i (i + 1) w B.lst hi rfl
  go_enter Try.func40, Try.ntmps40
  go_wp2_with (go_at_call 56; go_must (refine KE.mono ?_; rintro e w1 ⟨rfl, L1, o1⟩; clear KE; have O1 : Only (atL (some ⟨g, off, none⟩)) w w1 := o1.mono (fun q _ hq => ⟨off, (by rw [show q = g from hq])⟩); have B2 := B.setList O1 L1 (fun g' off' e => (by cases e; exact B.gb)); have hb1 : w1.heap[b]? = w.heap[b]? := o1.block b (row_lt B.obj) (fun e => B.gb (show b = g from e).symm); have c7 := row_cell (hb1.trans B.obj) 1 (.slice (some ⟨g, off, none⟩) n cap) rfl; have f7 := row_free (hb1.trans B.obj) 1))
  exact bodyPost_ret (v := .tuple #[]) (by simp [results, Try.results40, go_sem]) rfl ⟨rfl, B2, (O1.mono fun q _ hq => .inr (.inr hq)).setCell (fun _ => .inl rfl) _ _⟩
set_option maxHeartbeats 4000000 in
theorem remove_lo (b M g off n cap k : Nat) (next : Int) (ds : List DG) (D : DataW Unit) (i : Nat) (w : World) (B : BagAt w b M (some ⟨g, off, none⟩) n cap k next ds D) (hh : i < n / 2) : Calls Try.prog 40 #[.pointer (some ⟨b, 0, none⟩), .int .i64 (i : Int)] w fun e w' => e = .returned (.tuple #[]) ∧ BagAt w' b M (some ⟨g, off + 4, none⟩) (n - 1) (cap - 1) k next (ds.eraseIdx i) D ∧ Only (bagC b M (some ⟨g, off, none⟩)) w w' := by
  have c1 := row_cell B.obj 1 (.slice (some ⟨g, off, none⟩) n cap) rfl
  have hmx := Nat.le_trans B.lst.le B.lst.max
  have hle := B.lst.le
  have hsz := B.lst.size
  have hq : ¬ (n : Int) / 2 ≤ (i : Int) := by omega
  have hwr : IntKind.i64.wrap ((i : Int) + 1) = ((i + 1 : Nat) : Int) := by rw [IntKind.wrap_i64]; omega
  go_enter Try.func40, Try.ntmps40
  go_wp2_with (fail)
  refine wp_region_any (by kernel_rfl) ?_
  change wpAny _ _ _ _ _ _ _ (World.drew _)
  have B1 := B.of_blocks (W' := w.drew) (fun _ _ => rfl)
  have hc1 : ¬ cap = 1 := by omega
  have hii : i + 1 ≤ n := by omega
  have hic : i + 1 ≤ cap := by omega
  have hic0 : i ≤ cap := by omega
  have z1 : (0 : Int) ≤ (i : Int) + 1 := by omega
  have z2 : (i : Int) + 1 ≤ (cap : Int) := by omega
  have z3 : (1 : Int) ≤ (i : Int) + 1 := by omega
  have hrow : ∀ W, Only (at1 g) w.drew W → W.cell? ⟨b, 1, none⟩ = some (.slice (some ⟨g, off, none⟩) n cap) := fun W o => row_cell ((o.block b (row_lt B1.obj) (fun e => B.gb (show b = g from e).symm)).trans B1.obj) 1 _ rfl
  refine any_take 0 23 (.pointer (some ⟨b, 0, none⟩)) rfl rfl (by kernel_rfl) (by kernel_rfl) (by kernel_rfl) (fun _ _ _ h => h) (Or.inl ⟨by rfl, by intro w; go_simp⟩) ?_
  try simp only [Act.put, List.setIfInBounds_toArray, List.set_cons_zero, List.set_cons_succ]
  refine any_take 1 24 (.pointer (some ⟨b, 0, none⟩)) rfl rfl (by kernel_rfl) (by kernel_rfl) (by kernel_rfl) (fun _ _ _ h => h) (Or.inl ⟨by rfl, by intro w; go_simp⟩) ?_
  try simp only [Act.put, List.setIfInBounds_toArray, List.set_cons_zero, List.set_cons_succ]
  refine any_take 2 25 (.pointer (some ⟨b, 1, none⟩)) rfl rfl (by kernel_rfl) (by kernel_rfl) (by kernel_rfl) (fun _ _ _ h => h) (Or.inl ⟨by rfl, by intro w; go_simp⟩) ?_
  try simp only [Act.put, List.setIfInBounds_toArray, List.set_cons_zero, List.set_cons_succ]
  refine any_take 4 27 (.int .i64 (i : Int)) rfl rfl (by kernel_rfl) (by kernel_rfl) (by kernel_rfl) (fun _ _ _ h => h) (Or.inl ⟨by rfl, by intro w; go_simp⟩) ?_
  try simp only [Act.put, List.setIfInBounds_toArray, List.set_cons_zero, List.set_cons_succ]
  refine any_take 5 28 (.int .i64 ((i + 1 : Nat) : Int)) rfl rfl (by kernel_rfl) (by kernel_rfl) (by kernel_rfl) (fun _ _ _ h => h) (Or.inl ⟨by rfl, by intro w; go_simp⟩) ?_
  try simp only [Act.put, List.setIfInBounds_toArray, List.set_cons_zero, List.set_cons_succ]
  refine any_take 7 30 (.pointer (some ⟨b, 0, none⟩)) rfl rfl (by kernel_rfl) (by kernel_rfl) (by kernel_rfl) (fun _ _ _ h => h) (Or.inl ⟨by rfl, by intro w; go_simp⟩) ?_
  try simp only [Act.put, List.setIfInBounds_toArray, List.set_cons_zero, List.set_cons_succ]
  refine any_take 8 31 (.pointer (some ⟨b, 0, none⟩)) rfl rfl (by kernel_rfl) (by kernel_rfl) (by kernel_rfl) (fun _ _ _ h => h) (Or.inl ⟨by rfl, by intro w; go_simp⟩) ?_
  try simp only [Act.put, List.setIfInBounds_toArray, List.set_cons_zero, List.set_cons_succ]
  refine any_take 9 32 (.pointer (some ⟨b, 1, none⟩)) rfl rfl (by kernel_rfl) (by kernel_rfl) (by kernel_rfl) (fun _ _ _ h => h) (Or.inl ⟨by rfl, by intro w; go_simp⟩) ?_
  try simp only [Act.put, List.setIfInBounds_toArray, List.set_cons_zero, List.set_cons_succ]
  refine any_take 11 34 (.int .i64 (i : Int)) rfl rfl (by kernel_rfl) (by kernel_rfl) (by kernel_rfl) (fun _ _ _ h => h) (Or.inl ⟨by rfl, by intro w; go_simp⟩) ?_
  try simp only [Act.put, List.setIfInBounds_toArray, List.set_cons_zero, List.set_cons_succ]
  refine wpAny_narrow (fun W => Only (at1 g) w.drew W) _ _ _ _ ?_
  refine anyH_take 3 26 (.slice (some ⟨g, off, none⟩) n cap) rfl rfl (by kernel_rfl) (by kernel_rfl) (by kernel_rfl) (fun _ _ _ h => h) (Or.inl ⟨by rfl, by intro w hSw; have c := hrow _ hSw; go_simp⟩) (Only.refl _ _) ?_
  try simp only [Act.put, List.setIfInBounds_toArray, List.set_cons_zero, List.set_cons_succ]
  refine anyH_take 10 33 (.slice (some ⟨g, off, none⟩) n cap) rfl rfl (by kernel_rfl) (by kernel_rfl) (by kernel_rfl) (fun _ _ _ h => h) (Or.inl ⟨by rfl, by intro w hSw; have c := hrow _ hSw; go_simp⟩) (Only.refl _ _) ?_
  try simp only [Act.put, List.setIfInBounds_toArray, List.set_cons_zero, List.set_cons_succ]
  refine anyH_take 6 29 (.slice (some ⟨g, off + 4, none⟩) i (cap - 1)) rfl rfl (by kernel_rfl) (by kernel_rfl) (by kernel_rfl) (fun _ _ _ h => h) (Or.inl ⟨by rfl, by intro w hSw; go_simp⟩) (Only.refl _ _) ?_
  try simp only [Act.put, List.setIfInBounds_toArray, List.set_cons_zero, List.set_cons_succ]
  refine anyH_take 12 35 (.slice (some ⟨g, off, none⟩) i cap) rfl rfl (by kernel_rfl) (by kernel_rfl) (by kernel_rfl) (fun _ _ _ h => h) (Or.inl ⟨by rfl, by intro w hSw; go_simp⟩) (Only.refl _ _) ?_
  try simp only [Act.put, List.setIfInBounds_toArray, List.set_cons_zero, List.set_cons_succ]
  refine wpAnyH_ready (rs := [13]) (by kernel_rfl) (by simp) ?_
  refine AllReadyH.cons rfl (fun K hK => ?_) AllReadyH.nil
  refine wp_copy_over _ _ rfl 1 i B1.lst (by omega) rfl rfl ?_
  intro w2 L2 o2
  refine hK.out _ _ o2 (fun hS => ?_)
  clear hK
  refine wpAnyH_done (by kernel_rfl) ?_ _
  have c2 := hrow _ o2
  have hn0 : (0 : Int) < (n : Int) := by omega
  have hb2 : w2.heap[b]? = w.drew.heap[b]? := o2.block b (row_lt B1.obj) (fun e => B.gb (show b = g from e).symm)
  clear z1 z2 z3 hwr hic hii
  go_wp2_with ((with_reducible show wpList _ _ _ (Oper.mk _ (Op.store 33 _ _) _ _ _ _ :: _) _ _); go_must (refine wpList_store33 rfl _ _ rfl 0 DG.z L2 (by omega) (by rfl) rfl ?_; intro w3 L3 o3; have hb3 : w3.heap[b]? = w.drew.heap[b]? := (o3.block b (row_lt (hb2.trans B1.obj)) (fun e => B.gb (show b = g from e).symm)).trans hb2; have c3 := row_cell (hb3.trans B1.obj) 1 (.slice (some ⟨g, off, none⟩) n cap) rfl; have f3 := row_free (hb3.trans B1.obj) 1))
  obtain ⟨d0, ds', rfl⟩ : ∃ d0 ds', ds = d0 :: ds' := by cases ds with | nil => (simp at hsz; omega) | cons a l => exact ⟨a, l, rfl⟩
  have eL : (List.take 1 (d0 :: ds') ++ List.take i (d0 :: ds') ++ List.drop (1 + i) (d0 :: ds')).set 0 DG.z = DG.z :: (d0 :: ds').eraseIdx i := by rw [List.eraseIdx_eq_take_drop_succ, Nat.add_comm 1 i]; simp
  rw [eL] at L3
  have O3 : Only (atL (some ⟨g, off, none⟩)) w.drew w3 := (o2.trans o3).mono (fun q _ hq => ⟨off, by rw [show q = g from hq]⟩)
  have B4 := B1.setList O3 L3.tail (fun g' off' e => by cases e; exact B.gb)
  exact bodyPost_end (v := .tuple #[]) (by simp [results, Try.results40, go_sem]) rfl ⟨rfl, B4, ((Only.refl _ _).drew.trans (O3.mono fun q _ hq => .inr (.inr hq))).setCell (fun _ => .inl rfl) _ _⟩
end Go.Proofs.Ytoppecppmjpgiaa
