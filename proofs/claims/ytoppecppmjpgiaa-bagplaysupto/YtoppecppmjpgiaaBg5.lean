/-
  Package bag: Mend.
-/
import Derived.Test.YtoppecppmjpgiaaBg3
namespace Go.Proofs.Ytoppecppmjpgiaa
open Go.ChangeShapes Go.WideShapes Go.ChangeAt Go.RowKit Go.Maps
set_option linter.unusedVariables false
set_option linter.unusedSimpArgs false

theorem only_turned {W W' : World} {M : Nat} (h : W.mapTurned W' M) : Only (at1 M) W W' := by
  have g := h.grown
  exact ⟨g.os, g.tape, g.output, g.size, fun q hq hn => g.block q hq (fun e => hn (by cases e; rfl))⟩
theorem BagAt.turned {W W' : World} {b M n cap k k' : Nat} {a : Option Addr} {next : Int} {ds : List DG} {D D' : DataW Unit} (h : BagAt W b M a n cap k next ds D) (o : Only (at1 M) W W') (m : W'.ownsMap Try.prog 65 (unitElem (H := Unit)) M k' D') : BagAt W' b M a n cap k' next ds D' :=
  ⟨(o.block b (row_lt h.obj) h.bM).trans h.obj, h.lst.of_block fun g off e => o.block g (by have l := h.lst; rw [e] at l; exact l.lt) (by subst e; exact h.gM), m⟩
theorem wp_delete65 {o : Oper} {A : Act} {W : World} {K : Go.Act → World → Prop} {Q : Exit → Go.Act → World → Prop} (p q : Operand) (ho : o.op = .call { callee := .builtin .delete, args := #[p, q], argTypes := #[59, 65] }) {M k : Nat} {D : DataW Unit} {x y : Int}
    (hp : A.eval p = .map (some M)) (hq : A.eval q = lnk (min x y) (max x y)) (hm : W.ownsMap Try.prog 65 (unitElem (H := Unit)) M k D) (hx : I64 x) (hy : I64 y)
    (h : ∀ w', w'.ownsMap Try.prog 65 (unitElem (H := Unit)) M k (D.del (klOf (min x y) (max x y))) → Only (at1 M) W w' → K (A.put o.dst (.tuple #[])) w') : o.wp Try.prog A W K Q := by
  have hmn : I64 (min x y) := by unfold I64 at *; omega
  have hmx : I64 (max x y) := by unfold I64 at *; omega
  obtain ⟨w', hrun, m', t'⟩ := hm.drop keyed65 Try.underlying59 (key65 _ _ (wf_i64 hmn) (wf_i64 hmx)) o.type
  unfold Oper.wp
  simp [execOp, ho, resolve, invoke, builtin, hp, hq, hrun, Result.andThen]
  exact h _ m' (only_turned t')
theorem exec_load65 {o : Oper} {A : Act} {W : World} {p : Operand} {g : Nat} {x y : Int} (ho : o.op = .load 65 p) (hp : A.eval p = .pointer (some ⟨g, 0, none⟩)) (hh : W.heap[g]? = some (.cells #[.int .i64 x, .int .i64 y] 65 (0, 0))) : (execOp A.eval o).run Try.prog W = .ok (.value (lnk x y)) W := by
  unfold execOp
  simp only [ho, hp, Instr.loadAt, Instr.sureAddr, Sem.run_bind, Sem.run_pure, Result.andThen_ok, load_65 hh]
set_option maxHeartbeats 4000000 in
theorem mend_any (b M : Nat) (a : Option Addr) (n cap k : Nat) (next : Int) (ds : List DG) (D : DataW Unit) (x y : Int) (w : World) (B : BagAt w b M a n cap k next ds D) (hx : I64 x) (hy : I64 y) : Calls Try.prog 21 #[.pointer (some ⟨b, 0, none⟩), .int .i64 x, .int .i64 y] w fun e w' => e = .returned (.bool (cut D x y)) ∧ BagAt w' b M a n cap k next ds (D.del (klOf (min x y) (max x y))) ∧ Only (at1 M) w w' := by
  obtain ⟨ct, hct⟩ : ∃ c, cut D x y = c := ⟨_, rfl⟩
  rw [hct]
  go_enter Try.func21, Try.ntmps21
  go_wp2_with (first | (go_at_call 34; refine (given_any b M a n cap k next ds D _ B).mono ?_; rintro e w1 ⟨rfl, hw⟩; rw [hw]; clear hw) | (go_at_call 38; refine (pair_any x y _).mono ?_; rintro e w2 ⟨rfl, b2⟩))
  have S1 := b2.alloc b2.size (.cells #[.int .i64 (min x y), .int .i64 (max x y)] 65)
  have H1 : (w2.alloc (.cells #[.int .i64 (min x y), .int .i64 (max x y)] 65)).heap[w2.heap.size]? = some (.cells #[.int .i64 (min x y), .int .i64 (max x y)] 65 (0, 0)) := World.alloc_heap_new _ _
  obtain ⟨l, hl⟩ : ∃ l, w2.heap.size = l := ⟨_, rfl⟩
  rw [hl] at H1 ⊢
  have hlw : w.heap.size ≤ l := by rw [← hl]; exact b2.size
  refine wp_region_any (by kernel_rfl) ?_
  change wpAny _ _ _ _ _ _ _ (World.drew _)
  obtain ⟨w4, hw4⟩ : ∃ X, World.drew (w2.alloc (.cells #[.int .i64 (min x y), .int .i64 (max x y)] 65)) = X := ⟨_, rfl⟩
  have S4 : Below w.heap.size w w4 := by rw [← hw4]; exact S1.drew
  have H4 : w4.heap[l]? = some (.cells #[.int .i64 (min x y), .int .i64 (max x y)] 65 (0, 0)) := by rw [← hw4]; exact H1
  rw [hw4]
  clear hw4 H1 S1 b2 hl w2
  refine any_take 0 17 (.pointer (some ⟨b, 0, none⟩)) rfl rfl (by kernel_rfl) (by kernel_rfl) (by kernel_rfl) (fun _ _ _ h => h) (Or.inl ⟨by rfl, by intro w; go_simp⟩) ?_
  try simp only [Act.put, List.setIfInBounds_toArray, List.set_cons_zero, List.set_cons_succ]
  refine any_take 1 18 (.pointer (some ⟨b, 0, none⟩)) rfl rfl (by kernel_rfl) (by kernel_rfl) (by kernel_rfl) (fun _ _ _ h => h) (Or.inl ⟨by rfl, by intro w; go_simp⟩) ?_
  try simp only [Act.put, List.setIfInBounds_toArray, List.set_cons_zero, List.set_cons_succ]
  refine any_take 2 19 (.pointer (some ⟨b, 2, none⟩)) rfl rfl (by kernel_rfl) (by kernel_rfl) (by kernel_rfl) (fun _ _ _ h => h) (Or.inl ⟨by rfl, by intro w; go_simp⟩) ?_
  try simp only [Act.put, List.setIfInBounds_toArray, List.set_cons_zero, List.set_cons_succ]
  refine wpAny_narrow (fun W => Below w4.heap.size w4 W) _ _ _ _ ?_
  refine anyH_take 3 20 (.map (some M)) rfl rfl (by kernel_rfl) (by kernel_rfl) (by kernel_rfl) (fun _ _ _ h => h) (Or.inl ⟨by rfl, by intro w hSw; have c2 := row_cell ((B.below S4).below hSw).obj 2 (.map (some M)) rfl; go_simp⟩) (Below.refl _ _) ?_
  try simp only [Act.put, List.setIfInBounds_toArray, List.set_cons_zero, List.set_cons_succ]
  refine anyH_take 4 21 (lnk (min x y) (max x y)) rfl rfl (by kernel_rfl) (by kernel_rfl) (by kernel_rfl) (fun _ _ _ h => h) (Or.inl ⟨by rfl, by intro X hSw; exact exec_load65 rfl rfl ((hSw.block _ (row_lt H4)).trans H4)⟩) (Below.refl _ _) ?_
  try simp only [Act.put, List.setIfInBounds_toArray, List.set_cons_zero, List.set_cons_succ]
  refine anyH_take 5 22 (.tuple #[.agg #[], .bool ct]) rfl rfl (by kernel_rfl) (by kernel_rfl) (by kernel_rfl) (fun _ _ _ h => h) (Or.inl ⟨by rfl, by intro w hSw; have lk := look65 ((B.below S4).below hSw).map hx hy; rw [hct] at lk; go_simp⟩) (Below.refl _ _) ?_
  try simp only [Act.put, List.setIfInBounds_toArray, List.set_cons_zero, List.set_cons_succ]
  refine anyH_take 6 16 (.tuple #[.agg #[], .bool ct]) rfl rfl (by kernel_rfl) (by kernel_rfl) (by kernel_rfl) (fun _ _ _ h => h) (Or.inl ⟨by rfl, by intro w hSw; go_simp⟩) (Below.refl _ _) ?_
  try simp only [Act.put, List.setIfInBounds_toArray, List.set_cons_zero, List.set_cons_succ]
  refine anyH_take 7 23 (.agg #[]) rfl rfl (by kernel_rfl) (by kernel_rfl) (by kernel_rfl) (fun _ _ _ h => h) (Or.inl ⟨by rfl, by intro w hSw; go_simp⟩) (Below.refl _ _) ?_
  try simp only [Act.put, List.setIfInBounds_toArray, List.set_cons_zero, List.set_cons_succ]
  refine anyH_take 8 24 (.bool ct) rfl rfl (by kernel_rfl) (by kernel_rfl) (by kernel_rfl) (fun _ _ _ h => h) (Or.inl ⟨by rfl, by intro w hSw; go_simp⟩) (Below.refl _ _) ?_
  try simp only [Act.put, List.setIfInBounds_toArray, List.set_cons_zero, List.set_cons_succ]
  refine wpAnyH_ready (rs := [9]) (by kernel_rfl) (by simp) ?_
  refine AllReadyH.cons rfl (fun K hK => ?_) AllReadyH.nil
  go_simp
  go_wp2
  have S5 : Below w4.heap.size w4 (w4.alloc (.cells #[] 66)) := (Below.refl _ _).alloc (Nat.le_refl _) _
  refine hK.out _ _ S5 (fun hS => ?_)
  clear hK
  refine wpAnyH_ready (rs := [10]) (by kernel_rfl) (by simp) ?_
  refine AllReadyH.cons rfl (fun K hK => ?_) AllReadyH.nil
  go_simp
  go_wp2
  refine hK.out _ _ S5 (fun hS => ?_)
  clear hK
  refine anyH_take 11 9 (.bool ct) rfl rfl (by kernel_rfl) (by kernel_rfl) (by kernel_rfl) (fun _ _ _ h => h) (Or.inl ⟨by rfl, by intro w hSw; go_simp⟩) (S5) ?_
  try simp only [Act.put, List.setIfInBounds_toArray, List.set_cons_zero, List.set_cons_succ]
  refine wpAnyH_done (by kernel_rfl) ?_ _
  go_wp2_with (fail)
  refine wp_region_any (by kernel_rfl) ?_
  change wpAny _ _ _ _ _ _ _ (World.drew _)
  obtain ⟨w6, hw6⟩ : ∃ X, World.drew (w4.alloc (.cells #[] 66)) = X := ⟨_, rfl⟩
  have S6 : Below w.heap.size w w6 := by rw [← hw6]; exact (S4.trans (S5.mono S4.size)).drew
  have H6 : w6.heap[l]? = some (.cells #[.int .i64 (min x y), .int .i64 (max x y)] 65 (0, 0)) := by rw [← hw6]; exact (S5.block _ (row_lt H4)).trans H4
  rw [hw6]
  clear hw6
  have B6 := B.below S6
  have hlM : l ≠ M := by have := B.map.lt; omega
  refine any_take 0 25 (.pointer (some ⟨b, 0, none⟩)) rfl rfl (by kernel_rfl) (by kernel_rfl) (by kernel_rfl) (fun _ _ _ h => h) (Or.inl ⟨by rfl, by intro w; go_simp⟩) ?_
  try simp only [Act.put, List.setIfInBounds_toArray, List.set_cons_zero, List.set_cons_succ]
  refine any_take 1 26 (.pointer (some ⟨b, 0, none⟩)) rfl rfl (by kernel_rfl) (by kernel_rfl) (by kernel_rfl) (fun _ _ _ h => h) (Or.inl ⟨by rfl, by intro w; go_simp⟩) ?_
  try simp only [Act.put, List.setIfInBounds_toArray, List.set_cons_zero, List.set_cons_succ]
  refine any_take 2 27 (.pointer (some ⟨b, 2, none⟩)) rfl rfl (by kernel_rfl) (by kernel_rfl) (by kernel_rfl) (fun _ _ _ h => h) (Or.inl ⟨by rfl, by intro w; go_simp⟩) ?_
  try simp only [Act.put, List.setIfInBounds_toArray, List.set_cons_zero, List.set_cons_succ]
  refine wpAny_narrow (fun W => Only (at1 M) w6 W) _ _ _ _ ?_
  refine anyH_take 3 28 (.map (some M)) rfl rfl (by kernel_rfl) (by kernel_rfl) (by kernel_rfl) (fun _ _ _ h => h) (Or.inl ⟨by rfl, by intro w hSw; have c2 := row_cell ((hSw.block b (row_lt B6.obj) B6.bM).trans B6.obj) 2 (.map (some M)) rfl; go_simp⟩) (Only.refl _ _) ?_
  try simp only [Act.put, List.setIfInBounds_toArray, List.set_cons_zero, List.set_cons_succ]
  refine anyH_take 4 29 (lnk (min x y) (max x y)) rfl rfl (by kernel_rfl) (by kernel_rfl) (by kernel_rfl) (fun _ _ _ h => h) (Or.inl ⟨by rfl, by intro X hSw; exact exec_load65 rfl rfl ((hSw.block _ (row_lt H6) hlM).trans H6)⟩) (Only.refl _ _) ?_
  try simp only [Act.put, List.setIfInBounds_toArray, List.set_cons_zero, List.set_cons_succ]
  refine wpAnyH_ready (rs := [5]) (by kernel_rfl) (by simp) ?_
  refine AllReadyH.cons rfl (fun K hK => ?_) AllReadyH.nil
  refine wp_delete65 _ _ rfl rfl rfl B6.map hx hy ?_
  intro w7 m7 o7
  refine hK.out _ _ o7 (fun hS => ?_)
  clear hK
  refine wpAnyH_done (by kernel_rfl) ?_ _
  go_wp2
  go_ret
  exact ⟨rfl, B6.turned o7 m7, (Only.of_below S6).trans o7⟩
end Go.Proofs.Ytoppecppmjpgiaa
