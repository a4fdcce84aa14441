/-
  Package bag: lose, Forget, Sever.
-/
import Derived.Test.YtoppecppmjpgiaaBg9
import Derived.Deep.DeepMust
namespace Go.Proofs.Ytoppecppmjpgiaa
open Go.ChangeShapes Go.WideShapes Go.ChangeAt Go.RowKit Go.Maps
set_option linter.unusedVariables false
set_option linter.unusedSimpArgs false

set_option maxHeartbeats 2000000 in
theorem lose_way (b M : Nat) (a : Option Addr) (n cap k : Nat) (next : Int) (ds : List DG) (D : DataW Unit) (l : Nat) (x y : Int) (w : World) (B : BagAt w b M a n cap k next ds D) (H : w.heap[l]? = some (.cells #[.int .i64 x, .int .i64 y] 65 (0, 0))) : Calls Try.prog 41 #[.pointer (some ⟨b, 0, none⟩), .func (.func 42) #[] #[.pointer (some ⟨l, 0, none⟩)]] w fun e w' => ∃ m : Nat, e = .returned (.int .i64 ((n : Int) - (m : Int))) ∧ BagAt w' b M a m cap k next (ds.filter (fun d => !onWay x y d)) D ∧ Only (bagC b M a) w w' := by
  have c1 := row_cell B.obj 1 (.slice a n cap) rfl
  have KD := delete_way a n cap ds l x y w B.lst H
  have hn1 := Nat.le_trans B.lst.le B.lst.max
  have hn2 := B.lst.size
  go_enter Try.func41, Try.ntmps41
  go_wp2_with (go_at_call 57; go_must (refine KD.mono ?_; rintro e w1 ⟨m, rfl, L1, o1⟩; clear KD; have B2 := B.setList o1 L1 (fun g off e => by subst e; exact B.gb); have hb1 : w1.heap[b]? = w.heap[b]? := o1.block b (row_lt B.obj) (fun ⟨off, e⟩ => by subst e; exact B.gb rfl); have c7 := row_cell (hb1.trans B.obj) 1 (.slice a n cap) rfl; have f7 := row_free (hb1.trans B.obj) 1; have hm : m ≤ n := (by have h1 := L1.size; have h2 := List.length_filter_le (fun d => !onWay x y d) ds; omega); have hwr : IntKind.i64.wrap ((n : Int) - (m : Int)) = (n : Int) - (m : Int) := (by rw [IntKind.wrap_i64]; omega)))
  go_ret
  exact ⟨m, rfl, B2, (o1.mono fun q _ hq => .inr (.inr hq)).setCell (fun _ => .inl rfl) _ _⟩
set_option maxHeartbeats 2000000 in
theorem lose_onto (b M : Nat) (a : Option Addr) (n cap k : Nat) (next : Int) (ds : List DG) (D : DataW Unit) (l : Nat) (x : Int) (w : World) (B : BagAt w b M a n cap k next ds D) (H : w.heap[l]? = some (.cells #[.int .i64 x] 3 (0, 0))) : Calls Try.prog 41 #[.pointer (some ⟨b, 0, none⟩), .func (.func 43) #[] #[.pointer (some ⟨l, 0, none⟩)]] w fun e w' => ∃ m : Nat, e = .returned (.int .i64 ((n : Int) - (m : Int))) ∧ BagAt w' b M a m cap k next (ds.filter (fun d => !onTo x d)) D ∧ Only (bagC b M a) w w' := by
  have c1 := row_cell B.obj 1 (.slice a n cap) rfl
  have KD := delete_onto a n cap ds l x w B.lst H
  have hn1 := Nat.le_trans B.lst.le B.lst.max
  have hn2 := B.lst.size
  go_enter Try.func41, Try.ntmps41
  go_wp2_with (go_at_call 57; go_must (refine KD.mono ?_; rintro e w1 ⟨m, rfl, L1, o1⟩; clear KD; have B2 := B.setList o1 L1 (fun g off e => by subst e; exact B.gb); have hb1 : w1.heap[b]? = w.heap[b]? := o1.block b (row_lt B.obj) (fun ⟨off, e⟩ => by subst e; exact B.gb rfl); have c7 := row_cell (hb1.trans B.obj) 1 (.slice a n cap) rfl; have f7 := row_free (hb1.trans B.obj) 1; have hm : m ≤ n := (by have h1 := L1.size; have h2 := List.length_filter_le (fun d => !onTo x d) ds; omega); have hwr : IntKind.i64.wrap ((n : Int) - (m : Int)) = (n : Int) - (m : Int) := (by rw [IntKind.wrap_i64]; omega)))
  go_ret
  exact ⟨m, rfl, B2, (o1.mono fun q _ hq => .inr (.inr hq)).setCell (fun _ => .inl rfl) _ _⟩
set_option maxHeartbeats 1000000 in
theorem forget_any (b M : Nat) (a : Option Addr) (n cap k : Nat) (next : Int) (ds : List DG) (D : DataW Unit) (x : Int) (w : World) (B : BagAt w b M a n cap k next ds D) : Calls Try.prog 22 #[.pointer (some ⟨b, 0, none⟩), .int .i64 x] w fun e w' => ∃ m : Nat, e = .returned (.int .i64 ((n : Int) - (m : Int))) ∧ BagAt w' b M a m cap k next (ds.filter (fun d => !onTo x d)) D ∧ Only (bagC b M a) w w' := by
  have B1 : Below w.heap.size w (w.alloc (.cells #[.int .i64 x] 3)) := (Below.refl _ _).alloc (Nat.le_refl _) _
  have BA := B.below B1
  have KL := lose_onto b M a n cap k next ds D w.heap.size x _ BA (World.alloc_heap_new _ _)
  go_enter Try.func22, Try.ntmps22
  go_wp2_with (first
    | (go_at_call 34; refine (given_any b M a n cap k next ds D _ BA).mono ?_; rintro e w1 ⟨rfl, hw⟩; rw [hw]; clear hw)
    | (go_at_call 41; refine KL.mono ?_; rintro e w2 ⟨m, rfl, B2, o2⟩; clear KL))
  go_ret
  exact ⟨m, rfl, B2, (Only.of_below B1).trans o2⟩
set_option maxHeartbeats 1000000 in
theorem sever_same (b M : Nat) (a : Option Addr) (n cap k : Nat) (next : Int) (ds : List DG) (D : DataW Unit) (x : Int) (w : World) (B : BagAt w b M a n cap k next ds D) : Calls Try.prog 19 #[.pointer (some ⟨b, 0, none⟩), .int .i64 x, .int .i64 x] w fun e w' => e = .returned (.int .i64 0) ∧ w' = w := by
  go_enter Try.func19, Try.ntmps19
  go_wp2_with (go_at_call 34; refine (given_any b M a n cap k next ds D _ B).mono ?_; rintro e w1 ⟨rfl, hw⟩; rw [hw]; clear hw)
  go_ret
  exact ⟨rfl, rfl⟩
theorem wp_update65 {o : Oper} {A : Act} {W : World} {K : Go.Act → World → Prop} {Q : Exit → Go.Act → World → Prop} (p q r : Operand) (ho : o.op = .mapUpdate 59 p q r) {M k : Nat} {D : DataW Unit} {x y : Int}
    (hp : A.eval p = .map (some M)) (hq : A.eval q = lnk (min x y) (max x y)) (hr : A.eval r = .agg #[]) (hm : W.ownsMap Try.prog 65 (unitElem (H := Unit)) M k D) (hk : k < maxLen) (hx : I64 x) (hy : I64 y)
    (h : ∀ w', w'.ownsMap Try.prog 65 (unitElem (H := Unit)) M (k + 1) (D.put (klOf (min x y) (max x y)) (.agg [])) → Only (at1 M) W w' → K (A.put o.dst undef) w') : o.wp Try.prog A W K Q := by
  have hmn : I64 (min x y) := by unfold I64 at *; omega
  have hmx : I64 (max x y) := by unfold I64 at *; omega
  obtain ⟨w', hrun, m', t'⟩ := hm.store keyed65 Try.underlying59 hk (key65 _ _ (wf_i64 hmn) (wf_i64 hmx)) unitElem_mk
  unfold Oper.wp execOp
  simp only [ho, hp, hq, hr, Sem.run_bind, hrun, Result.andThen_ok, Sem.run_pure]
  exact h _ m' (only_turned t')
set_option maxRecDepth 100000 in
set_option maxHeartbeats 4000000 in
theorem sever_any (b M : Nat) (a : Option Addr) (n cap k : Nat) (next : Int) (ds : List DG) (D : DataW Unit) (x y : Int) (w : World) (B : BagAt w b M a n cap k next ds D) (hx : I64 x) (hy : I64 y) (hxy : x ≠ y) (hk : k < maxLen) : Calls Try.prog 19 #[.pointer (some ⟨b, 0, none⟩), .int .i64 x, .int .i64 y] w fun e w' => ∃ m : Nat, e = .returned (.int .i64 ((n : Int) - (m : Int))) ∧ BagAt w' b M a m cap (k + 1) next (ds.filter (fun d => !onWay (min x y) (max x y) d)) (D.put (klOf (min x y) (max x y)) (.agg [])) ∧ Only (bagC b M a) w w' := by
  have hne : ¬ x = y := hxy
  go_enter Try.func19, Try.ntmps19
  go_wp2_with (first | (go_at_call 34; refine (given_any b M a n cap k next ds D _ B).mono ?_; rintro e w1 ⟨rfl, hw⟩; rw [hw]; clear hw) | (go_at_call 38; refine (pair_any x y _).mono ?_; rintro e w2 ⟨rfl, b2⟩))
  have S1 := b2.alloc b2.size (.cells #[.int .i64 (min x y), .int .i64 (max x y)] 65)
  have H1 : (w2.alloc (.cells #[.int .i64 (min x y), .int .i64 (max x y)] 65)).heap[w2.heap.size]? = some (.cells #[.int .i64 (min x y), .int .i64 (max x y)] 65 (0, 0)) := World.alloc_heap_new _ _
  obtain ⟨l, hl⟩ : ∃ l, w2.heap.size = l := ⟨_, rfl⟩
  rw [hl] at H1 ⊢
  have hlw : w.heap.size ≤ l := by rw [← hl]; exact b2.size
  refine wp_region_any (by kernel_rfl) ?_
  change wpAny _ _ _ _ _ _ _ (World.drew _)
  obtain ⟨w6, hw6⟩ : ∃ X, World.drew (w2.alloc (.cells #[.int .i64 (min x y), .int .i64 (max x y)] 65)) = X := ⟨_, rfl⟩
  have S6 : Below w.heap.size w w6 := by rw [← hw6]; exact S1.drew
  have H6 : w6.heap[l]? = some (.cells #[.int .i64 (min x y), .int .i64 (max x y)] 65 (0, 0)) := by rw [← hw6]; exact H1
  rw [hw6]
  clear hw6 H1 S1 b2 hl w2
  have B6 := B.below S6
  have hlM : l ≠ M := by have := B.map.lt; omega
  refine any_take 0 19 (.pointer (some ⟨b, 0, none⟩)) rfl rfl (by kernel_rfl) (by kernel_rfl) (by kernel_rfl) (fun _ _ _ h => h) (Or.inl ⟨by rfl, by intro w; go_simp⟩) ?_
  try simp only [Act.put, List.setIfInBounds_toArray, List.set_cons_zero, List.set_cons_succ]
  refine any_take 1 20 (.pointer (some ⟨b, 0, none⟩)) rfl rfl (by kernel_rfl) (by kernel_rfl) (by kernel_rfl) (fun _ _ _ h => h) (Or.inl ⟨by rfl, by intro w; go_simp⟩) ?_
  try simp only [Act.put, List.setIfInBounds_toArray, List.set_cons_zero, List.set_cons_succ]
  refine any_take 2 21 (.pointer (some ⟨b, 2, none⟩)) rfl rfl (by kernel_rfl) (by kernel_rfl) (by kernel_rfl) (fun _ _ _ h => h) (Or.inl ⟨by rfl, by intro w; go_simp⟩) ?_
  try simp only [Act.put, List.setIfInBounds_toArray, List.set_cons_zero, List.set_cons_succ]
  refine any_take 5 24 (.agg #[]) rfl rfl (by kernel_rfl) (by kernel_rfl) (by kernel_rfl) (fun _ _ _ h => h) (Or.inl ⟨by rfl, by intro w; go_simp⟩) ?_
  try simp only [Act.put, List.setIfInBounds_toArray, List.set_cons_zero, List.set_cons_succ]
  refine wpAny_narrow (fun W => Only (at1 M) w6 W) _ _ _ _ ?_
  refine anyH_take 3 22 (.map (some M)) rfl rfl (by kernel_rfl) (by kernel_rfl) (by kernel_rfl) (fun _ _ _ h => h) (Or.inl ⟨by rfl, by intro w hSw; have c2 := row_cell ((hSw.block b (row_lt B6.obj) B6.bM).trans B6.obj) 2 (.map (some M)) rfl; go_simp⟩) (Only.refl _ _) ?_
  try simp only [Act.put, List.setIfInBounds_toArray, List.set_cons_zero, List.set_cons_succ]
  refine anyH_take 4 23 (lnk (min x y) (max x y)) rfl rfl (by kernel_rfl) (by kernel_rfl) (by kernel_rfl) (fun _ _ _ h => h) (Or.inl ⟨by rfl, by intro X hSw; exact exec_load65 rfl rfl ((hSw.block _ (row_lt H6) hlM).trans H6)⟩) (Only.refl _ _) ?_
  try simp only [Act.put, List.setIfInBounds_toArray, List.set_cons_zero, List.set_cons_succ]
  refine wpAnyH_ready (rs := [6]) (by kernel_rfl) (by simp) ?_
  refine AllReadyH.cons rfl (fun K hK => ?_) AllReadyH.nil
  rw [if_pos (by rfl)]
  refine wp_update65 (D := D) (k := k) (M := M) (x := x) (y := y) (Operand.tmp 22) (Operand.tmp 23) (Operand.tmp 24) (by rfl) (by rfl) (by rfl) (by rfl) B6.map hk hx hy ?_
  intro w7 m7 o7
  refine hK.out _ _ o7 (fun hS => ?_)
  clear hK
  refine wpAnyH_done (by kernel_rfl) ?_ _
  have B7 := B6.turned o7 m7
  have KL := lose_way b M a n cap (k + 1) next ds _ l (min x y) (max x y) w7 B7 ((o7.block l (row_lt H6) hlM).trans H6)
  go_wp2_with (go_at_call 41; refine KL.mono ?_; rintro e w8 ⟨m, rfl, B8, o8⟩; clear KL)
  go_ret
  exact ⟨m, rfl, B8, ((Only.of_below S6).trans (o7.mono fun q _ hq => .inr (.inl hq))).trans (o8.mono fun q _ hq => hq)⟩
end Go.Proofs.Ytoppecppmjpgiaa
