/-
  Package bag: Put.
-/
import Derived.Test.YtoppecppmjpgiaaBg2
import Derived.Test.YtoppecppmjpgiaaHeld
import Derived.Great.BuildSlice
namespace Go.Proofs.Ytoppecppmjpgiaa
open Go.ChangeShapes Go.WideShapes Go.ChangeAt Go.RowKit Go.Maps
set_option linter.unusedVariables false
set_option linter.unusedSimpArgs false

/-- Whether the way between two is cut. -/
def cut (D : DataW Unit) (x y : Int) : Bool := Maps.has D (klOf (min x y) (max x y))
def I64 (x : Int) : Prop := -9223372036854775808 ≤ x ∧ x ≤ 9223372036854775807
theorem look65 {W : World} {M k : Nat} {D : DataW Unit} (h : W.ownsMap Try.prog 65 (unitElem (H := Unit)) M k D) {x y : Int} (hx : I64 x) (hy : I64 y) :
    (Instr.lookup 59 (.map (some M)) (lnk (min x y) (max x y)) true).run Try.prog W = .ok (.tuple #[.agg #[], .bool (cut D x y)]) W := by
  have hm : I64 (min x y) := by unfold I64 at *; omega
  have hM : I64 (max x y) := by unfold I64 at *; omega
  obtain ⟨v, ps, hrun, hv⟩ := h.look_ok keyed65 Try.underlying59 (zero66 W) unitElem_mk (key65 _ _ (wf_i64 hm) (wf_i64 hM))
  obtain ⟨rfl, _⟩ := unitElem_inv hv
  exact hrun
theorem BagAt.setNext {W : World} {b M n cap k : Nat} {a : Option Addr} {next : Int} {ds : List DG} {D : DataW Unit} (h : BagAt W b M a n cap k next ds D) (z : Int) : BagAt (W.setCell ⟨b, 0, none⟩ (.int .i64 z)) b M a n cap k z ds D :=
  ⟨set_row h.obj 0 _, h.lst.of_block fun g off e => set_far rfl (by subst e; exact h.gb) _ _, owns_of h.map (set_far rfl (Ne.symm h.bM) _ _)⟩
/-- The list's cell is set to another list. -/
theorem BagAt.setList {W W1 : World} {b M n cap k : Nat} {a : Option Addr} {next : Int} {ds : List DG} {D : DataW Unit} (h : BagAt W b M a n cap k next ds D) (o : Only (atL a) W W1) {a' : Option Addr} {n' cap' : Nat} {ds' : List DG} (L : Lst W1 a' n' cap' ds') (hg : ∀ g off, a' = some ⟨g, off, none⟩ → g ≠ b) :
    BagAt (W1.setCell ⟨b, 1, none⟩ (.slice a' n' cap')) b M a' n' cap' k next ds' D := by
  have hb : W1.heap[b]? = W.heap[b]? := o.block b (row_lt h.obj) (fun ⟨off, e⟩ => by subst e; exact h.gb rfl)
  have hM : W1.heap[M]? = W.heap[M]? := o.block M h.map.lt (fun ⟨off, e⟩ => by subst e; exact h.gM rfl)
  exact ⟨set_row (hb.trans h.obj) 1 _, L.of_block fun g off e => set_far rfl (hg g off e) _ _, owns_of h.map ((set_far rfl (Ne.symm h.bM) _ _).trans hM)⟩
theorem wp_append_lst {o : Oper} {A : Act} {W : World} {K : Go.Act → World → Prop} {Q : Exit → Go.Act → World → Prop} (x y : Operand) (ho : o.op = .call { callee := .builtin .append, args := #[x, y], argTypes := #[22, 22] }) {a : Option Addr} {n cap s : Nat} {ds : List DG} {d : DG}
    (hx : A.eval x = .slice a n cap) (hy : A.eval y = .slice (some ⟨s, 0, none⟩) 1 1) (L : Lst W a n cap ds) (hs : W.rangeAt s 0 d.cells) (hn : n ≤ 65536)
    (h : ∀ a' cap' w', Lst w' a' (n + 1) cap' (ds ++ [d]) → (∀ g off, a' = some ⟨g, off, none⟩ → (∃ o, a = some ⟨g, o, none⟩) ∨ W.heap.size ≤ g) → Only (atL a) W w' → K (A.put o.dst (.slice a' (n + 1) cap')) w') : o.wp Try.prog A W K Q := by
  obtain ⟨v', w', hrun, ⟨a', cap', rfl, L', hb⟩, o'⟩ := run_append_lst o.type L hs hn
  unfold Oper.wp
  simp [execOp, ho, resolve, invoke, builtin, hx, hy, hrun, Result.andThen]
  exact h _ _ _ L' hb o'
theorem fill33 (d : DG) : Instr.fill (fun i => some (i * 4, 4)) ((Array.range (1 * 4)).map ((dgv ⟨0, 0, 0, ByteArray.empty⟩).cells[· % (dgv ⟨0, 0, 0, ByteArray.empty⟩).cells.size]!)) [(0, dgv d)] = some d.cells.toArray := by
  have e : Array.range (1 * 4) = #[0, 1, 2, 3] := by decide
  rw [e]
  simp [Instr.fill, dgv, Value.cells, DG.cells]
theorem fill33' (A : Act) (x : Operand) (d : DG) (hx : A.eval x = dgv d) : (((#[(0, x)] : Array (Nat × Operand)).map fun (i, x) => (i, A.eval x)).toList) = [(0, dgv d)] := by simp [hx]
theorem wp_one33 {o : Oper} {A : Act} {W : World} {K : Go.Act → World → Prop} {Q : Exit → Go.Act → World → Prop} (x : Operand) (ho : o.op = .buildSlice 22 1 #[(0, x)]) (d : DG) (hx : A.eval x = dgv d)
    (h : K (A.put o.dst (.slice (some ⟨W.heap.size, 0, none⟩) 1 1)) (W.alloc (.cells d.cells.toArray 33))) : o.wp Try.prog A W K Q := by
  obtain ⟨i0, hi, hz0, hz1, hz2⟩ := info_parts info33
  refine wp_buildSlice 22 33 1 _ ho d.cells.toArray i0 _ Try.underlying22 hi hz0 (by rw [hz1]; decide) (by rw [hz1]; decide) ?_ h
  rw [hz1, fill33' A x d hx]
  exact fill33 d
theorem range_new (W : World) (cs : List Value) (t : TypeId) : (W.alloc (.cells cs.toArray t)).rangeAt W.heap.size 0 cs := fun j u hj => by
  have h := World.alloc_heap_new W (.cells cs.toArray t)
  rw [Nat.zero_add]
  exact row_cell h j u (by simpa using hj)
set_option maxHeartbeats 2000000 in
theorem put_cut (b M : Nat) (a : Option Addr) (n cap k : Nat) (next : Int) (ds : List DG) (D : DataW Unit) (x y : Int) (s : ByteArray) (w : World) (B : BagAt w b M a n cap k next ds D) (hx : I64 x) (hy : I64 y) (hcut : cut D x y = true) : Calls Try.prog 16 #[.pointer (some ⟨b, 0, none⟩), .int .i64 x, .int .i64 y, .string s] w fun e w' => e = .returned (.tuple #[.int .i64 0, .int .i64 34]) ∧ Below w.heap.size w w' := by
  go_enter Try.func16, Try.ntmps16
  go_wp2_with (go_at_call 34; refine (given_any b M a n cap k next ds D _ B).mono ?_; rintro e w1 ⟨rfl, hw⟩; rw [hw]; clear hw)
  have S0 : Below w.heap.size w w.drew := (Below.refl _ _).drew
  refine wp_region_any (by kernel_rfl) ?_
  change wpAny _ _ _ _ _ _ _ (World.drew _)
  refine any_take 0 16 (.pointer (some ⟨b, 0, none⟩)) rfl rfl (by kernel_rfl) (by kernel_rfl) (by kernel_rfl) (fun _ _ _ h => h) (Or.inl ⟨by rfl, by intro w; go_simp⟩) ?_
  try simp only [Act.put, List.setIfInBounds_toArray, List.set_cons_zero, List.set_cons_succ]
  refine any_take 1 17 (.pointer (some ⟨b, 0, none⟩)) rfl rfl (by kernel_rfl) (by kernel_rfl) (by kernel_rfl) (fun _ _ _ h => h) (Or.inl ⟨by rfl, by intro w; go_simp⟩) ?_
  try simp only [Act.put, List.setIfInBounds_toArray, List.set_cons_zero, List.set_cons_succ]
  refine any_take 2 18 (.pointer (some ⟨b, 2, none⟩)) rfl rfl (by kernel_rfl) (by kernel_rfl) (by kernel_rfl) (fun _ _ _ h => h) (Or.inl ⟨by rfl, by intro w; go_simp⟩) ?_
  try simp only [Act.put, List.setIfInBounds_toArray, List.set_cons_zero, List.set_cons_succ]
  refine any_take 4 20 (.int .i64 x) rfl rfl (by kernel_rfl) (by kernel_rfl) (by kernel_rfl) (fun _ _ _ h => h) (Or.inl ⟨by rfl, by intro w; go_simp⟩) ?_
  try simp only [Act.put, List.setIfInBounds_toArray, List.set_cons_zero, List.set_cons_succ]
  refine any_take 5 21 (.int .i64 y) rfl rfl (by kernel_rfl) (by kernel_rfl) (by kernel_rfl) (fun _ _ _ h => h) (Or.inl ⟨by rfl, by intro w; go_simp⟩) ?_
  try simp only [Act.put, List.setIfInBounds_toArray, List.set_cons_zero, List.set_cons_succ]
  refine wpAny_narrow (fun W => Below w.heap.size w W) _ _ _ _ ?_
  refine anyH_take 3 19 (.map (some M)) rfl rfl (by kernel_rfl) (by kernel_rfl) (by kernel_rfl) (fun _ _ _ h => h) (Or.inl ⟨by rfl, by intro w hSw; have c2 := row_cell (B.below hSw).obj 2 (.map (some M)) rfl; go_simp⟩) (S0) ?_
  try simp only [Act.put, List.setIfInBounds_toArray, List.set_cons_zero, List.set_cons_succ]
  refine wpAnyH_ready (rs := [6, 11]) (by kernel_rfl) (by simp) ?_
  refine AllReadyH.cons rfl (fun K hK => ?_) (AllReadyH.cons rfl (fun K hK => ?_) AllReadyH.nil)
  · go_simp
    go_wp2_with (go_at_call 38; refine (pair_any x y _).mono ?_; rintro e w2 ⟨rfl, b2⟩; have S2 : Below w.heap.size w w2 := S0.trans (b2.mono S0.size))
    refine hK.out _ _ S2 (fun hS => ?_)
    clear hK
    refine anyH_take 7 23 (.tuple #[.agg #[], .bool true]) rfl rfl (by kernel_rfl) (by kernel_rfl) (by kernel_rfl) (fun _ _ _ h => h) (Or.inl ⟨by rfl, by intro w hSw; have lk := look65 (B.below hSw).map hx hy; rw [hcut] at lk; go_simp⟩) (S2) ?_
    try simp only [Act.put, List.setIfInBounds_toArray, List.set_cons_zero, List.set_cons_succ]
    refine anyH_take 8 15 (.tuple #[.agg #[], .bool true]) rfl rfl (by kernel_rfl) (by kernel_rfl) (by kernel_rfl) (fun _ _ _ h => h) (Or.inl ⟨by rfl, by intro w hSw; go_simp⟩) (S2) ?_
    try simp only [Act.put, List.setIfInBounds_toArray, List.set_cons_zero, List.set_cons_succ]
    refine anyH_take 9 24 (.agg #[]) rfl rfl (by kernel_rfl) (by kernel_rfl) (by kernel_rfl) (fun _ _ _ h => h) (Or.inl ⟨by rfl, by intro w hSw; go_simp⟩) (S2) ?_
    try simp only [Act.put, List.setIfInBounds_toArray, List.set_cons_zero, List.set_cons_succ]
    refine anyH_take 10 25 (.bool true) rfl rfl (by kernel_rfl) (by kernel_rfl) (by kernel_rfl) (fun _ _ _ h => h) (Or.inl ⟨by rfl, by intro w hSw; go_simp⟩) (S2) ?_
    try simp only [Act.put, List.setIfInBounds_toArray, List.set_cons_zero, List.set_cons_succ]
    refine wpAnyH_ready (rs := [11]) (by kernel_rfl) (by simp) ?_
    refine AllReadyH.cons rfl (fun K hK => ?_) AllReadyH.nil
    go_simp
    go_wp2
    have S3 := S2.alloc S2.size (.cells #[] 66)
    refine hK.out _ _ S3 (fun hS => ?_)
    clear hK
    refine wpAnyH_ready (rs := [12]) (by kernel_rfl) (by simp) ?_
    refine AllReadyH.cons rfl (fun K hK => ?_) AllReadyH.nil
    go_simp
    go_wp2
    refine hK.out _ _ S3 (fun hS => ?_)
    clear hK
    refine anyH_take 13 11 (.bool true) rfl rfl (by kernel_rfl) (by kernel_rfl) (by kernel_rfl) (fun _ _ _ h => h) (Or.inl ⟨by rfl, by intro w hSw; go_simp⟩) (S3) ?_
    try simp only [Act.put, List.setIfInBounds_toArray, List.set_cons_zero, List.set_cons_succ]
    refine wpAnyH_done (by kernel_rfl) ?_ _
    go_wp2
    go_ret2
    exact ⟨rfl, S3⟩
  · go_simp
    go_wp2
    have S2 : Below w.heap.size w (w.alloc (.cells #[] 66)).drew := ((Below.refl _ _).alloc (Nat.le_refl _) _).drew
    refine hK.out _ _ S2 (fun hS => ?_)
    clear hK
    refine wpAnyH_ready (rs := [6]) (by kernel_rfl) (by simp) ?_
    refine AllReadyH.cons rfl (fun K hK => ?_) AllReadyH.nil
    go_simp
    go_wp2_with (go_at_call 38; refine (pair_any x y _).mono ?_; rintro e w3 ⟨rfl, b3⟩; have S3 : Below w.heap.size w w3 := S2.trans (b3.mono S2.size))
    refine hK.out _ _ S3 (fun hS => ?_)
    clear hK
    refine anyH_take 7 23 (.tuple #[.agg #[], .bool true]) rfl rfl (by kernel_rfl) (by kernel_rfl) (by kernel_rfl) (fun _ _ _ h => h) (Or.inl ⟨by rfl, by intro w hSw; have lk := look65 (B.below hSw).map hx hy; rw [hcut] at lk; go_simp⟩) (S3) ?_
    try simp only [Act.put, List.setIfInBounds_toArray, List.set_cons_zero, List.set_cons_succ]
    refine anyH_take 8 15 (.tuple #[.agg #[], .bool true]) rfl rfl (by kernel_rfl) (by kernel_rfl) (by kernel_rfl) (fun _ _ _ h => h) (Or.inl ⟨by rfl, by intro w hSw; go_simp⟩) (S3) ?_
    try simp only [Act.put, List.setIfInBounds_toArray, List.set_cons_zero, List.set_cons_succ]
    refine anyH_take 9 24 (.agg #[]) rfl rfl (by kernel_rfl) (by kernel_rfl) (by kernel_rfl) (fun _ _ _ h => h) (Or.inl ⟨by rfl, by intro w hSw; go_simp⟩) (S3) ?_
    try simp only [Act.put, List.setIfInBounds_toArray, List.set_cons_zero, List.set_cons_succ]
    refine anyH_take 10 25 (.bool true) rfl rfl (by kernel_rfl) (by kernel_rfl) (by kernel_rfl) (fun _ _ _ h => h) (Or.inl ⟨by rfl, by intro w hSw; go_simp⟩) (S3) ?_
    try simp only [Act.put, List.setIfInBounds_toArray, List.set_cons_zero, List.set_cons_succ]
    refine wpAnyH_ready (rs := [12]) (by kernel_rfl) (by simp) ?_
    refine AllReadyH.cons rfl (fun K hK => ?_) AllReadyH.nil
    go_simp
    go_wp2
    refine hK.out _ _ S3 (fun hS => ?_)
    clear hK
    refine anyH_take 13 11 (.bool true) rfl rfl (by kernel_rfl) (by kernel_rfl) (by kernel_rfl) (fun _ _ _ h => h) (Or.inl ⟨by rfl, by intro w hSw; go_simp⟩) (S3) ?_
    try simp only [Act.put, List.setIfInBounds_toArray, List.set_cons_zero, List.set_cons_succ]
    refine wpAnyH_done (by kernel_rfl) ?_ _
    go_wp2
    go_ret2
    exact ⟨rfl, S3⟩
set_option maxHeartbeats 2000000 in
theorem put_full (b M : Nat) (a : Option Addr) (n cap k : Nat) (next : Int) (ds : List DG) (D : DataW Unit) (x y : Int) (s : ByteArray) (w : World) (B : BagAt w b M a n cap k next ds D) (hx : I64 x) (hy : I64 y) (hcut : cut D x y = false) (hn : 65536 ≤ n) : Calls Try.prog 16 #[.pointer (some ⟨b, 0, none⟩), .int .i64 x, .int .i64 y, .string s] w fun e w' => e = .returned (.tuple #[.int .i64 0, .int .i64 30]) ∧ Below w.heap.size w w' := by
  have hn1 : (65536 : Int) ≤ (n : Int) := by omega
  go_enter Try.func16, Try.ntmps16
  go_wp2_with (go_at_call 34; refine (given_any b M a n cap k next ds D _ B).mono ?_; rintro e w1 ⟨rfl, hw⟩; rw [hw]; clear hw)
  have S0 : Below w.heap.size w w.drew := (Below.refl _ _).drew
  refine wp_region_any (by kernel_rfl) ?_
  change wpAny _ _ _ _ _ _ _ (World.drew _)
  refine any_take 0 16 (.pointer (some ⟨b, 0, none⟩)) rfl rfl (by kernel_rfl) (by kernel_rfl) (by kernel_rfl) (fun _ _ _ h => h) (Or.inl ⟨by rfl, by intro w; go_simp⟩) ?_
  try simp only [Act.put, List.setIfInBounds_toArray, List.set_cons_zero, List.set_cons_succ]
  refine any_take 1 17 (.pointer (some ⟨b, 0, none⟩)) rfl rfl (by kernel_rfl) (by kernel_rfl) (by kernel_rfl) (fun _ _ _ h => h) (Or.inl ⟨by rfl, by intro w; go_simp⟩) ?_
  try simp only [Act.put, List.setIfInBounds_toArray, List.set_cons_zero, List.set_cons_succ]
  refine any_take 2 18 (.pointer (some ⟨b, 2, none⟩)) rfl rfl (by kernel_rfl) (by kernel_rfl) (by kernel_rfl) (fun _ _ _ h => h) (Or.inl ⟨by rfl, by intro w; go_simp⟩) ?_
  try simp only [Act.put, List.setIfInBounds_toArray, List.set_cons_zero, List.set_cons_succ]
  refine any_take 4 20 (.int .i64 x) rfl rfl (by kernel_rfl) (by kernel_rfl) (by kernel_rfl) (fun _ _ _ h => h) (Or.inl ⟨by rfl, by intro w; go_simp⟩) ?_
  try simp only [Act.put, List.setIfInBounds_toArray, List.set_cons_zero, List.set_cons_succ]
  refine any_take 5 21 (.int .i64 y) rfl rfl (by kernel_rfl) (by kernel_rfl) (by kernel_rfl) (fun _ _ _ h => h) (Or.inl ⟨by rfl, by intro w; go_simp⟩) ?_
  try simp only [Act.put, List.setIfInBounds_toArray, List.set_cons_zero, List.set_cons_succ]
  refine wpAny_narrow (fun W => Below w.heap.size w W) _ _ _ _ ?_
  refine anyH_take 3 19 (.map (some M)) rfl rfl (by kernel_rfl) (by kernel_rfl) (by kernel_rfl) (fun _ _ _ h => h) (Or.inl ⟨by rfl, by intro w hSw; have c2 := row_cell (B.below hSw).obj 2 (.map (some M)) rfl; go_simp⟩) (S0) ?_
  try simp only [Act.put, List.setIfInBounds_toArray, List.set_cons_zero, List.set_cons_succ]
  refine wpAnyH_ready (rs := [6, 11]) (by kernel_rfl) (by simp) ?_
  refine AllReadyH.cons rfl (fun K hK => ?_) (AllReadyH.cons rfl (fun K hK => ?_) AllReadyH.nil)
  · go_simp
    go_wp2_with (go_at_call 38; refine (pair_any x y _).mono ?_; rintro e w2 ⟨rfl, b2⟩; have S2 : Below w.heap.size w w2 := S0.trans (b2.mono S0.size))
    refine hK.out _ _ S2 (fun hS => ?_)
    clear hK
    refine anyH_take 7 23 (.tuple #[.agg #[], .bool false]) rfl rfl (by kernel_rfl) (by kernel_rfl) (by kernel_rfl) (fun _ _ _ h => h) (Or.inl ⟨by rfl, by intro w hSw; have lk := look65 (B.below hSw).map hx hy; rw [hcut] at lk; go_simp⟩) (S2) ?_
    try simp only [Act.put, List.setIfInBounds_toArray, List.set_cons_zero, List.set_cons_succ]
    refine anyH_take 8 15 (.tuple #[.agg #[], .bool false]) rfl rfl (by kernel_rfl) (by kernel_rfl) (by kernel_rfl) (fun _ _ _ h => h) (Or.inl ⟨by rfl, by intro w hSw; go_simp⟩) (S2) ?_
    try simp only [Act.put, List.setIfInBounds_toArray, List.set_cons_zero, List.set_cons_succ]
    refine anyH_take 9 24 (.agg #[]) rfl rfl (by kernel_rfl) (by kernel_rfl) (by kernel_rfl) (fun _ _ _ h => h) (Or.inl ⟨by rfl, by intro w hSw; go_simp⟩) (S2) ?_
    try simp only [Act.put, List.setIfInBounds_toArray, List.set_cons_zero, List.set_cons_succ]
    refine anyH_take 10 25 (.bool false) rfl rfl (by kernel_rfl) (by kernel_rfl) (by kernel_rfl) (fun _ _ _ h => h) (Or.inl ⟨by rfl, by intro w hSw; go_simp⟩) (S2) ?_
    try simp only [Act.put, List.setIfInBounds_toArray, List.set_cons_zero, List.set_cons_succ]
    refine wpAnyH_ready (rs := [11]) (by kernel_rfl) (by simp) ?_
    refine AllReadyH.cons rfl (fun K hK => ?_) AllReadyH.nil
    go_simp
    go_wp2
    have S3 := S2.alloc S2.size (.cells #[] 66)
    refine hK.out _ _ S3 (fun hS => ?_)
    clear hK
    refine wpAnyH_ready (rs := [12]) (by kernel_rfl) (by simp) ?_
    refine AllReadyH.cons rfl (fun K hK => ?_) AllReadyH.nil
    go_simp
    go_wp2
    refine hK.out _ _ S3 (fun hS => ?_)
    clear hK
    refine anyH_take 13 11 (.bool false) rfl rfl (by kernel_rfl) (by kernel_rfl) (by kernel_rfl) (fun _ _ _ h => h) (Or.inl ⟨by rfl, by intro w hSw; go_simp⟩) (S3) ?_
    try simp only [Act.put, List.setIfInBounds_toArray, List.set_cons_zero, List.set_cons_succ]
    refine wpAnyH_done (by kernel_rfl) ?_ _
    have B4 := B.below S3
    have c0 := row_cell B4.obj 0 (.int .i64 next) rfl
    have c1 := row_cell B4.obj 1 (.slice a n cap) rfl
    go_wp2
    go_ret2
    exact ⟨rfl, S3⟩
  · go_simp
    go_wp2
    have S2 : Below w.heap.size w (w.alloc (.cells #[] 66)).drew := ((Below.refl _ _).alloc (Nat.le_refl _) _).drew
    refine hK.out _ _ S2 (fun hS => ?_)
    clear hK
    refine wpAnyH_ready (rs := [6]) (by kernel_rfl) (by simp) ?_
    refine AllReadyH.cons rfl (fun K hK => ?_) AllReadyH.nil
    go_simp
    go_wp2_with (go_at_call 38; refine (pair_any x y _).mono ?_; rintro e w3 ⟨rfl, b3⟩; have S3 : Below w.heap.size w w3 := S2.trans (b3.mono S2.size))
    refine hK.out _ _ S3 (fun hS => ?_)
    clear hK
    refine anyH_take 7 23 (.tuple #[.agg #[], .bool false]) rfl rfl (by kernel_rfl) (by kernel_rfl) (by kernel_rfl) (fun _ _ _ h => h) (Or.inl ⟨by rfl, by intro w hSw; have lk := look65 (B.below hSw).map hx hy; rw [hcut] at lk; go_simp⟩) (S3) ?_
    try simp only [Act.put, List.setIfInBounds_toArray, List.set_cons_zero, List.set_cons_succ]
    refine anyH_take 8 15 (.tuple #[.agg #[], .bool false]) rfl rfl (by kernel_rfl) (by kernel_rfl) (by kernel_rfl) (fun _ _ _ h => h) (Or.inl ⟨by rfl, by intro w hSw; go_simp⟩) (S3) ?_
    try simp only [Act.put, List.setIfInBounds_toArray, List.set_cons_zero, List.set_cons_succ]
    refine anyH_take 9 24 (.agg #[]) rfl rfl (by kernel_rfl) (by kernel_rfl) (by kernel_rfl) (fun _ _ _ h => h) (Or.inl ⟨by rfl, by intro w hSw; go_simp⟩) (S3) ?_
    try simp only [Act.put, List.setIfInBounds_toArray, List.set_cons_zero, List.set_cons_succ]
    refine anyH_take 10 25 (.bool false) rfl rfl (by kernel_rfl) (by kernel_rfl) (by kernel_rfl) (fun _ _ _ h => h) (Or.inl ⟨by rfl, by intro w hSw; go_simp⟩) (S3) ?_
    try simp only [Act.put, List.setIfInBounds_toArray, List.set_cons_zero, List.set_cons_succ]
    refine wpAnyH_ready (rs := [12]) (by kernel_rfl) (by simp) ?_
    refine AllReadyH.cons rfl (fun K hK => ?_) AllReadyH.nil
    go_simp
    go_wp2
    refine hK.out _ _ S3 (fun hS => ?_)
    clear hK
    refine anyH_take 13 11 (.bool false) rfl rfl (by kernel_rfl) (by kernel_rfl) (by kernel_rfl) (fun _ _ _ h => h) (Or.inl ⟨by rfl, by intro w hSw; go_simp⟩) (S3) ?_
    try simp only [Act.put, List.setIfInBounds_toArray, List.set_cons_zero, List.set_cons_succ]
    refine wpAnyH_done (by kernel_rfl) ?_ _
    have B4 := B.below S3
    have c0 := row_cell B4.obj 0 (.int .i64 next) rfl
    have c1 := row_cell B4.obj 1 (.slice a n cap) rfl
    go_wp2
    go_ret2
    exact ⟨rfl, S3⟩
set_option maxHeartbeats 2000000 in
theorem put_spent (b M : Nat) (a : Option Addr) (n cap k : Nat) (next : Int) (ds : List DG) (D : DataW Unit) (x y : Int) (s : ByteArray) (w : World) (B : BagAt w b M a n cap k next ds D) (hx : I64 x) (hy : I64 y) (hcut : cut D x y = false) (hn : n < 65536) (hs : 4611686018427387904 ≤ next) : Calls Try.prog 16 #[.pointer (some ⟨b, 0, none⟩), .int .i64 x, .int .i64 y, .string s] w fun e w' => e = .returned (.tuple #[.int .i64 0, .int .i64 30]) ∧ Below w.heap.size w w' := by
  have hn1 : ¬ (65536 : Int) ≤ (n : Int) := by omega
  go_enter Try.func16, Try.ntmps16
  go_wp2_with (go_at_call 34; refine (given_any b M a n cap k next ds D _ B).mono ?_; rintro e w1 ⟨rfl, hw⟩; rw [hw]; clear hw)
  have S0 : Below w.heap.size w w.drew := (Below.refl _ _).drew
  refine wp_region_any (by kernel_rfl) ?_
  change wpAny _ _ _ _ _ _ _ (World.drew _)
  refine any_take 0 16 (.pointer (some ⟨b, 0, none⟩)) rfl rfl (by kernel_rfl) (by kernel_rfl) (by kernel_rfl) (fun _ _ _ h => h) (Or.inl ⟨by rfl, by intro w; go_simp⟩) ?_
  try simp only [Act.put, List.setIfInBounds_toArray, List.set_cons_zero, List.set_cons_succ]
  refine any_take 1 17 (.pointer (some ⟨b, 0, none⟩)) rfl rfl (by kernel_rfl) (by kernel_rfl) (by kernel_rfl) (fun _ _ _ h => h) (Or.inl ⟨by rfl, by intro w; go_simp⟩) ?_
  try simp only [Act.put, List.setIfInBounds_toArray, List.set_cons_zero, List.set_cons_succ]
  refine any_take 2 18 (.pointer (some ⟨b, 2, none⟩)) rfl rfl (by kernel_rfl) (by kernel_rfl) (by kernel_rfl) (fun _ _ _ h => h) (Or.inl ⟨by rfl, by intro w; go_simp⟩) ?_
  try simp only [Act.put, List.setIfInBounds_toArray, List.set_cons_zero, List.set_cons_succ]
  refine any_take 4 20 (.int .i64 x) rfl rfl (by kernel_rfl) (by kernel_rfl) (by kernel_rfl) (fun _ _ _ h => h) (Or.inl ⟨by rfl, by intro w; go_simp⟩) ?_
  try simp only [Act.put, List.setIfInBounds_toArray, List.set_cons_zero, List.set_cons_succ]
  refine any_take 5 21 (.int .i64 y) rfl rfl (by kernel_rfl) (by kernel_rfl) (by kernel_rfl) (fun _ _ _ h => h) (Or.inl ⟨by rfl, by intro w; go_simp⟩) ?_
  try simp only [Act.put, List.setIfInBounds_toArray, List.set_cons_zero, List.set_cons_succ]
  refine wpAny_narrow (fun W => Below w.heap.size w W) _ _ _ _ ?_
  refine anyH_take 3 19 (.map (some M)) rfl rfl (by kernel_rfl) (by kernel_rfl) (by kernel_rfl) (fun _ _ _ h => h) (Or.inl ⟨by rfl, by intro w hSw; have c2 := row_cell (B.below hSw).obj 2 (.map (some M)) rfl; go_simp⟩) (S0) ?_
  try simp only [Act.put, List.setIfInBounds_toArray, List.set_cons_zero, List.set_cons_succ]
  refine wpAnyH_ready (rs := [6, 11]) (by kernel_rfl) (by simp) ?_
  refine AllReadyH.cons rfl (fun K hK => ?_) (AllReadyH.cons rfl (fun K hK => ?_) AllReadyH.nil)
  · go_simp
    go_wp2_with (go_at_call 38; refine (pair_any x y _).mono ?_; rintro e w2 ⟨rfl, b2⟩; have S2 : Below w.heap.size w w2 := S0.trans (b2.mono S0.size))
    refine hK.out _ _ S2 (fun hS => ?_)
    clear hK
    refine anyH_take 7 23 (.tuple #[.agg #[], .bool false]) rfl rfl (by kernel_rfl) (by kernel_rfl) (by kernel_rfl) (fun _ _ _ h => h) (Or.inl ⟨by rfl, by intro w hSw; have lk := look65 (B.below hSw).map hx hy; rw [hcut] at lk; go_simp⟩) (S2) ?_
    try simp only [Act.put, List.setIfInBounds_toArray, List.set_cons_zero, List.set_cons_succ]
    refine anyH_take 8 15 (.tuple #[.agg #[], .bool false]) rfl rfl (by kernel_rfl) (by kernel_rfl) (by kernel_rfl) (fun _ _ _ h => h) (Or.inl ⟨by rfl, by intro w hSw; go_simp⟩) (S2) ?_
    try simp only [Act.put, List.setIfInBounds_toArray, List.set_cons_zero, List.set_cons_succ]
    refine anyH_take 9 24 (.agg #[]) rfl rfl (by kernel_rfl) (by kernel_rfl) (by kernel_rfl) (fun _ _ _ h => h) (Or.inl ⟨by rfl, by intro w hSw; go_simp⟩) (S2) ?_
    try simp only [Act.put, List.setIfInBounds_toArray, List.set_cons_zero, List.set_cons_succ]
    refine anyH_take 10 25 (.bool false) rfl rfl (by kernel_rfl) (by kernel_rfl) (by kernel_rfl) (fun _ _ _ h => h) (Or.inl ⟨by rfl, by intro w hSw; go_simp⟩) (S2) ?_
    try simp only [Act.put, List.setIfInBounds_toArray, List.set_cons_zero, List.set_cons_succ]
    refine wpAnyH_ready (rs := [11]) (by kernel_rfl) (by simp) ?_
    refine AllReadyH.cons rfl (fun K hK => ?_) AllReadyH.nil
    go_simp
    go_wp2
    have S3 := S2.alloc S2.size (.cells #[] 66)
    refine hK.out _ _ S3 (fun hS => ?_)
    clear hK
    refine wpAnyH_ready (rs := [12]) (by kernel_rfl) (by simp) ?_
    refine AllReadyH.cons rfl (fun K hK => ?_) AllReadyH.nil
    go_simp
    go_wp2
    refine hK.out _ _ S3 (fun hS => ?_)
    clear hK
    refine anyH_take 13 11 (.bool false) rfl rfl (by kernel_rfl) (by kernel_rfl) (by kernel_rfl) (fun _ _ _ h => h) (Or.inl ⟨by rfl, by intro w hSw; go_simp⟩) (S3) ?_
    try simp only [Act.put, List.setIfInBounds_toArray, List.set_cons_zero, List.set_cons_succ]
    refine wpAnyH_done (by kernel_rfl) ?_ _
    have B4 := B.below S3
    have c0 := row_cell B4.obj 0 (.int .i64 next) rfl
    have c1 := row_cell B4.obj 1 (.slice a n cap) rfl
    go_wp2
    go_ret2
    exact ⟨rfl, S3⟩
  · go_simp
    go_wp2
    have S2 : Below w.heap.size w (w.alloc (.cells #[] 66)).drew := ((Below.refl _ _).alloc (Nat.le_refl _) _).drew
    refine hK.out _ _ S2 (fun hS => ?_)
    clear hK
    refine wpAnyH_ready (rs := [6]) (by kernel_rfl) (by simp) ?_
    refine AllReadyH.cons rfl (fun K hK => ?_) AllReadyH.nil
    go_simp
    go_wp2_with (go_at_call 38; refine (pair_any x y _).mono ?_; rintro e w3 ⟨rfl, b3⟩; have S3 : Below w.heap.size w w3 := S2.trans (b3.mono S2.size))
    refine hK.out _ _ S3 (fun hS => ?_)
    clear hK
    refine anyH_take 7 23 (.tuple #[.agg #[], .bool false]) rfl rfl (by kernel_rfl) (by kernel_rfl) (by kernel_rfl) (fun _ _ _ h => h) (Or.inl ⟨by rfl, by intro w hSw; have lk := look65 (B.below hSw).map hx hy; rw [hcut] at lk; go_simp⟩) (S3) ?_
    try simp only [Act.put, List.setIfInBounds_toArray, List.set_cons_zero, List.set_cons_succ]
    refine anyH_take 8 15 (.tuple #[.agg #[], .bool false]) rfl rfl (by kernel_rfl) (by kernel_rfl) (by kernel_rfl) (fun _ _ _ h => h) (Or.inl ⟨by rfl, by intro w hSw; go_simp⟩) (S3) ?_
    try simp only [Act.put, List.setIfInBounds_toArray, List.set_cons_zero, List.set_cons_succ]
    refine anyH_take 9 24 (.agg #[]) rfl rfl (by kernel_rfl) (by kernel_rfl) (by kernel_rfl) (fun _ _ _ h => h) (Or.inl ⟨by rfl, by intro w hSw; go_simp⟩) (S3) ?_
    try simp only [Act.put, List.setIfInBounds_toArray, List.set_cons_zero, List.set_cons_succ]
    refine anyH_take 10 25 (.bool false) rfl rfl (by kernel_rfl) (by kernel_rfl) (by kernel_rfl) (fun _ _ _ h => h) (Or.inl ⟨by rfl, by intro w hSw; go_simp⟩) (S3) ?_
    try simp only [Act.put, List.setIfInBounds_toArray, List.set_cons_zero, List.set_cons_succ]
    refine wpAnyH_ready (rs := [12]) (by kernel_rfl) (by simp) ?_
    refine AllReadyH.cons rfl (fun K hK => ?_) AllReadyH.nil
    go_simp
    go_wp2
    refine hK.out _ _ S3 (fun hS => ?_)
    clear hK
    refine anyH_take 13 11 (.bool false) rfl rfl (by kernel_rfl) (by kernel_rfl) (by kernel_rfl) (fun _ _ _ h => h) (Or.inl ⟨by rfl, by intro w hSw; go_simp⟩) (S3) ?_
    try simp only [Act.put, List.setIfInBounds_toArray, List.set_cons_zero, List.set_cons_succ]
    refine wpAnyH_done (by kernel_rfl) ?_ _
    have B4 := B.below S3
    have c0 := row_cell B4.obj 0 (.int .i64 next) rfl
    have c1 := row_cell B4.obj 1 (.slice a n cap) rfl
    go_wp2
    go_ret2
    exact ⟨rfl, S3⟩
end Go.Proofs.Ytoppecppmjpgiaa
