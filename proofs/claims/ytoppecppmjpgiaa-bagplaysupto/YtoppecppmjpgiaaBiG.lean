/-
  Package bag: what State returns.
-/
import Derived.Test.YtoppecppmjpgiaaBiF
namespace Go.Proofs.Ytoppecppmjpgiaa
open Go.ChangeShapes Go.WideShapes Go.ChangeAt Go.RowKit Go.Maps Go.Shelf Go.Sort
set_option linter.unusedVariables false
set_option linter.unusedSimpArgs false
theorem wp_copy_lst {o : Oper} {A : Act} {W : World} {K : Go.Act → World → Prop} {Q : Exit → Go.Act → World → Prop} (s x : Operand) (ho : o.op = .call { callee := .builtin .append, args := #[s, x], argTypes := #[22, 22] }) {a : Option Addr} {n cap : Nat} {ds : List DG}
    (hs : A.eval s = .slice none 0 0) (hx : A.eval x = .slice a n cap) (L : Lst W a n cap ds) (hn : n * 40 ≤ 140737488355328)
    (h : ∀ a' cap' w', Lst w' a' n cap' ds → (∀ g off, a' = some ⟨g, off, none⟩ → W.heap.size ≤ g) → Below W.heap.size W w' → K (A.put o.dst (.slice a' n cap')) w') : o.wp Try.prog A W K Q := by
  obtain ⟨a', cap', w', hrun, L', hb, hB⟩ := run_copy_lst o.type L hn
  unfold Oper.wp
  simp [execOp, ho, resolve, invoke, builtin, hs, hx, hrun, Result.andThen]
  exact h a' cap' w' L' hb hB
/-- What holds throughout: what lay is as it was; the place of the result. -/
structure StS (w W : World) : Prop where
  below : Below w.heap.size w W
  cell : ∃ c0 c1 c2, W.heap[w.heap.size]? = some (.cells #[c0, c1, c2] 25 (0, 0))
theorem StS.drew {w W : World} (h : StS w W) : StS w W.drew := ⟨h.below.drew, h.cell⟩
theorem StS.later {w W W' : World} (h : StS w W) (b : Below W.heap.size W W') : StS w W' := ⟨h.below.trans (b.mono h.below.size), by obtain ⟨c0, c1, c2, e⟩ := h.cell; exact ⟨c0, c1, c2, (b.block _ (row_lt e)).trans e⟩⟩
set_option maxRecDepth 100000 in
set_option maxHeartbeats 4000000 in
theorem state_any (b M : Nat) (a : Option Addr) (n cap k : Nat) (next : Int) (ds : List DG) (D : DataW Unit) (w : World) (B : BagAt w b M a n cap k next ds D) (hn : n * 40 ≤ 140737488355328) (hD : Maps.size D * 16 ≤ 140737488355328) :
    Calls Try.prog 12 #[.pointer (some ⟨b, 0, none⟩)] w fun e w' => ∃ a' c' la m lc, e = .returned (mailV next a' n c' la m lc) ∧ Below w.heap.size w w' ∧ (∀ g off, a' = some ⟨g, off, none⟩ → w.heap.size ≤ g) ∧ (∀ g off, la = some ⟨g, off, none⟩ → w.heap.size ≤ g) ∧ Lst w' a' n c' ds ∧ ∃ ts, Keys D ts ∧ Rise ts ∧ Lks w' la m lc (ts.map toLK) := by
  have HN : Hid (n * 40 ≤ 140737488355328) := ⟨hn⟩
  have HD : Hid (Maps.size D * 16 ≤ 140737488355328) := ⟨hD⟩
  have hbl := row_lt B.obj
  clear hn hD
  have KG := fun W (h : Below w.heap.size w W) => given_any b M a n cap k next ds D W (B.below h)
  go_enter Try.func12, Try.ntmps12
  go_wp2_with (go_at_call 34; refine (KG _ (by go_grown)).mono ?_; rintro e wx ⟨rfl, hw⟩; rw [hw]; clear hw wx)
  obtain ⟨W0, hW0⟩ : ∃ X, w.alloc (.cells #[.int .i64 0, .slice none 0 0, .slice none 0 0] 25) = X := ⟨_, rfl⟩
  have S0 : StS w W0 := by rw [← hW0]; exact ⟨by go_grown, ⟨_, _, _, World.alloc_heap_new _ _⟩⟩
  rw [hW0]
  clear hW0 KG
  refine wp_region_any (by kernel_rfl) ?_
  change wpAny _ _ _ _ _ _ _ (World.drew _)
  refine wpAny_narrow (fun W' => StS w W') _ _ _ _ ?_
  refine anyH_take 0 7 (.pointer (some ⟨b, 0, none⟩)) rfl rfl (by kernel_rfl) (by kernel_rfl) (by kernel_rfl) (fun _ _ _ h => h) (Or.inl ⟨by rfl, by intro w hSw; go_simp⟩) (S0.drew) ?_
  try simp only [Act.put, List.setIfInBounds_toArray, List.set_cons_zero, List.set_cons_succ]
  refine anyH_take 1 8 (.pointer (some ⟨b, 0, none⟩)) rfl rfl (by kernel_rfl) (by kernel_rfl) (by kernel_rfl) (fun _ _ _ h => h) (Or.inl ⟨by rfl, by intro w hSw; go_simp⟩) (S0.drew) ?_
  try simp only [Act.put, List.setIfInBounds_toArray, List.set_cons_zero, List.set_cons_succ]
  refine anyH_take 2 9 (.pointer (some ⟨b, 0, none⟩)) rfl rfl (by kernel_rfl) (by kernel_rfl) (by kernel_rfl) (fun _ _ _ h => h) (Or.inl ⟨by rfl, by intro w hSw; go_simp⟩) (S0.drew) ?_
  try simp only [Act.put, List.setIfInBounds_toArray, List.set_cons_zero, List.set_cons_succ]
  refine anyH_take 3 10 (.int .i64 next) rfl rfl (by kernel_rfl) (by kernel_rfl) (by kernel_rfl) (fun _ _ _ h => h) (Or.inl ⟨by rfl, by intro w hSw; have k0 := row_cell ((hSw.below.block b hbl).trans B.obj) 0 (.int .i64 next) rfl; go_simp⟩) (S0.drew) ?_
  try simp only [Act.put, List.setIfInBounds_toArray, List.set_cons_zero, List.set_cons_succ]
  refine anyH_take 4 11 (.pointer (some ⟨b, 0, none⟩)) rfl rfl (by kernel_rfl) (by kernel_rfl) (by kernel_rfl) (fun _ _ _ h => h) (Or.inl ⟨by rfl, by intro w hSw; go_simp⟩) (S0.drew) ?_
  try simp only [Act.put, List.setIfInBounds_toArray, List.set_cons_zero, List.set_cons_succ]
  refine anyH_take 5 12 (.pointer (some ⟨b, 0, none⟩)) rfl rfl (by kernel_rfl) (by kernel_rfl) (by kernel_rfl) (fun _ _ _ h => h) (Or.inl ⟨by rfl, by intro w hSw; go_simp⟩) (S0.drew) ?_
  try simp only [Act.put, List.setIfInBounds_toArray, List.set_cons_zero, List.set_cons_succ]
  refine anyH_take 6 13 (.pointer (some ⟨b, 1, none⟩)) rfl rfl (by kernel_rfl) (by kernel_rfl) (by kernel_rfl) (fun _ _ _ h => h) (Or.inl ⟨by rfl, by intro w hSw; go_simp⟩) (S0.drew) ?_
  try simp only [Act.put, List.setIfInBounds_toArray, List.set_cons_zero, List.set_cons_succ]
  refine anyH_take 7 14 (.slice a n cap) rfl rfl (by kernel_rfl) (by kernel_rfl) (by kernel_rfl) (fun _ _ _ h => h) (Or.inl ⟨by rfl, by intro w hSw; have k0 := row_cell ((hSw.below.block b hbl).trans B.obj) 1 (.slice a n cap) rfl; go_simp⟩) (S0.drew) ?_
  try simp only [Act.put, List.setIfInBounds_toArray, List.set_cons_zero, List.set_cons_succ]
  refine anyH_take 9 16 (.pointer (some ⟨b, 0, none⟩)) rfl rfl (by kernel_rfl) (by kernel_rfl) (by kernel_rfl) (fun _ _ _ h => h) (Or.inl ⟨by rfl, by intro w hSw; go_simp⟩) (S0.drew) ?_
  try simp only [Act.put, List.setIfInBounds_toArray, List.set_cons_zero, List.set_cons_succ]
  refine anyH_take 10 17 (.pointer (some ⟨b, 0, none⟩)) rfl rfl (by kernel_rfl) (by kernel_rfl) (by kernel_rfl) (fun _ _ _ h => h) (Or.inl ⟨by rfl, by intro w hSw; go_simp⟩) (S0.drew) ?_
  try simp only [Act.put, List.setIfInBounds_toArray, List.set_cons_zero, List.set_cons_succ]
  refine anyH_take 11 18 (.pointer (some ⟨b, 2, none⟩)) rfl rfl (by kernel_rfl) (by kernel_rfl) (by kernel_rfl) (fun _ _ _ h => h) (Or.inl ⟨by rfl, by intro w hSw; go_simp⟩) (S0.drew) ?_
  try simp only [Act.put, List.setIfInBounds_toArray, List.set_cons_zero, List.set_cons_succ]
  refine anyH_take 12 19 (.map (some M)) rfl rfl (by kernel_rfl) (by kernel_rfl) (by kernel_rfl) (fun _ _ _ h => h) (Or.inl ⟨by rfl, by intro w hSw; have k0 := row_cell ((hSw.below.block b hbl).trans B.obj) 2 (.map (some M)) rfl; go_simp⟩) (S0.drew) ?_
  try simp only [Act.put, List.setIfInBounds_toArray, List.set_cons_zero, List.set_cons_succ]
  refine wpAnyH_ready (rs := [8]) (by kernel_rfl) (by simp) ?_
  refine AllReadyH.cons rfl (fun K hK => ?_) AllReadyH.nil
  refine wp_copy_lst _ _ rfl rfl rfl (B.lst.below S0.drew.below) HN.out ?_
  intro a1 c1 w1 L1 o1 b1
  have S1 := S0.drew.later b1
  refine hK _ _ S1 (fun hS => ?_)
  clear hK
  try simp only [Act.put, List.setIfInBounds_toArray, List.set_cons_zero, List.set_cons_succ]
  refine wpAnyH_ready (rs := [13]) (by kernel_rfl) (by simp) ?_
  refine AllReadyH.cons rfl (fun K hK => ?_) AllReadyH.nil
  go_simp
  go_wp2_with (go_at_call 36; refine (keysf_any M _).mono ?_; rintro e w2 ⟨rfl, hw2⟩; have S2 : StS w w2 := (by rw [hw2]; exact S1.later ((Below.refl _ _).alloc (Nat.le_refl _) _)); have O2 : One w2 w1.heap.size (.map (some M)) := (by rw [hw2]; exact One.new _ _ _); have b2 : Below w1.heap.size w1 w2 := (by rw [hw2]; exact (Below.refl _ _).alloc (Nat.le_refl _) _); clear hw2)
  refine hK.out _ _ (S2) (fun hS => ?_)
  clear hK
  refine wpAnyH_ready (rs := [14]) (by kernel_rfl) (by simp) ?_
  refine AllReadyH.cons rfl (fun K hK => ?_) AllReadyH.nil
  go_simp
  go_wp2_with (go_at_call 35; refine (sorted_any w1.heap.size M k D w2 (owns_of B.map (S2.below.block M B.map.lt)) O2 HD.out).mono ?_; rintro e w3 ⟨la, m, c, rfl, b3, f3, hT⟩; have S3 := S2.later b3)
  refine hK.out _ _ (S3) (fun hS => ?_)
  clear hK
  refine anyH_take 15 22 (.agg #[.int .i64 next, .slice a1 n c1, .slice la m c]) rfl rfl (by kernel_rfl) (by kernel_rfl) (by kernel_rfl) (fun _ _ _ h => h) (Or.inl ⟨by rfl, by intro w hSw; go_simp⟩) (S3) ?_
  try simp only [Act.put, List.setIfInBounds_toArray, List.set_cons_zero, List.set_cons_succ]
  obtain ⟨z0, z1, z2, hz⟩ := S3.cell
  have q0 := row_cell hz 0 _ rfl
  have q1 := row_cell hz 1 _ rfl
  have q2 := row_cell hz 2 _ rfl
  have r0 := row_free hz 0
  have r1 := row_free hz 1
  have r2 := row_free hz 2
  have Z1 := set_row (set_row (set_row hz 0 (.int .i64 next)) 1 (.slice a1 n c1)) 2 (.slice la m c)
  have S4 : StS w (((w3.setCell ⟨w.heap.size, 0, none⟩ (.int .i64 next)).setCell ⟨w.heap.size, 1, none⟩ (.slice a1 n c1)).setCell ⟨w.heap.size, 2, none⟩ (.slice la m c)) := ⟨((S3.below.setCell (p := ⟨w.heap.size, 0, none⟩) (Nat.le_refl _) _).setCell (p := ⟨w.heap.size, 1, none⟩) (Nat.le_refl _) _).setCell (p := ⟨w.heap.size, 2, none⟩) (Nat.le_refl _) _, ⟨_, _, _, Z1⟩⟩
  refine wpAnyH_ready (rs := [16]) (by kernel_rfl) (by simp) ?_
  refine AllReadyH.cons rfl (fun K hK => ?_) AllReadyH.nil
  go_simp
  go_wp2_with (fail)
  refine hK.out _ _ (S4) (fun hS => ?_)
  clear hK
  refine wpAnyH_done (by kernel_rfl) ?_ _
  go_wp2
  have far : ∀ g, g ≠ w.heap.size → (((w3.setCell ⟨w.heap.size, 0, none⟩ (.int .i64 next)).setCell ⟨w.heap.size, 1, none⟩ (.slice a1 n c1)).setCell ⟨w.heap.size, 2, none⟩ (.slice la m c)).heap[g]? = w3.heap[g]? := fun g hg => set_far (set_far (set_far rfl hg _ _) hg _ _) hg _ _
  have hW0 : w.heap.size < W0.heap.size := by obtain ⟨_, _, _, e⟩ := S0.cell; exact row_lt e
  have hs1 : W0.heap.size ≤ w1.heap.size := b1.size
  have hs2 := b2.size
  have hs3 := b3.size
  obtain ⟨ts, hk, hr, hl⟩ := hT
  refine bodyPost_ret (results_row1 rfl _ _ w.heap.size _ rfl (load_25m Z1)) rfl ⟨a1, c1, la, m, c, rfl, S4.below, fun g off e => ?_, fun g off e => ?_, L1.of_block fun g off e => ?_, ts, hk, hr, hl.of_block (by simp [World.setCell]) fun g off e => ?_⟩
  · have := o1 g off e; have h5 : W0.drew.heap.size = W0.heap.size := rfl; omega
  · have := f3 g off e; omega
  · have h5 := o1 g off e; have h6 : W0.drew.heap.size = W0.heap.size := rfl; have h7 : g < w1.heap.size := (by subst e; exact L1.lt); exact (far g (by omega)).trans ((b3.block g (by omega)).trans (b2.block g h7))
  · exact far g (by have := f3 g off e; omega)
end Go.Proofs.Ytoppecppmjpgiaa
