/-
  Package bag: which packets are lost (closures).
-/
import Derived.Test.YtoppecppmjpgiaaBg5
namespace Go.Proofs.Ytoppecppmjpgiaa
open Go.ChangeShapes Go.WideShapes Go.ChangeAt Go.RowKit Go.Maps
set_option linter.unusedVariables false
set_option linter.unusedSimpArgs false

theorem eql65 (w : World) (x y z u : Int) : (binOp .eql 65 (lnk x y) (lnk z u)).run Try.prog w = .ok (.bool (x == z && y == u)) w := by
  go_simp
  split
  · split <;> simp_all
  · simp_all
theorem exec_eql65 {o : Oper} {A : Act} {W : World} {p q : Operand} {x y z u : Int} (ho : o.op = .binOp .eql 65 p q 65) (hp : A.eval p = lnk x y) (hq : A.eval q = lnk z u) : (execOp A.eval o).run Try.prog W = .ok (.value (.bool (x == z && y == u))) W := by
  have h := eql65 W x y z u
  have hg := run_eqGuard_agg (P := Try.prog) (w := W) .eql 65 p q #[.int .i64 x, .int .i64 y] #[.int .i64 z, .int .i64 u] (by kernel_rfl)
  unfold execOp
  simp only [ho, hp, hq, Sem.run_bind, hg, h, Result.andThen_ok, Sem.run_pure]
/-- Whether a packet goes between the two. -/
def onWay (x y : Int) (d : DG) : Bool := min d.src d.dst == x && max d.src d.dst == y
set_option maxHeartbeats 2000000 in
theorem way_any (d : DG) (l : Nat) (x y : Int) (w : World) (H : w.heap[l]? = some (.cells #[.int .i64 x, .int .i64 y] 65 (0, 0))) : Calls Try.prog 42 #[dgv d, .pointer (some ⟨l, 0, none⟩)] w fun e w' => e = .returned (.bool (onWay x y d)) ∧ Below w.heap.size w w' := by
  obtain ⟨num, src, dst, body⟩ := d
  obtain ⟨r, hr⟩ : ∃ r, onWay x y ⟨num, src, dst, body⟩ = r := ⟨_, rfl⟩
  rw [hr]
  show Calls Try.prog 42 #[.agg #[.int .i64 num, .int .i64 src, .int .i64 dst, .string body], .pointer (some ⟨l, 0, none⟩)] w _
  have B1 : Below w.heap.size w (w.alloc (.cells #[.int .i64 num, .int .i64 src, .int .i64 dst, .string body] 33)) := (Below.refl _ _).alloc (Nat.le_refl _) _
  have X1 : (w.alloc (.cells #[.int .i64 num, .int .i64 src, .int .i64 dst, .string body] 33)).heap[w.heap.size]? = some (.cells #[.int .i64 num, .int .i64 src, .int .i64 dst, .string body] 33 (0, 0)) := World.alloc_heap_new _ _
  go_enter Try.func42, Try.ntmps42
  go_wp2_with (fail)
  refine wp_region_any (by kernel_rfl) ?_
  change wpAny _ _ _ _ _ _ _ (World.drew _)
  obtain ⟨w2, hw2⟩ : ∃ X, World.drew (w.alloc (.cells #[.int .i64 num, .int .i64 src, .int .i64 dst, .string body] 33)) = X := ⟨_, rfl⟩
  have S2 : Below w.heap.size w w2 := by rw [← hw2]; exact B1.drew
  have X2 : w2.heap[w.heap.size]? = some (.cells #[.int .i64 num, .int .i64 src, .int .i64 dst, .string body] 33 (0, 0)) := by rw [← hw2]; exact X1
  rw [hw2]
  clear hw2 X1 B1
  have H2 := (S2.block _ (row_lt H)).trans H
  refine any_take 0 4 (.pointer (some ⟨w.heap.size, 1, none⟩)) rfl rfl (by kernel_rfl) (by kernel_rfl) (by kernel_rfl) (fun _ _ _ h => h) (Or.inl ⟨by rfl, by intro w; go_simp⟩) ?_
  try simp only [Act.put, List.setIfInBounds_toArray, List.set_cons_zero, List.set_cons_succ]
  refine any_take 2 6 (.pointer (some ⟨w.heap.size, 2, none⟩)) rfl rfl (by kernel_rfl) (by kernel_rfl) (by kernel_rfl) (fun _ _ _ h => h) (Or.inl ⟨by rfl, by intro w; go_simp⟩) ?_
  try simp only [Act.put, List.setIfInBounds_toArray, List.set_cons_zero, List.set_cons_succ]
  refine wpAny_narrow (fun W => Below w2.heap.size w2 W) _ _ _ _ ?_
  refine anyH_take 1 5 (.int .i64 src) rfl rfl (by kernel_rfl) (by kernel_rfl) (by kernel_rfl) (fun _ _ _ h => h) (Or.inl ⟨by rfl, by intro w hSw; have c := row_cell ((hSw.block _ (row_lt X2)).trans X2) 1 (.int .i64 src) rfl; go_simp⟩) (Below.refl _ _) ?_
  try simp only [Act.put, List.setIfInBounds_toArray, List.set_cons_zero, List.set_cons_succ]
  refine anyH_take 3 7 (.int .i64 dst) rfl rfl (by kernel_rfl) (by kernel_rfl) (by kernel_rfl) (fun _ _ _ h => h) (Or.inl ⟨by rfl, by intro w hSw; have c := row_cell ((hSw.block _ (row_lt X2)).trans X2) 2 (.int .i64 dst) rfl; go_simp⟩) (Below.refl _ _) ?_
  try simp only [Act.put, List.setIfInBounds_toArray, List.set_cons_zero, List.set_cons_succ]
  refine anyH_take 5 9 (lnk x y) rfl rfl (by kernel_rfl) (by kernel_rfl) (by kernel_rfl) (fun _ _ _ h => h) (Or.inl ⟨by rfl, by intro X hSw; exact exec_load65 rfl rfl ((hSw.block _ (row_lt H2)).trans H2)⟩) (Below.refl _ _) ?_
  try simp only [Act.put, List.setIfInBounds_toArray, List.set_cons_zero, List.set_cons_succ]
  refine wpAnyH_ready (rs := [4]) (by kernel_rfl) (by simp) ?_
  refine AllReadyH.cons rfl (fun K hK => ?_) AllReadyH.nil
  go_simp
  go_wp2_with (go_at_call 38; refine (pair_any src dst _).mono ?_; rintro e w3 ⟨rfl, b3⟩)
  refine hK.out _ _ (b3) (fun hS => ?_)
  clear hK
  refine anyH_take 6 10 (.bool r) rfl rfl (by kernel_rfl) (by kernel_rfl) (by kernel_rfl) (fun _ _ _ h => h) (Or.inl ⟨by rfl, by intro X hSw; rw [← hr]; exact exec_eql65 rfl rfl rfl⟩) (b3) ?_
  try simp only [Act.put, List.setIfInBounds_toArray, List.set_cons_zero, List.set_cons_succ]
  refine anyH_take 7 3 (.bool r) rfl rfl (by kernel_rfl) (by kernel_rfl) (by kernel_rfl) (fun _ _ _ h => h) (Or.inl ⟨by rfl, by intro w hSw; go_simp⟩) (b3) ?_
  try simp only [Act.put, List.setIfInBounds_toArray, List.set_cons_zero, List.set_cons_succ]
  refine wpAnyH_done (by kernel_rfl) ?_ _
  go_wp2
  go_ret
  exact ⟨rfl, S2.trans (b3.mono S2.size)⟩
set_option maxHeartbeats 1000000 in
theorem onto_any (d : DG) (l : Nat) (x : Int) (w : World) (H : w.heap[l]? = some (.cells #[.int .i64 x] 3 (0, 0))) : Calls Try.prog 43 #[dgv d, .pointer (some ⟨l, 0, none⟩)] w fun e w' => e = .returned (.bool (d.dst == x)) ∧ Below w.heap.size w w' := by
  obtain ⟨num, src, dst, body⟩ := d
  show Calls Try.prog 43 #[.agg #[.int .i64 num, .int .i64 src, .int .i64 dst, .string body], .pointer (some ⟨l, 0, none⟩)] w _
  have B1 : Below w.heap.size w (w.alloc (.cells #[.int .i64 num, .int .i64 src, .int .i64 dst, .string body] 33)) := (Below.refl _ _).alloc (Nat.le_refl _) _
  have c0 := row_cell ((B1.block _ (row_lt H)).trans H) 0 (.int .i64 x) rfl
  go_enter Try.func43, Try.ntmps43
  go_wp2
  go_ret
  exact ⟨rfl, B1⟩
end Go.Proofs.Ytoppecppmjpgiaa
