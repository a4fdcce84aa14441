/-
  Package derive: how one kind is told; what stands for a fraction, for a count.
-/
import Derived.Test.YtiigmohnmkgfoaaDoorDC
import Derived.Test.YtiigmohnmkgfoaaDoorRText
import Derived.OrdersHeld
import Derived.RegionTactic
namespace Go.Proofs.YtiigmohnmkgfoaaDoor
open Go.ChangeShapes Go.WideShapes Go.ChangeAt Go.RowKit
set_option linter.unusedVariables false
set_option linter.unusedSimpArgs false

theorem wpList_index {P : Program} {ops : Array Oper} {rest : List Oper} {o : Oper} {A : Act} {W : World} {Q : Exit → Act → World → Prop} {t : TypeId} {x y : Operand} (hgd : o.guard = none) (ho : o.op = .index t x y) (v : Value)
    (hv : (Instr.index t (A.eval x) (A.eval y)).run P W = .ok v W) (H : wpList P ops Q rest (A.put o.dst v) W) : wpList P ops Q (o :: rest) A W := by
  refine wpList_plain hgd fun K hK => ?_
  unfold Oper.wp execOp
  simp only [ho, Sem.run_bind, hv, Result.andThen_ok, Sem.run_pure]
  exact hK _ _ H
section
variable {N : Nat} {C : Nat → Prop} {w W : World} {l : List Blk}

set_option maxRecDepth 100000 in
set_option maxHeartbeats 4000000 in
theorem telling1_any (M : MemG N C w W l) : Calls Tryd.prog 29 #[.int .i64 1] W fun e W' => ∃ k1 k2 : Nat, e = .returned (.agg #[.int .i64 1048576, fnv 50, clo k1]) ∧ MemG N C w W' ((k2, #[.string secS], 9) :: (k1, #[.string meanS], 9) :: l) := by
  go_enter Tryd.func29, Tryd.ntmps29
  go_wp2_with (first
      | ((with_reducible show wpList _ _ _ (Oper.mk (some 2) (Op.alloc 56) _ _ _ _ :: _) _ _); refine wpList_alloc M rfl rfl rt56 ?_; clear M; intro k0 W M)
      | (go_at_call 46; refine (tellings_any M).mono ?_; clear M; rintro e W1 ⟨k1, k2, rfl, M⟩)
      | ((with_reducible show wpList _ _ _ (Oper.mk (some 12) (Op.index 64 _ _) _ _ _ _ :: _) _ _); refine wpList_index rfl rfl _ (index1 k1 k2 _) ?_)
      | ((with_reducible show wpList _ _ _ (Oper.mk _ (Op.store 56 _ _) _ _ _ _ :: _) _ _); (first | (refine wpList_put M rfl _ _ rfl rt56 2 #[.int .i64 1048576, fnv 50, clo k1] rfl rfl rfl rfl rfl (by simp [Value.oneCell']) ?_)); clear M; intro W M; simp only [List.set_cons_zero, List.set_cons_succ] at M))
  refine bodyPost_ret (results_c rfl _ _ k0 _ rfl (load_row (M.get (.tail _ (.tail _ (.head _)))) rt56 rfl)) rfl ⟨k1, k2, rfl, ?_⟩
  exact M.sub (.cons_cons _ (.cons_cons _ (.cons _ (List.Sublist.refl _))))

set_option maxRecDepth 100000 in
set_option maxHeartbeats 4000000 in
theorem telling2_any (M : MemG N C w W l) : Calls Tryd.prog 29 #[.int .i64 2] W fun e W' => ∃ k1 k2 : Nat, e = .returned (.agg #[.int .i64 1048576, fnv 52, fnv 53]) ∧ MemG N C w W' ((k2, #[.string secS], 9) :: (k1, #[.string meanS], 9) :: l) := by
  go_enter Tryd.func29, Tryd.ntmps29
  go_wp2_with (first
      | ((with_reducible show wpList _ _ _ (Oper.mk (some 2) (Op.alloc 56) _ _ _ _ :: _) _ _); refine wpList_alloc M rfl rfl rt56 ?_; clear M; intro k0 W M)
      | (go_at_call 46; refine (tellings_any M).mono ?_; clear M; rintro e W1 ⟨k1, k2, rfl, M⟩)
      | ((with_reducible show wpList _ _ _ (Oper.mk (some 12) (Op.index 64 _ _) _ _ _ _ :: _) _ _); refine wpList_index rfl rfl _ (index2 k1 k2 _) ?_)
      | ((with_reducible show wpList _ _ _ (Oper.mk _ (Op.store 56 _ _) _ _ _ _ :: _) _ _); (first | (refine wpList_put M rfl _ _ rfl rt56 2 #[.int .i64 1048576, fnv 52, fnv 53] rfl rfl rfl rfl rfl (by simp [Value.oneCell']) ?_)); clear M; intro W M; simp only [List.set_cons_zero, List.set_cons_succ] at M))
  refine bodyPost_ret (results_c rfl _ _ k0 _ rfl (load_row (M.get (.tail _ (.tail _ (.head _)))) rt56 rfl)) rfl ⟨k1, k2, rfl, ?_⟩
  exact M.sub (.cons_cons _ (.cons_cons _ (.cons _ (List.Sublist.refl _))))

set_option maxRecDepth 100000 in
set_option maxHeartbeats 4000000 in
theorem telling3_any (M : MemG N C w W l) : Calls Tryd.prog 29 #[.int .i64 3] W fun e W' => ∃ k1 k2 : Nat, e = .returned (.agg #[.int .i64 1048576, fnv 54, clo k2]) ∧ MemG N C w W' ((k2, #[.string secS], 9) :: (k1, #[.string meanS], 9) :: l) := by
  go_enter Tryd.func29, Tryd.ntmps29
  go_wp2_with (first
      | ((with_reducible show wpList _ _ _ (Oper.mk (some 2) (Op.alloc 56) _ _ _ _ :: _) _ _); refine wpList_alloc M rfl rfl rt56 ?_; clear M; intro k0 W M)
      | (go_at_call 46; refine (tellings_any M).mono ?_; clear M; rintro e W1 ⟨k1, k2, rfl, M⟩)
      | ((with_reducible show wpList _ _ _ (Oper.mk (some 12) (Op.index 64 _ _) _ _ _ _ :: _) _ _); refine wpList_index rfl rfl _ (index3 k1 k2 _) ?_)
      | ((with_reducible show wpList _ _ _ (Oper.mk _ (Op.store 56 _ _) _ _ _ _ :: _) _ _); (first | (refine wpList_put M rfl _ _ rfl rt56 2 #[.int .i64 1048576, fnv 54, clo k2] rfl rfl rfl rfl rfl (by simp [Value.oneCell']) ?_)); clear M; intro W M; simp only [List.set_cons_zero, List.set_cons_succ] at M))
  refine bodyPost_ret (results_c rfl _ _ k0 _ rfl (load_row (M.get (.tail _ (.tail _ (.head _)))) rt56 rfl)) rfl ⟨k1, k2, rfl, ?_⟩
  exact M.sub (.cons_cons _ (.cons_cons _ (.cons _ (List.Sublist.refl _))))

set_option maxRecDepth 100000 in
set_option maxHeartbeats 4000000 in
theorem telling4_any (M : MemG N C w W l) : Calls Tryd.prog 29 #[.int .i64 4] W fun e W' => ∃ k1 k2 : Nat, e = .returned (.agg #[.int .i64 1, fnv 50, .nilFunc]) ∧ MemG N C w W' ((k2, #[.string secS], 9) :: (k1, #[.string meanS], 9) :: l) := by
  go_enter Tryd.func29, Tryd.ntmps29
  go_wp2_with (first
      | ((with_reducible show wpList _ _ _ (Oper.mk (some 2) (Op.alloc 56) _ _ _ _ :: _) _ _); refine wpList_alloc M rfl rfl rt56 ?_; clear M; intro k0 W M)
      | (go_at_call 46; refine (tellings_any M).mono ?_; clear M; rintro e W1 ⟨k1, k2, rfl, M⟩)
      | ((with_reducible show wpList _ _ _ (Oper.mk (some 12) (Op.index 64 _ _) _ _ _ _ :: _) _ _); refine wpList_index rfl rfl _ (index4 k1 k2 _) ?_)
      | ((with_reducible show wpList _ _ _ (Oper.mk _ (Op.store 56 _ _) _ _ _ _ :: _) _ _); (first | (refine wpList_put M rfl _ _ rfl rt56 2 #[.int .i64 1, fnv 50, .nilFunc] rfl rfl rfl rfl rfl (by simp [Value.oneCell']) ?_)); clear M; intro W M; simp only [List.set_cons_zero, List.set_cons_succ] at M))
  refine bodyPost_ret (results_c rfl _ _ k0 _ rfl (load_row (M.get (.tail _ (.tail _ (.head _)))) rt56 rfl)) rfl ⟨k1, k2, rfl, ?_⟩
  exact M.sub (.cons_cons _ (.cons_cons _ (.cons _ (List.Sublist.refl _))))

set_option maxRecDepth 100000 in
set_option maxHeartbeats 4000000 in
theorem tellingN_any (M : MemG N C w W l) (k : Int) (hk : k < 1 ∨ 4 < k) : Calls Tryd.prog 29 #[.int .i64 k] W fun e W' => e = .returned (.agg zK) ∧ MemG N C w W' l := by
  by_cases h1 : k < 1
  · clear hk
    go_enter Tryd.func29, Tryd.ntmps29
    go_wp2_with (first
      | ((with_reducible show wpList _ _ _ (Oper.mk (some 2) (Op.alloc 56) _ _ _ _ :: _) _ _); refine wpList_alloc M rfl rfl rt56 ?_; clear M; intro k0 W M)
      | ((with_reducible show wpList _ _ _ (Oper.mk _ (Op.store 56 _ _) _ _ _ _ :: _) _ _); (first | (refine wpList_put M rfl _ _ rfl rt56 0 zK rfl rfl rfl rfl rfl (by simp [Value.oneCell']) ?_)); clear M; intro W M; simp only [List.set_cons_zero, List.set_cons_succ] at M))
    refine bodyPost_ret (results_c rfl _ _ k0 _ rfl (load_row (M.get (.head _)) rt56 rfl)) rfl ⟨rfl, ?_⟩
    exact M.tail
  · have h4 : 4 < k := by omega
    clear hk
    go_enter Tryd.func29, Tryd.ntmps29
    go_wp2_with (first
      | ((with_reducible show wpList _ _ _ (Oper.mk (some 2) (Op.alloc 56) _ _ _ _ :: _) _ _); refine wpList_alloc M rfl rfl rt56 ?_; clear M; intro k0 W M)
      | ((with_reducible show wpList _ _ _ (Oper.mk _ (Op.store 56 _ _) _ _ _ _ :: _) _ _); (first | (refine wpList_put M rfl _ _ rfl rt56 0 zK rfl rfl rfl rfl rfl (by simp [Value.oneCell']) ?_)); clear M; intro W M; simp only [List.set_cons_zero, List.set_cons_succ] at M))
    refine bodyPost_ret (results_c rfl _ _ k0 _ rfl (load_row (M.get (.head _)) rt56 rfl)) rfl ⟨rfl, ?_⟩
    exact M.tail
end
end Go.Proofs.YtiigmohnmkgfoaaDoor
