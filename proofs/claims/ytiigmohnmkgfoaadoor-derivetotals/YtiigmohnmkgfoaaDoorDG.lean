/-
  Package derive: what an input is told as.
-/
import Derived.Test.YtiigmohnmkgfoaaDoorDF
namespace Go.Proofs.YtiigmohnmkgfoaaDoor
open Go.ChangeShapes Go.WideShapes Go.ChangeAt Go.RowKit
set_option linter.unusedVariables false
set_option linter.unusedSimpArgs false

theorem wpList_bin {P : Program} {ops : Array Oper} {rest : List Oper} {o : Oper} {A : Act} {W : World} {Q : Exit → Act → World → Prop} {b : BinOp} {t u : TypeId} {x y : Operand} (hgd : o.guard = none) (ho : o.op = .binOp b t x y u) (v : Value)
    (hg : (eqGuard b t x y (A.eval x) (A.eval y)).run P W = .ok () W) (hv : (binOp b t (A.eval x) (A.eval y)).run P W = .ok v W) (H : wpList P ops Q rest (A.put o.dst v) W) : wpList P ops Q (o :: rest) A W := by
  refine wpList_plain hgd fun K hK => ?_
  unfold Oper.wp execOp
  simp only [ho, Sem.run_bind, hg, hv, Result.andThen_ok, Sem.run_pure]
  exact hK _ _ H
theorem eqf30 (n : Nat) (W : World) : (binOp BinOp.eql 30 (fnv n) .nilFunc).run Tryd.prog W = .ok (.bool false) W := by kernel_rfl
theorem eqn30 (W : World) : (binOp BinOp.eql 30 .nilFunc .nilFunc).run Tryd.prog W = .ok (.bool true) W := by kernel_rfl
theorem eqf54 (n : Nat) (W : World) : (binOp BinOp.eql 54 (fnv n) .nilFunc).run Tryd.prog W = .ok (.bool false) W := by kernel_rfl
theorem eqc54 (k : Nat) (W : World) : (binOp BinOp.eql 54 (clo k) .nilFunc).run Tryd.prog W = .ok (.bool false) W := by kernel_rfl
theorem eqn54 (W : World) : (binOp BinOp.eql 54 .nilFunc .nilFunc).run Tryd.prog W = .ok (.bool true) W := by kernel_rfl

set_option maxRecDepth 100000 in
set_option maxHeartbeats 4000000 in
theorem input1_any (x s : Int) (w : World) : Calls Tryd.prog 12 #[.int .i64 1, .int .i64 x, .int .i64 s] w fun e w' => e = .returned (.tuple #[.int .i64 (if scB s 1048576 = true then mulV x s else 0), .int .i64 (if scB s 1048576 = true then mulE x s else 47)]) ∧ Below w.heap.size w w' := by
  have M := Mem.nil w
  have KS := fun W => scale_any s 1048576 W
  have KT := fun W => times_any x s W
  cases hs : scB s 1048576 with
  | false =>
    rw [hs] at KS
    rw [if_neg (by decide), if_neg (by decide)]
    clear hs KT
    go_enter Tryd.func12, Tryd.ntmps12
    go_wp2_with (first
      | (go_at_call 29; refine (telling1_any M).mono ?_; clear M; rintro e W1 ⟨k1, k2, rfl, M⟩)
      | ((with_reducible show wpList _ _ _ (Oper.mk (some 8) (Op.alloc 56) _ _ _ _ :: _) _ _); refine wpList_alloc M rfl rfl rt56 ?_; clear M; intro k8 W M)
      | ((with_reducible show wpList _ _ _ (Oper.mk _ (Op.store 56 _ _) _ _ _ _ :: _) _ _); (first | (refine wpList_put M rfl _ _ rfl rt56 0 #[.int .i64 1048576, fnv 50, clo k1] rfl rfl rfl rfl rfl (by simp [Value.oneCell']) ?_)); clear M; intro W M; simp only [List.set_cons_zero, List.set_cons_succ] at M; have c0 : W.cell? ⟨k8, 0, none⟩ = some (.int .i64 1048576) := row_cell (M.get (.head _)) 0 _ rfl; have c1 : W.cell? ⟨k8, 1, none⟩ = some (fnv 50) := row_cell (M.get (.head _)) 1 _ rfl; have c2 : W.cell? ⟨k8, 2, none⟩ = some (clo k1) := row_cell (M.get (.head _)) 2 _ rfl)
      | ((with_reducible show wpList _ _ _ (Oper.mk (some 21) (Op.binOp BinOp.eql 30 _ _ _) _ _ _ _ :: _) _ _); refine wpList_bin rfl rfl _ (by rfl) (eqf30 _ _) ?_)
      | (go_at_call 30; refine (KS _).mono ?_; rintro e wx ⟨rfl, hwx⟩; rw [hwx]; clear hwx wx))
    exact bodyPost_ret (results_tmp2 rfl _ _ _) rfl ⟨rfl, M.below⟩
  | true =>
    rw [hs] at KS
    rw [if_pos rfl, if_pos rfl]
    clear hs
    obtain ⟨p, hp⟩ : ∃ p, mulV x s = p := ⟨_, rfl⟩
    obtain ⟨q, hq⟩ : ∃ q, mulE x s = q := ⟨_, rfl⟩
    rw [hp, hq] at KT ⊢
    clear hp hq
    go_enter Tryd.func12, Tryd.ntmps12
    go_wp2_with (first
      | (go_at_call 29; refine (telling1_any M).mono ?_; clear M; rintro e W1 ⟨k1, k2, rfl, M⟩)
      | ((with_reducible show wpList _ _ _ (Oper.mk (some 8) (Op.alloc 56) _ _ _ _ :: _) _ _); refine wpList_alloc M rfl rfl rt56 ?_; clear M; intro k8 W M)
      | ((with_reducible show wpList _ _ _ (Oper.mk _ (Op.store 56 _ _) _ _ _ _ :: _) _ _); (first | (refine wpList_put M rfl _ _ rfl rt56 0 #[.int .i64 1048576, fnv 50, clo k1] rfl rfl rfl rfl rfl (by simp [Value.oneCell']) ?_)); clear M; intro W M; simp only [List.set_cons_zero, List.set_cons_succ] at M; have c0 : W.cell? ⟨k8, 0, none⟩ = some (.int .i64 1048576) := row_cell (M.get (.head _)) 0 _ rfl; have c1 : W.cell? ⟨k8, 1, none⟩ = some (fnv 50) := row_cell (M.get (.head _)) 1 _ rfl; have c2 : W.cell? ⟨k8, 2, none⟩ = some (clo k1) := row_cell (M.get (.head _)) 2 _ rfl)
      | ((with_reducible show wpList _ _ _ (Oper.mk (some 21) (Op.binOp BinOp.eql 30 _ _ _) _ _ _ _ :: _) _ _); refine wpList_bin rfl rfl _ (by rfl) (eqf30 _ _) ?_)
      | (go_at_call 30; refine (KS _).mono ?_; rintro e wx ⟨rfl, hwx⟩; rw [hwx]; clear hwx wx)
      | (go_at_call 50; refine (KT _).mono ?_; rintro e wx ⟨rfl, hwx⟩; rw [hwx]; clear hwx wx))
    exact bodyPost_ret (results_tmp2 rfl _ _ _) rfl ⟨rfl, M.below⟩

set_option maxRecDepth 100000 in
set_option maxHeartbeats 4000000 in
theorem input2_any (x s : Int) (w : World) : Calls Tryd.prog 12 #[.int .i64 2, .int .i64 x, .int .i64 s] w fun e w' => e = .returned (.tuple #[.int .i64 (if scB s 1048576 = true then uniV x s else 0), .int .i64 (if scB s 1048576 = true then uniE x s else 47)]) ∧ Below w.heap.size w w' := by
  have M := Mem.nil w
  have KS := fun W => scale_any s 1048576 W
  have KT := fun W => unit_any x s W
  cases hs : scB s 1048576 with
  | false =>
    rw [hs] at KS
    rw [if_neg (by decide), if_neg (by decide)]
    clear hs KT
    go_enter Tryd.func12, Tryd.ntmps12
    go_wp2_with (first
      | (go_at_call 29; refine (telling2_any M).mono ?_; clear M; rintro e W1 ⟨k1, k2, rfl, M⟩)
      | ((with_reducible show wpList _ _ _ (Oper.mk (some 8) (Op.alloc 56) _ _ _ _ :: _) _ _); refine wpList_alloc M rfl rfl rt56 ?_; clear M; intro k8 W M)
      | ((with_reducible show wpList _ _ _ (Oper.mk _ (Op.store 56 _ _) _ _ _ _ :: _) _ _); (first | (refine wpList_put M rfl _ _ rfl rt56 0 #[.int .i64 1048576, fnv 52, fnv 53] rfl rfl rfl rfl rfl (by simp [Value.oneCell']) ?_)); clear M; intro W M; simp only [List.set_cons_zero, List.set_cons_succ] at M; have c0 : W.cell? ⟨k8, 0, none⟩ = some (.int .i64 1048576) := row_cell (M.get (.head _)) 0 _ rfl; have c1 : W.cell? ⟨k8, 1, none⟩ = some (fnv 52) := row_cell (M.get (.head _)) 1 _ rfl; have c2 : W.cell? ⟨k8, 2, none⟩ = some (fnv 53) := row_cell (M.get (.head _)) 2 _ rfl)
      | ((with_reducible show wpList _ _ _ (Oper.mk (some 21) (Op.binOp BinOp.eql 30 _ _ _) _ _ _ _ :: _) _ _); refine wpList_bin rfl rfl _ (by rfl) (eqf30 _ _) ?_)
      | (go_at_call 30; refine (KS _).mono ?_; rintro e wx ⟨rfl, hwx⟩; rw [hwx]; clear hwx wx))
    exact bodyPost_ret (results_tmp2 rfl _ _ _) rfl ⟨rfl, M.below⟩
  | true =>
    rw [hs] at KS
    rw [if_pos rfl, if_pos rfl]
    clear hs
    obtain ⟨p, hp⟩ : ∃ p, uniV x s = p := ⟨_, rfl⟩
    obtain ⟨q, hq⟩ : ∃ q, uniE x s = q := ⟨_, rfl⟩
    rw [hp, hq] at KT ⊢
    clear hp hq
    go_enter Tryd.func12, Tryd.ntmps12
    go_wp2_with (first
      | (go_at_call 29; refine (telling2_any M).mono ?_; clear M; rintro e W1 ⟨k1, k2, rfl, M⟩)
      | ((with_reducible show wpList _ _ _ (Oper.mk (some 8) (Op.alloc 56) _ _ _ _ :: _) _ _); refine wpList_alloc M rfl rfl rt56 ?_; clear M; intro k8 W M)
      | ((with_reducible show wpList _ _ _ (Oper.mk _ (Op.store 56 _ _) _ _ _ _ :: _) _ _); (first | (refine wpList_put M rfl _ _ rfl rt56 0 #[.int .i64 1048576, fnv 52, fnv 53] rfl rfl rfl rfl rfl (by simp [Value.oneCell']) ?_)); clear M; intro W M; simp only [List.set_cons_zero, List.set_cons_succ] at M; have c0 : W.cell? ⟨k8, 0, none⟩ = some (.int .i64 1048576) := row_cell (M.get (.head _)) 0 _ rfl; have c1 : W.cell? ⟨k8, 1, none⟩ = some (fnv 52) := row_cell (M.get (.head _)) 1 _ rfl; have c2 : W.cell? ⟨k8, 2, none⟩ = some (fnv 53) := row_cell (M.get (.head _)) 2 _ rfl)
      | ((with_reducible show wpList _ _ _ (Oper.mk (some 21) (Op.binOp BinOp.eql 30 _ _ _) _ _ _ _ :: _) _ _); refine wpList_bin rfl rfl _ (by rfl) (eqf30 _ _) ?_)
      | (go_at_call 30; refine (KS _).mono ?_; rintro e wx ⟨rfl, hwx⟩; rw [hwx]; clear hwx wx)
      | (go_at_call 52; refine (KT _).mono ?_; rintro e wx ⟨rfl, hwx⟩; rw [hwx]; clear hwx wx))
    exact bodyPost_ret (results_tmp2 rfl _ _ _) rfl ⟨rfl, M.below⟩

set_option maxRecDepth 100000 in
set_option maxHeartbeats 4000000 in
theorem input3_any (x s : Int) (w : World) : Calls Tryd.prog 12 #[.int .i64 3, .int .i64 x, .int .i64 s] w fun e w' => e = .returned (.tuple #[.int .i64 (if scB s 1048576 = true then sqrV x s else 0), .int .i64 (if scB s 1048576 = true then sqrE x s else 47)]) ∧ Below w.heap.size w w' := by
  have M := Mem.nil w
  have KS := fun W => scale_any s 1048576 W
  have KT := fun W => square_any x s W
  cases hs : scB s 1048576 with
  | false =>
    rw [hs] at KS
    rw [if_neg (by decide), if_neg (by decide)]
    clear hs KT
    go_enter Tryd.func12, Tryd.ntmps12
    go_wp2_with (first
      | (go_at_call 29; refine (telling3_any M).mono ?_; clear M; rintro e W1 ⟨k1, k2, rfl, M⟩)
      | ((with_reducible show wpList _ _ _ (Oper.mk (some 8) (Op.alloc 56) _ _ _ _ :: _) _ _); refine wpList_alloc M rfl rfl rt56 ?_; clear M; intro k8 W M)
      | ((with_reducible show wpList _ _ _ (Oper.mk _ (Op.store 56 _ _) _ _ _ _ :: _) _ _); (first | (refine wpList_put M rfl _ _ rfl rt56 0 #[.int .i64 1048576, fnv 54, clo k2] rfl rfl rfl rfl rfl (by simp [Value.oneCell']) ?_)); clear M; intro W M; simp only [List.set_cons_zero, List.set_cons_succ] at M; have c0 : W.cell? ⟨k8, 0, none⟩ = some (.int .i64 1048576) := row_cell (M.get (.head _)) 0 _ rfl; have c1 : W.cell? ⟨k8, 1, none⟩ = some (fnv 54) := row_cell (M.get (.head _)) 1 _ rfl; have c2 : W.cell? ⟨k8, 2, none⟩ = some (clo k2) := row_cell (M.get (.head _)) 2 _ rfl)
      | ((with_reducible show wpList _ _ _ (Oper.mk (some 21) (Op.binOp BinOp.eql 30 _ _ _) _ _ _ _ :: _) _ _); refine wpList_bin rfl rfl _ (by rfl) (eqf30 _ _) ?_)
      | (go_at_call 30; refine (KS _).mono ?_; rintro e wx ⟨rfl, hwx⟩; rw [hwx]; clear hwx wx))
    exact bodyPost_ret (results_tmp2 rfl _ _ _) rfl ⟨rfl, M.below⟩
  | true =>
    rw [hs] at KS
    rw [if_pos rfl, if_pos rfl]
    clear hs
    obtain ⟨p, hp⟩ : ∃ p, sqrV x s = p := ⟨_, rfl⟩
    obtain ⟨q, hq⟩ : ∃ q, sqrE x s = q := ⟨_, rfl⟩
    rw [hp, hq] at KT ⊢
    clear hp hq
    go_enter Tryd.func12, Tryd.ntmps12
    go_wp2_with (first
      | (go_at_call 29; refine (telling3_any M).mono ?_; clear M; rintro e W1 ⟨k1, k2, rfl, M⟩)
      | ((with_reducible show wpList _ _ _ (Oper.mk (some 8) (Op.alloc 56) _ _ _ _ :: _) _ _); refine wpList_alloc M rfl rfl rt56 ?_; clear M; intro k8 W M)
      | ((with_reducible show wpList _ _ _ (Oper.mk _ (Op.store 56 _ _) _ _ _ _ :: _) _ _); (first | (refine wpList_put M rfl _ _ rfl rt56 0 #[.int .i64 1048576, fnv 54, clo k2] rfl rfl rfl rfl rfl (by simp [Value.oneCell']) ?_)); clear M; intro W M; simp only [List.set_cons_zero, List.set_cons_succ] at M; have c0 : W.cell? ⟨k8, 0, none⟩ = some (.int .i64 1048576) := row_cell (M.get (.head _)) 0 _ rfl; have c1 : W.cell? ⟨k8, 1, none⟩ = some (fnv 54) := row_cell (M.get (.head _)) 1 _ rfl; have c2 : W.cell? ⟨k8, 2, none⟩ = some (clo k2) := row_cell (M.get (.head _)) 2 _ rfl)
      | ((with_reducible show wpList _ _ _ (Oper.mk (some 21) (Op.binOp BinOp.eql 30 _ _ _) _ _ _ _ :: _) _ _); refine wpList_bin rfl rfl _ (by rfl) (eqf30 _ _) ?_)
      | (go_at_call 30; refine (KS _).mono ?_; rintro e wx ⟨rfl, hwx⟩; rw [hwx]; clear hwx wx)
      | (go_at_call 54; refine (KT _).mono ?_; rintro e wx ⟨rfl, hwx⟩; rw [hwx]; clear hwx wx))
    exact bodyPost_ret (results_tmp2 rfl _ _ _) rfl ⟨rfl, M.below⟩

set_option maxRecDepth 100000 in
set_option maxHeartbeats 4000000 in
theorem input4_any (x s : Int) (w : World) : Calls Tryd.prog 12 #[.int .i64 4, .int .i64 x, .int .i64 s] w fun e w' => e = .returned (.tuple #[.int .i64 (if scB s 1 = true then mulV x s else 0), .int .i64 (if scB s 1 = true then mulE x s else 47)]) ∧ Below w.heap.size w w' := by
  have M := Mem.nil w
  have KS := fun W => scale_any s 1 W
  have KT := fun W => times_any x s W
  cases hs : scB s 1 with
  | false =>
    rw [hs] at KS
    rw [if_neg (by decide), if_neg (by decide)]
    clear hs KT
    go_enter Tryd.func12, Tryd.ntmps12
    go_wp2_with (first
      | (go_at_call 29; refine (telling4_any M).mono ?_; clear M; rintro e W1 ⟨k1, k2, rfl, M⟩)
      | ((with_reducible show wpList _ _ _ (Oper.mk (some 8) (Op.alloc 56) _ _ _ _ :: _) _ _); refine wpList_alloc M rfl rfl rt56 ?_; clear M; intro k8 W M)
      | ((with_reducible show wpList _ _ _ (Oper.mk _ (Op.store 56 _ _) _ _ _ _ :: _) _ _); (first | (refine wpList_put M rfl _ _ rfl rt56 0 #[.int .i64 1, fnv 50, .nilFunc] rfl rfl rfl rfl rfl (by simp [Value.oneCell']) ?_)); clear M; intro W M; simp only [List.set_cons_zero, List.set_cons_succ] at M; have c0 : W.cell? ⟨k8, 0, none⟩ = some (.int .i64 1) := row_cell (M.get (.head _)) 0 _ rfl; have c1 : W.cell? ⟨k8, 1, none⟩ = some (fnv 50) := row_cell (M.get (.head _)) 1 _ rfl; have c2 : W.cell? ⟨k8, 2, none⟩ = some (.nilFunc) := row_cell (M.get (.head _)) 2 _ rfl)
      | ((with_reducible show wpList _ _ _ (Oper.mk (some 21) (Op.binOp BinOp.eql 30 _ _ _) _ _ _ _ :: _) _ _); refine wpList_bin rfl rfl _ (by rfl) (eqf30 _ _) ?_)
      | (go_at_call 30; refine (KS _).mono ?_; rintro e wx ⟨rfl, hwx⟩; rw [hwx]; clear hwx wx))
    exact bodyPost_ret (results_tmp2 rfl _ _ _) rfl ⟨rfl, M.below⟩
  | true =>
    rw [hs] at KS
    rw [if_pos rfl, if_pos rfl]
    clear hs
    obtain ⟨p, hp⟩ : ∃ p, mulV x s = p := ⟨_, rfl⟩
    obtain ⟨q, hq⟩ : ∃ q, mulE x s = q := ⟨_, rfl⟩
    rw [hp, hq] at KT ⊢
    clear hp hq
    go_enter Tryd.func12, Tryd.ntmps12
    go_wp2_with (first
      | (go_at_call 29; refine (telling4_any M).mono ?_; clear M; rintro e W1 ⟨k1, k2, rfl, M⟩)
      | ((with_reducible show wpList _ _ _ (Oper.mk (some 8) (Op.alloc 56) _ _ _ _ :: _) _ _); refine wpList_alloc M rfl rfl rt56 ?_; clear M; intro k8 W M)
      | ((with_reducible show wpList _ _ _ (Oper.mk _ (Op.store 56 _ _) _ _ _ _ :: _) _ _); (first | (refine wpList_put M rfl _ _ rfl rt56 0 #[.int .i64 1, fnv 50, .nilFunc] rfl rfl rfl rfl rfl (by simp [Value.oneCell']) ?_)); clear M; intro W M; simp only [List.set_cons_zero, List.set_cons_succ] at M; have c0 : W.cell? ⟨k8, 0, none⟩ = some (.int .i64 1) := row_cell (M.get (.head _)) 0 _ rfl; have c1 : W.cell? ⟨k8, 1, none⟩ = some (fnv 50) := row_cell (M.get (.head _)) 1 _ rfl; have c2 : W.cell? ⟨k8, 2, none⟩ = some (.nilFunc) := row_cell (M.get (.head _)) 2 _ rfl)
      | ((with_reducible show wpList _ _ _ (Oper.mk (some 21) (Op.binOp BinOp.eql 30 _ _ _) _ _ _ _ :: _) _ _); refine wpList_bin rfl rfl _ (by rfl) (eqf30 _ _) ?_)
      | (go_at_call 30; refine (KS _).mono ?_; rintro e wx ⟨rfl, hwx⟩; rw [hwx]; clear hwx wx)
      | (go_at_call 50; refine (KT _).mono ?_; rintro e wx ⟨rfl, hwx⟩; rw [hwx]; clear hwx wx))
    exact bodyPost_ret (results_tmp2 rfl _ _ _) rfl ⟨rfl, M.below⟩

set_option maxRecDepth 100000 in
set_option maxHeartbeats 4000000 in
theorem inputN_any (k x s : Int) (w : World) (hk : k < 1 ∨ 4 < k) : Calls Tryd.prog 12 #[.int .i64 k, .int .i64 x, .int .i64 s] w fun e w' => e = .returned (.tuple #[.int .i64 0, .int .i64 46]) ∧ Below w.heap.size w w' := by
  have M := Mem.nil w
  have HK : Hid (k < 1 ∨ 4 < k) := hk
  clear hk
  go_enter Tryd.func12, Tryd.ntmps12
  go_wp2_with (first
      | (go_at_call 29; refine (tellingN_any M _ HK.out).mono ?_; clear M; rintro e W1 ⟨rfl, M⟩)
      | ((with_reducible show wpList _ _ _ (Oper.mk (some 8) (Op.alloc 56) _ _ _ _ :: _) _ _); refine wpList_alloc M rfl rfl rt56 ?_; clear M; intro k8 W M)
      | ((with_reducible show wpList _ _ _ (Oper.mk _ (Op.store 56 _ _) _ _ _ _ :: _) _ _); (first | (refine wpList_put M rfl _ _ rfl rt56 0 zK rfl rfl rfl rfl rfl (by simp [Value.oneCell']) ?_)); clear M; intro W M; simp only [List.set_cons_zero, List.set_cons_succ] at M; have c0 : W.cell? ⟨k8, 0, none⟩ = some (.int .i64 0) := row_cell (M.get (.head _)) 0 _ rfl; have c1 : W.cell? ⟨k8, 1, none⟩ = some (.nilFunc) := row_cell (M.get (.head _)) 1 _ rfl; have c2 : W.cell? ⟨k8, 2, none⟩ = some (.nilFunc) := row_cell (M.get (.head _)) 2 _ rfl)
      | ((with_reducible show wpList _ _ _ (Oper.mk (some 21) (Op.binOp BinOp.eql 30 _ _ _) _ _ _ _ :: _) _ _); refine wpList_bin rfl rfl _ (by rfl) (eqn30 _) ?_))
  exact bodyPost_ret (results_tmp2 rfl _ _ _) rfl ⟨rfl, M.below⟩
end Go.Proofs.YtiigmohnmkgfoaaDoor
