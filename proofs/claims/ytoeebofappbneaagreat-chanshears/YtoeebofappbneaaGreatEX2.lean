/-
  Package ext: what Fit, Older and foreign return, and the document's own; which of two holds, by the document.
-/
import Derived.Test.YtoeebofappbneaaGreatEX1
namespace Go.Proofs.YtoeebofappbneaaGreat.E
open Go.ChangeShapes Go.WideShapes Go.ChangeAt Go.RowKit
set_option linter.unusedVariables false
set_option linter.unusedSimpArgs false

set_option maxRecDepth 100000 in
set_option maxHeartbeats 2000000 in
theorem fit_any (h : Bool) (v o g : Int) (w : World) : Calls Tryz.prog 83 #[ex h v o g] w fun e w' => e = .returned (.bool (fitB ⟨h, v, o, g⟩)) ∧ Below w.heap.size w w' := by
  have M := Mem.nil w
  cases h with
  | false =>
    go_enter Tryz.func83, Tryz.ntmps83
    go_wp2_with (first
      | ((with_reducible show wpList _ _ _ (Oper.mk (some 1) (Op.box 38 _) _ _ _ _ :: _) _ _); refine wpList_box M rfl _ rfl _ _ _ _ rfl ?_; clear M; intro k1 W M; obtain ⟨c0, c1, c2, c3⟩ := (M.get (.head _)).cells; dsimp only at c0 c1 c2 c3)
      | ((with_reducible show wpList _ _ _ (Oper.mk _ (Op.load 38 _) _ _ _ _ :: _) _ _); refine wpList_load M rfl _ rfl rfl (by first | exact .head _) ?_)
      | ((with_reducible show wpList _ _ _ (Oper.mk _ (Op.binOp BinOp.eql 38 _ _ 38) _ _ _ _ :: _) _ _); refine wpList_eql (by first | rfl | go_simp) _ _ rfl rfl rfl ?_))
    go_ret
    exact ⟨ret_bool (by simp [fitB]), M.below⟩
  | true =>
    have K1 := fun w => in26_any v (-2147483647) 2147483647 w
    have K2 := fun w => in27_any o 0 15 w
    have K3 := fun w => in26_any g 0 63 w
    have e2 : inB o 0 15 = nodeB o := by simp only [inB, nodeB]; congr 1; simp; omega
    have e0 : fitB ⟨true, v, o, g⟩ = (inB v (-2147483647) 2147483647 && (inB o 0 15 && inB g 0 63)) := by rw [e2]; rfl
    rw [e0]
    clear e0 e2
    generalize inB v (-2147483647) 2147483647 = b1 at *
    generalize inB o 0 15 = b2 at *
    generalize inB g 0 63 = b3 at *
    cases b1 <;> cases b2
    all_goals
      go_enter Tryz.func83, Tryz.ntmps83
      go_wp2_with (first
      | ((with_reducible show wpList _ _ _ (Oper.mk (some 1) (Op.box 38 _) _ _ _ _ :: _) _ _); refine wpList_box M rfl _ rfl _ _ _ _ rfl ?_; clear M; intro k1 W M; obtain ⟨c0, c1, c2, c3⟩ := (M.get (.head _)).cells; dsimp only at c0 c1 c2 c3)
      | (go_at_call 103; refine (K1 _).mono ?_; clear K1; rintro e wx ⟨rfl, hw⟩; rw [hw]; clear hw wx)
      | (go_at_call 104; refine (K2 _).mono ?_; clear K2; rintro e wx ⟨rfl, hw⟩; rw [hw]; clear hw wx)
      | (go_at_call 103; refine (K3 _).mono ?_; clear K3; rintro e wx ⟨rfl, hw⟩; rw [hw]; clear hw wx))
      go_ret
      exact ⟨ret_bool (by simp), M.below⟩
set_option maxRecDepth 100000 in
set_option maxHeartbeats 2000000 in
theorem rfit_any (h : Bool) (v o g : Int) (w : World) : Calls Tryz.prog 15 #[ex h v o g] w fun e w' => e = .returned (.bool (fitB ⟨h, v, o, g⟩)) ∧ Below w.heap.size w w' := by
  have M := Mem.nil w
  cases h with
  | false =>
    go_enter Tryz.func15, Tryz.ntmps15
    go_wp2_with (first
      | ((with_reducible show wpList _ _ _ (Oper.mk (some 1) (Op.box 38 _) _ _ _ _ :: _) _ _); refine wpList_box M rfl _ rfl _ _ _ _ rfl ?_; clear M; intro k1 W M; obtain ⟨c0, c1, c2, c3⟩ := (M.get (.head _)).cells; dsimp only at c0 c1 c2 c3)
      | ((with_reducible show wpList _ _ _ (Oper.mk _ (Op.load 38 _) _ _ _ _ :: _) _ _); refine wpList_load M rfl _ rfl rfl (by first | exact .head _) ?_)
      | ((with_reducible show wpList _ _ _ (Oper.mk _ (Op.binOp BinOp.eql 38 _ _ 38) _ _ _ _ :: _) _ _); refine wpList_eql (by first | rfl | go_simp) _ _ rfl rfl rfl ?_))
    go_ret
    exact ⟨ret_bool (by simp [fitB]), M.below⟩
  | true =>
    by_cases h1 : -2147483647 ≤ v
    · by_cases h2 : v ≤ 2147483647
      · by_cases h3 : 0 ≤ o
        · by_cases h4 : o < 16
          · by_cases h5 : 0 ≤ g
            · by_cases h6 : g < 64
              all_goals
                go_enter Tryz.func15, Tryz.ntmps15
                go_wp2_with (first
      | ((with_reducible show wpList _ _ _ (Oper.mk (some 1) (Op.box 38 _) _ _ _ _ :: _) _ _); refine wpList_box M rfl _ rfl _ _ _ _ rfl ?_; clear M; intro k1 W M; obtain ⟨c0, c1, c2, c3⟩ := (M.get (.head _)).cells; dsimp only at c0 c1 c2 c3))
                go_ret
                exact ⟨ret_bool (by simp [fitB, flowB, nodeB, inB]; omega), M.below⟩
            · go_enter Tryz.func15, Tryz.ntmps15
              go_wp2_with (first
      | ((with_reducible show wpList _ _ _ (Oper.mk (some 1) (Op.box 38 _) _ _ _ _ :: _) _ _); refine wpList_box M rfl _ rfl _ _ _ _ rfl ?_; clear M; intro k1 W M; obtain ⟨c0, c1, c2, c3⟩ := (M.get (.head _)).cells; dsimp only at c0 c1 c2 c3))
              go_ret
              exact ⟨ret_bool (by simp [fitB, flowB, nodeB, inB]; omega), M.below⟩
          · go_enter Tryz.func15, Tryz.ntmps15
            go_wp2_with (first
      | ((with_reducible show wpList _ _ _ (Oper.mk (some 1) (Op.box 38 _) _ _ _ _ :: _) _ _); refine wpList_box M rfl _ rfl _ _ _ _ rfl ?_; clear M; intro k1 W M; obtain ⟨c0, c1, c2, c3⟩ := (M.get (.head _)).cells; dsimp only at c0 c1 c2 c3))
            go_ret
            exact ⟨ret_bool (by simp [fitB, flowB, nodeB, inB]; omega), M.below⟩
        · go_enter Tryz.func15, Tryz.ntmps15
          go_wp2_with (first
      | ((with_reducible show wpList _ _ _ (Oper.mk (some 1) (Op.box 38 _) _ _ _ _ :: _) _ _); refine wpList_box M rfl _ rfl _ _ _ _ rfl ?_; clear M; intro k1 W M; obtain ⟨c0, c1, c2, c3⟩ := (M.get (.head _)).cells; dsimp only at c0 c1 c2 c3))
          go_ret
          exact ⟨ret_bool (by simp [fitB, flowB, nodeB, inB]; omega), M.below⟩
      · go_enter Tryz.func15, Tryz.ntmps15
        go_wp2_with (first
      | ((with_reducible show wpList _ _ _ (Oper.mk (some 1) (Op.box 38 _) _ _ _ _ :: _) _ _); refine wpList_box M rfl _ rfl _ _ _ _ rfl ?_; clear M; intro k1 W M; obtain ⟨c0, c1, c2, c3⟩ := (M.get (.head _)).cells; dsimp only at c0 c1 c2 c3))
        go_ret
        exact ⟨ret_bool (by simp [fitB, flowB, nodeB, inB]; omega), M.below⟩
    · go_enter Tryz.func15, Tryz.ntmps15
      go_wp2_with (first
      | ((with_reducible show wpList _ _ _ (Oper.mk (some 1) (Op.box 38 _) _ _ _ _ :: _) _ _); refine wpList_box M rfl _ rfl _ _ _ _ rfl ?_; clear M; intro k1 W M; obtain ⟨c0, c1, c2, c3⟩ := (M.get (.head _)).cells; dsimp only at c0 c1 c2 c3))
      go_ret
      exact ⟨ret_bool (by simp [fitB, flowB, nodeB, inB]; omega), M.below⟩
set_option maxRecDepth 100000 in
set_option maxHeartbeats 2000000 in
theorem for_any (id : Int) (h : Bool) (v o g : Int) (w : World) : Calls Tryz.prog 72 #[.int .i64 id, ex h v o g] w fun e w' => e = .returned (forX id ⟨h, v, o, g⟩).val ∧ Below w.heap.size w w' := by
  have M := Mem.nil w
  by_cases c : o = id
  · subst c
    go_enter Tryz.func72, Tryz.ntmps72
    go_wp2_with (first
      | ((with_reducible show wpList _ _ _ (Oper.mk _ (Op.box 38 _) _ _ _ _ :: _) _ _); refine wpList_box M rfl _ rfl _ _ _ _ rfl ?_; clear M; intro k W M)
      | ((with_reducible show wpList _ _ _ (Oper.mk (some 4) (Op.alloc 38) _ _ _ _ :: _) _ _); refine wpList_alloc M rfl rfl ?_; clear M; intro k4 W M; obtain ⟨c0, c1, c2, c3⟩ := (M.get (.tail _ (.head _))).cells; dsimp only at c0 c1 c2 c3)
      | ((with_reducible show wpList _ _ _ (Oper.mk _ (Op.load 38 _) _ _ _ _ :: _) _ _); refine wpList_load M rfl _ rfl rfl (by first | exact .head _ | exact .tail _ (.head _)) ?_)
      | ((with_reducible show wpList _ _ _ (Oper.mk _ (Op.store 38 _ _) _ _ _ _ :: _) _ _); (first | (refine wpList_put M rfl _ _ rfl 0 _ _ _ _ rfl rfl rfl ?_) | (refine wpList_put M rfl _ _ rfl 1 _ _ _ _ rfl rfl rfl ?_)); clear M; intro W M; simp only [List.set_cons_zero, List.set_cons_succ] at M))
    exact bodyPost_ret (results_c rfl _ _ _ EX.z rfl (M.get (.head _))) rfl ⟨by rw [show forX o ⟨h, v, o, g⟩ = EX.z from if_pos rfl], M.below⟩
  · go_enter Tryz.func72, Tryz.ntmps72
    go_wp2_with (first
      | ((with_reducible show wpList _ _ _ (Oper.mk _ (Op.box 38 _) _ _ _ _ :: _) _ _); refine wpList_box M rfl _ rfl _ _ _ _ rfl ?_; clear M; intro k W M)
      | ((with_reducible show wpList _ _ _ (Oper.mk (some 4) (Op.alloc 38) _ _ _ _ :: _) _ _); refine wpList_alloc M rfl rfl ?_; clear M; intro k4 W M; obtain ⟨c0, c1, c2, c3⟩ := (M.get (.tail _ (.head _))).cells; dsimp only at c0 c1 c2 c3)
      | ((with_reducible show wpList _ _ _ (Oper.mk _ (Op.load 38 _) _ _ _ _ :: _) _ _); refine wpList_load M rfl _ rfl rfl (by first | exact .head _ | exact .tail _ (.head _)) ?_)
      | ((with_reducible show wpList _ _ _ (Oper.mk _ (Op.store 38 _ _) _ _ _ _ :: _) _ _); (first | (refine wpList_put M rfl _ _ rfl 0 _ _ _ _ rfl rfl rfl ?_) | (refine wpList_put M rfl _ _ rfl 1 _ _ _ _ rfl rfl rfl ?_)); clear M; intro W M; simp only [List.set_cons_zero, List.set_cons_succ] at M))
    exact bodyPost_ret (results_c rfl _ _ _ ⟨h, v, o, g⟩ rfl (M.get (.head _))) rfl ⟨by rw [show forX id ⟨h, v, o, g⟩ = ⟨h, v, o, g⟩ from if_neg c], M.below⟩
theorem for_z (id : Int) : forX id EX.z = EX.z := by unfold forX; split <;> rfl
set_option maxRecDepth 100000 in
set_option maxHeartbeats 2000000 in
theorem rfor_any (id : Int) (h : Bool) (v o g : Int) (w : World) (hf : fitB ⟨h, v, o, g⟩ = true) : Calls Tryz.prog 76 #[.int .i64 id, ex h v o g] w fun e w' => e = .returned (forX id ⟨h, v, o, g⟩).val ∧ Below w.heap.size w w' := by
  have M := Mem.nil w
  cases h with
  | false =>
    have e := fit_none hf rfl
    cases e
    rw [for_z]
    clear hf
    go_enter Tryz.func76, Tryz.ntmps76
    go_wp2_with (first
      | ((with_reducible show wpList _ _ _ (Oper.mk _ (Op.box 38 _) _ _ _ _ :: _) _ _); refine wpList_box M rfl _ rfl _ _ _ _ rfl ?_; clear M; intro k W M)
      | ((with_reducible show wpList _ _ _ (Oper.mk (some 4) (Op.alloc 38) _ _ _ _ :: _) _ _); refine wpList_alloc M rfl rfl ?_; clear M; intro k4 W M; obtain ⟨c0, c1, c2, c3⟩ := (M.get (.tail _ (.head _))).cells; dsimp only at c0 c1 c2 c3)
      | ((with_reducible show wpList _ _ _ (Oper.mk _ (Op.load 38 _) _ _ _ _ :: _) _ _); refine wpList_load M rfl _ rfl rfl (by first | exact .head _ | exact .tail _ (.head _)) ?_)
      | ((with_reducible show wpList _ _ _ (Oper.mk _ (Op.store 38 _ _) _ _ _ _ :: _) _ _); (first | (refine wpList_put M rfl _ _ rfl 0 _ _ _ _ rfl rfl rfl ?_) | (refine wpList_put M rfl _ _ rfl 1 _ _ _ _ rfl rfl rfl ?_)); clear M; intro W M; simp only [List.set_cons_zero, List.set_cons_succ] at M))
    exact bodyPost_ret (results_c rfl _ _ _ EX.z rfl (M.get (.head _))) rfl ⟨rfl, M.below⟩
  | true =>
    clear hf
    by_cases c : o = id
    · subst c
      go_enter Tryz.func76, Tryz.ntmps76
      go_wp2_with (first
      | ((with_reducible show wpList _ _ _ (Oper.mk _ (Op.box 38 _) _ _ _ _ :: _) _ _); refine wpList_box M rfl _ rfl _ _ _ _ rfl ?_; clear M; intro k W M)
      | ((with_reducible show wpList _ _ _ (Oper.mk (some 4) (Op.alloc 38) _ _ _ _ :: _) _ _); refine wpList_alloc M rfl rfl ?_; clear M; intro k4 W M; obtain ⟨c0, c1, c2, c3⟩ := (M.get (.tail _ (.head _))).cells; dsimp only at c0 c1 c2 c3)
      | ((with_reducible show wpList _ _ _ (Oper.mk _ (Op.load 38 _) _ _ _ _ :: _) _ _); refine wpList_load M rfl _ rfl rfl (by first | exact .head _ | exact .tail _ (.head _)) ?_)
      | ((with_reducible show wpList _ _ _ (Oper.mk _ (Op.store 38 _ _) _ _ _ _ :: _) _ _); (first | (refine wpList_put M rfl _ _ rfl 0 _ _ _ _ rfl rfl rfl ?_) | (refine wpList_put M rfl _ _ rfl 1 _ _ _ _ rfl rfl rfl ?_)); clear M; intro W M; simp only [List.set_cons_zero, List.set_cons_succ] at M))
      exact bodyPost_ret (results_c rfl _ _ _ EX.z rfl (M.get (.head _))) rfl ⟨by rw [show forX o ⟨true, v, o, g⟩ = EX.z from if_pos rfl], M.below⟩
    · go_enter Tryz.func76, Tryz.ntmps76
      go_wp2_with (first
      | ((with_reducible show wpList _ _ _ (Oper.mk _ (Op.box 38 _) _ _ _ _ :: _) _ _); refine wpList_box M rfl _ rfl _ _ _ _ rfl ?_; clear M; intro k W M)
      | ((with_reducible show wpList _ _ _ (Oper.mk (some 4) (Op.alloc 38) _ _ _ _ :: _) _ _); refine wpList_alloc M rfl rfl ?_; clear M; intro k4 W M; obtain ⟨c0, c1, c2, c3⟩ := (M.get (.tail _ (.head _))).cells; dsimp only at c0 c1 c2 c3)
      | ((with_reducible show wpList _ _ _ (Oper.mk _ (Op.load 38 _) _ _ _ _ :: _) _ _); refine wpList_load M rfl _ rfl rfl (by first | exact .head _ | exact .tail _ (.head _)) ?_)
      | ((with_reducible show wpList _ _ _ (Oper.mk _ (Op.store 38 _ _) _ _ _ _ :: _) _ _); (first | (refine wpList_put M rfl _ _ rfl 0 _ _ _ _ rfl rfl rfl ?_) | (refine wpList_put M rfl _ _ rfl 1 _ _ _ _ rfl rfl rfl ?_)); clear M; intro W M; simp only [List.set_cons_zero, List.set_cons_succ] at M))
      exact bodyPost_ret (results_c rfl _ _ _ ⟨true, v, o, g⟩ rfl (M.get (.head _))) rfl ⟨by rw [show forX id ⟨true, v, o, g⟩ = ⟨true, v, o, g⟩ from if_neg c], M.below⟩
set_option maxRecDepth 100000 in
set_option maxHeartbeats 2000000 in
theorem old_any (h : Bool) (v o g : Int) (w : World) (hf : fitB ⟨h, v, o, g⟩ = true) : Calls Tryz.prog 79 #[ex h v o g] w fun e w' => e = .returned (oldX ⟨h, v, o, g⟩).val ∧ Below w.heap.size w w' := by
  have M := Mem.nil w
  cases h with
  | false =>
    rw [show oldX ⟨false, v, o, g⟩ = EX.z from if_pos (.inl rfl)]
    clear hf
    go_enter Tryz.func79, Tryz.ntmps79
    go_wp2_with (first
      | ((with_reducible show wpList _ _ _ (Oper.mk _ (Op.box 38 _) _ _ _ _ :: _) _ _); refine wpList_box M rfl _ rfl _ _ _ _ rfl ?_; clear M; intro k W M)
      | ((with_reducible show wpList _ _ _ (Oper.mk (some 2) (Op.alloc 38) _ _ _ _ :: _) _ _); refine wpList_alloc M rfl rfl ?_; clear M; intro k2 W M; obtain ⟨c0, c1, c2, c3⟩ := (M.get (.tail _ (.head _))).cells; dsimp only at c0 c1 c2 c3)
      | ((with_reducible show wpList _ _ _ (Oper.mk _ (Op.load 38 _) _ _ _ _ :: _) _ _); refine wpList_load M rfl _ rfl rfl (by first | exact .head _ | exact .tail _ (.head _)) ?_)
      | ((with_reducible show wpList _ _ _ (Oper.mk _ (Op.store 38 _ _) _ _ _ _ :: _) _ _); (first | (refine wpList_put M rfl _ _ rfl 0 _ _ _ _ rfl rfl rfl ?_) | (refine wpList_put M rfl _ _ rfl 1 _ _ _ _ rfl rfl rfl ?_)); clear M; intro W M; simp only [List.set_cons_zero, List.set_cons_succ] at M))
    exact bodyPost_ret (results_c rfl _ _ _ EX.z rfl (M.get (.head _))) rfl ⟨rfl, M.below⟩
  | true =>
    have hb := fit_some hf rfl
    dsimp only at hb
    have hg0 : 0 ≤ g := hb.2.2.2.2.1
    have hg1 : g ≤ 63 := hb.2.2.2.2.2
    clear hf hb
    have hw : IntKind.i64.wrap (g + 1) = g + 1 := by rw [IntKind.wrap_i64]; omega
    by_cases c : 63 ≤ g
    · rw [show oldX ⟨true, v, o, g⟩ = EX.z from if_pos (.inr c)]
      go_enter Tryz.func79, Tryz.ntmps79
      go_wp2_with (first
      | ((with_reducible show wpList _ _ _ (Oper.mk _ (Op.box 38 _) _ _ _ _ :: _) _ _); refine wpList_box M rfl _ rfl _ _ _ _ rfl ?_; clear M; intro k W M)
      | ((with_reducible show wpList _ _ _ (Oper.mk (some 2) (Op.alloc 38) _ _ _ _ :: _) _ _); refine wpList_alloc M rfl rfl ?_; clear M; intro k2 W M; obtain ⟨c0, c1, c2, c3⟩ := (M.get (.tail _ (.head _))).cells; dsimp only at c0 c1 c2 c3)
      | ((with_reducible show wpList _ _ _ (Oper.mk _ (Op.load 38 _) _ _ _ _ :: _) _ _); refine wpList_load M rfl _ rfl rfl (by first | exact .head _ | exact .tail _ (.head _)) ?_)
      | ((with_reducible show wpList _ _ _ (Oper.mk _ (Op.store 38 _ _) _ _ _ _ :: _) _ _); (first | (refine wpList_put M rfl _ _ rfl 0 _ _ _ _ rfl rfl rfl ?_) | (refine wpList_put M rfl _ _ rfl 1 _ _ _ _ rfl rfl rfl ?_)); clear M; intro W M; simp only [List.set_cons_zero, List.set_cons_succ] at M))
      exact bodyPost_ret (results_c rfl _ _ _ EX.z rfl (M.get (.head _))) rfl ⟨rfl, M.below⟩
    · rw [show oldX ⟨true, v, o, g⟩ = ⟨true, v, o, g + 1⟩ from if_neg (by simp; omega)]
      have c' : ¬ 64 ≤ g + 1 := by omega
      go_enter Tryz.func79, Tryz.ntmps79
      go_wp2_with (first
      | ((with_reducible show wpList _ _ _ (Oper.mk _ (Op.box 38 _) _ _ _ _ :: _) _ _); refine wpList_box M rfl _ rfl _ _ _ _ rfl ?_; clear M; intro k W M)
      | ((with_reducible show wpList _ _ _ (Oper.mk (some 2) (Op.alloc 38) _ _ _ _ :: _) _ _); refine wpList_alloc M rfl rfl ?_; clear M; intro k2 W M; obtain ⟨c0, c1, c2, c3⟩ := (M.get (.tail _ (.head _))).cells; dsimp only at c0 c1 c2 c3)
      | ((with_reducible show wpList _ _ _ (Oper.mk _ (Op.load 38 _) _ _ _ _ :: _) _ _); refine wpList_load M rfl _ rfl rfl (by first | exact .head _ | exact .tail _ (.head _)) ?_)
      | ((with_reducible show wpList _ _ _ (Oper.mk _ (Op.store 38 _ _) _ _ _ _ :: _) _ _); (first | (refine wpList_put M rfl _ _ rfl 0 _ _ _ _ rfl rfl rfl ?_) | (refine wpList_put M rfl _ _ rfl 1 _ _ _ _ rfl rfl rfl ?_)); clear M; intro W M; simp only [List.set_cons_zero, List.set_cons_succ] at M)
      | ((with_reducible show wpList _ _ _ (Oper.mk _ (Op.store 2 _ _) _ _ _ _ :: _) _ _); refine wpList_age M rfl _ _ rfl 1 (g + 1) rfl rfl rfl ?_; clear M; intro W M; simp only [List.set_cons_zero, List.set_cons_succ] at M; clear c0 c1 c2 c3))
      exact bodyPost_ret (results_c rfl _ _ _ ⟨true, v, o, g + 1⟩ rfl (M.get (.head _))) rfl ⟨rfl, M.below⟩
set_option maxRecDepth 100000 in
set_option maxHeartbeats 2000000 in
theorem rold_any (h : Bool) (v o g : Int) (w : World) (hf : fitB ⟨h, v, o, g⟩ = true) : Calls Tryz.prog 80 #[ex h v o g] w fun e w' => e = .returned (oldX ⟨h, v, o, g⟩).val ∧ Below w.heap.size w w' := by
  have M := Mem.nil w
  cases h with
  | false =>
    rw [show oldX ⟨false, v, o, g⟩ = EX.z from if_pos (.inl rfl)]
    clear hf
    go_enter Tryz.func80, Tryz.ntmps80
    go_wp2_with (first
      | ((with_reducible show wpList _ _ _ (Oper.mk _ (Op.box 38 _) _ _ _ _ :: _) _ _); refine wpList_box M rfl _ rfl _ _ _ _ rfl ?_; clear M; intro k W M)
      | ((with_reducible show wpList _ _ _ (Oper.mk (some 2) (Op.alloc 38) _ _ _ _ :: _) _ _); refine wpList_alloc M rfl rfl ?_; clear M; intro k2 W M; obtain ⟨c0, c1, c2, c3⟩ := (M.get (.tail _ (.head _))).cells; dsimp only at c0 c1 c2 c3)
      | ((with_reducible show wpList _ _ _ (Oper.mk _ (Op.load 38 _) _ _ _ _ :: _) _ _); refine wpList_load M rfl _ rfl rfl (by first | exact .head _ | exact .tail _ (.head _)) ?_)
      | ((with_reducible show wpList _ _ _ (Oper.mk _ (Op.store 38 _ _) _ _ _ _ :: _) _ _); (first | (refine wpList_put M rfl _ _ rfl 0 _ _ _ _ rfl rfl rfl ?_) | (refine wpList_put M rfl _ _ rfl 1 _ _ _ _ rfl rfl rfl ?_)); clear M; intro W M; simp only [List.set_cons_zero, List.set_cons_succ] at M))
    exact bodyPost_ret (results_c rfl _ _ _ EX.z rfl (M.get (.head _))) rfl ⟨rfl, M.below⟩
  | true =>
    have hb := fit_some hf rfl
    dsimp only at hb
    have hg0 : 0 ≤ g := hb.2.2.2.2.1
    have hg1 : g ≤ 63 := hb.2.2.2.2.2
    clear hf hb
    have hw : IntKind.i64.wrap (g + 1) = g + 1 := by rw [IntKind.wrap_i64]; omega
    by_cases c : 63 ≤ g
    · rw [show oldX ⟨true, v, o, g⟩ = EX.z from if_pos (.inr c)]
      go_enter Tryz.func80, Tryz.ntmps80
      go_wp2_with (first
      | ((with_reducible show wpList _ _ _ (Oper.mk _ (Op.box 38 _) _ _ _ _ :: _) _ _); refine wpList_box M rfl _ rfl _ _ _ _ rfl ?_; clear M; intro k W M)
      | ((with_reducible show wpList _ _ _ (Oper.mk (some 2) (Op.alloc 38) _ _ _ _ :: _) _ _); refine wpList_alloc M rfl rfl ?_; clear M; intro k2 W M; obtain ⟨c0, c1, c2, c3⟩ := (M.get (.tail _ (.head _))).cells; dsimp only at c0 c1 c2 c3)
      | ((with_reducible show wpList _ _ _ (Oper.mk _ (Op.load 38 _) _ _ _ _ :: _) _ _); refine wpList_load M rfl _ rfl rfl (by first | exact .head _ | exact .tail _ (.head _)) ?_)
      | ((with_reducible show wpList _ _ _ (Oper.mk _ (Op.store 38 _ _) _ _ _ _ :: _) _ _); (first | (refine wpList_put M rfl _ _ rfl 0 _ _ _ _ rfl rfl rfl ?_) | (refine wpList_put M rfl _ _ rfl 1 _ _ _ _ rfl rfl rfl ?_)); clear M; intro W M; simp only [List.set_cons_zero, List.set_cons_succ] at M))
      exact bodyPost_ret (results_c rfl _ _ _ EX.z rfl (M.get (.head _))) rfl ⟨rfl, M.below⟩
    · rw [show oldX ⟨true, v, o, g⟩ = ⟨true, v, o, g + 1⟩ from if_neg (by simp; omega)]
      have c' : ¬ 64 ≤ g + 1 := by omega
      go_enter Tryz.func80, Tryz.ntmps80
      go_wp2_with (first
      | ((with_reducible show wpList _ _ _ (Oper.mk _ (Op.box 38 _) _ _ _ _ :: _) _ _); refine wpList_box M rfl _ rfl _ _ _ _ rfl ?_; clear M; intro k W M)
      | ((with_reducible show wpList _ _ _ (Oper.mk (some 2) (Op.alloc 38) _ _ _ _ :: _) _ _); refine wpList_alloc M rfl rfl ?_; clear M; intro k2 W M; obtain ⟨c0, c1, c2, c3⟩ := (M.get (.tail _ (.head _))).cells; dsimp only at c0 c1 c2 c3)
      | ((with_reducible show wpList _ _ _ (Oper.mk _ (Op.load 38 _) _ _ _ _ :: _) _ _); refine wpList_load M rfl _ rfl rfl (by first | exact .head _ | exact .tail _ (.head _)) ?_)
      | ((with_reducible show wpList _ _ _ (Oper.mk _ (Op.store 38 _ _) _ _ _ _ :: _) _ _); (first | (refine wpList_put M rfl _ _ rfl 0 _ _ _ _ rfl rfl rfl ?_) | (refine wpList_put M rfl _ _ rfl 1 _ _ _ _ rfl rfl rfl ?_)); clear M; intro W M; simp only [List.set_cons_zero, List.set_cons_succ] at M)
      | ((with_reducible show wpList _ _ _ (Oper.mk _ (Op.store 2 _ _) _ _ _ _ :: _) _ _); refine wpList_age M rfl _ _ rfl 1 (g + 1) rfl rfl rfl ?_; clear M; intro W M; simp only [List.set_cons_zero, List.set_cons_succ] at M; clear c0 c1 c2 c3))
      exact bodyPost_ret (results_c rfl _ _ _ ⟨true, v, o, g + 1⟩ rfl (M.get (.head _))) rfl ⟨rfl, M.below⟩
end Go.Proofs.YtoeebofappbneaaGreat.E
