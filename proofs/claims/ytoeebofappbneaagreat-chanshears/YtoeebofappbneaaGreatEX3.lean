/-
  Package ext: which of two holds (the generic function over a comparison that is made by closures).
-/
import Derived.Test.YtoeebofappbneaaGreatEX2
import Derived.Test.YtoeebofappbneaaGreatEHeld
namespace Go.Proofs.YtoeebofappbneaaGreat.E
open Go.ChangeShapes Go.WideShapes Go.ChangeAt Go.RowKit
set_option linter.unusedVariables false
set_option linter.unusedSimpArgs false

def orZ (x y z : Int) : Int := if x ≠ 0 then x else if y ≠ 0 then y else z
def vcm (up : Bool) (x y : Int) : Int := if up = true then cmpZ x y else cmpZ y x
/-- How two stand to one another. -/
def rkX (up : Bool) (a b : EX) : Int := if a.h = true ∧ b.h = false then -1 else if a.h = false ∧ b.h = true then 1 else orZ (vcm up a.v b.v) (cmpZ a.g b.g) (cmpZ a.o b.o)
/-- The one of two that holds. -/
def holdX (up : Bool) (a b : EX) : EX := if rkX up b a < 0 then b else a
/-- The values of a comparison, by number of the function. -/
theorem or_any (x y z : Int) (k : Nat) (w : World) (H : w.heap[k]? = some (.cells #[.int .i64 x, .int .i64 y, .int .i64 z] 3 (0, 0))) : Calls Tryz.prog 110 #[.slice (some ⟨k, 0, none⟩) 3 3] w fun e w' => e = .returned (.int .i64 (orZ x y z)) ∧ w' = w := by
  have c0 := row_cell H 0 (.int .i64 x) rfl
  have c1 := row_cell H 1 (.int .i64 y) rfl
  have c2 := row_cell H 2 (.int .i64 z) rfl
  clear H
  by_cases hx : x = 0
  · subst hx
    by_cases hy : y = 0
    · subst hy
      by_cases hz : z = 0
      · subst hz
        go_enter Tryz.func110, Tryz.ntmps110
        go_wp2
        refine wp_loop_rounds 4 ?_
        rw [rounds_succ]
        go_wp2
        rw [rounds_succ]
        go_wp2
        rw [rounds_succ]
        go_wp2
        rw [rounds_succ]
        go_wp2
        go_ret
        exact ⟨ret_i64 (by simp [orZ]), rfl⟩
      · go_enter Tryz.func110, Tryz.ntmps110
        go_wp2
        refine wp_loop_rounds 4 ?_
        rw [rounds_succ]
        go_wp2
        rw [rounds_succ]
        go_wp2
        rw [rounds_succ]
        go_wp2
        go_ret
        exact ⟨ret_i64 (by simp [orZ]), rfl⟩
    · go_enter Tryz.func110, Tryz.ntmps110
      go_wp2
      refine wp_loop_rounds 4 ?_
      rw [rounds_succ]
      go_wp2
      rw [rounds_succ]
      go_wp2
      go_ret
      exact ⟨ret_i64 (by simp [orZ, hy]), rfl⟩
  · go_enter Tryz.func110, Tryz.ntmps110
    go_wp2
    refine wp_loop_rounds 4 ?_
    rw [rounds_succ]
    go_wp2
    go_ret
    exact ⟨ret_i64 (by simp [orZ, hx]), rfl⟩
set_option maxRecDepth 100000 in
set_option maxHeartbeats 2000000 in
theorem rank30_any (h : Bool) (v o g : Int) (h' : Bool) (v' o' g' : Int) (k : Nat) (w : World) (H : w.heap[k]? = some (.cells #[.func (.func 98) #[] #[]] 118 (0, 0))) : Calls Tryz.prog 109 #[ex h v o g, ex h' v' o' g', .pointer (some ⟨k, 0, none⟩)] w fun e w' => e = .returned (.int .i64 (rkX true ⟨h, v, o, g⟩ ⟨h', v', o', g'⟩)) ∧ Below w.heap.size w w' := by
  have M := Mem.nil w
  by_cases hh : h = h'
  · subst hh
    cases h with
    | false =>
      go_enter Tryz.func109, Tryz.ntmps109
      go_wp2_with (first
      | ((with_reducible show wpList _ _ _ (Oper.mk (some 3) (Op.box 38 _) _ _ _ _ :: _) _ _); refine wpList_box M rfl _ rfl _ _ _ _ rfl ?_; clear M; intro k3 W M; skip)
      | ((with_reducible show wpList _ _ _ (Oper.mk (some 4) (Op.box 38 _) _ _ _ _ :: _) _ _); refine wpList_box M rfl _ rfl _ _ _ _ rfl ?_; clear M; intro k4 W M; obtain ⟨c0, c1, c2, c3⟩ := (M.get (.tail _ (.head _))).cells; obtain ⟨d0, d1, d2, d3⟩ := (M.get (.head _)).cells; dsimp only at c0 c1 c2 c3 d0 d1 d2 d3))
      refine wp_region_any (by kernel_rfl) ?_
      change wpAny _ _ _ _ _ _ _ (World.drew _)
      replace M := M.drew
      clear c0 c1 c2 c3 d0 d1 d2 d3
      generalize World.drew W = WD at M ⊢
      refine wpAny_narrow (fun W' => Mem w W' [(k4, ⟨false, v', o', g'⟩), (k3, ⟨false, v, o, g⟩)]) _ _ _ _ ?_
      refine anyH_take 0 22 (.func (.func 98) #[] #[]) rfl rfl (by kernel_rfl) (by kernel_rfl) (by kernel_rfl) (fun _ _ _ h => h) (Or.inl ⟨by rfl, by intro X hSw; have q := row_cell ((hSw.below.block _ (row_lt H)).trans H) 0 (.func (.func 98) #[] #[]) rfl; go_simp⟩) (M) ?_
      try simp only [Act.put, List.setIfInBounds_toArray, List.set_cons_zero, List.set_cons_succ]
      refine anyH_take 1 23 (.pointer (some ⟨k3, 1, none⟩)) rfl rfl (by kernel_rfl) (by kernel_rfl) (by kernel_rfl) (fun _ _ _ h => h) (Or.inl ⟨by rfl, by intro w hSw; go_simp⟩) (M) ?_
      try simp only [Act.put, List.setIfInBounds_toArray, List.set_cons_zero, List.set_cons_succ]
      refine anyH_take 3 25 (.pointer (some ⟨k4, 1, none⟩)) rfl rfl (by kernel_rfl) (by kernel_rfl) (by kernel_rfl) (fun _ _ _ h => h) (Or.inl ⟨by rfl, by intro w hSw; go_simp⟩) (M) ?_
      try simp only [Act.put, List.setIfInBounds_toArray, List.set_cons_zero, List.set_cons_succ]
      refine anyH_take 2 24 (.int .i64 v) rfl rfl (by kernel_rfl) (by kernel_rfl) (by kernel_rfl) (fun _ _ _ h => h) (Or.inl ⟨by rfl, by intro w hSw; obtain ⟨q0, q1, q2, q3⟩ := (hSw.get (.tail _ (.head _))).cells; dsimp only at q0 q1 q2 q3; go_simp⟩) (M) ?_
      try simp only [Act.put, List.setIfInBounds_toArray, List.set_cons_zero, List.set_cons_succ]
      refine anyH_take 4 26 (.int .i64 v') rfl rfl (by kernel_rfl) (by kernel_rfl) (by kernel_rfl) (fun _ _ _ h => h) (Or.inl ⟨by rfl, by intro w hSw; obtain ⟨q0, q1, q2, q3⟩ := (hSw.get (.head _)).cells; dsimp only at q0 q1 q2 q3; go_simp⟩) (M) ?_
      try simp only [Act.put, List.setIfInBounds_toArray, List.set_cons_zero, List.set_cons_succ]
      refine anyH_take 6 28 (.pointer (some ⟨k3, 3, none⟩)) rfl rfl (by kernel_rfl) (by kernel_rfl) (by kernel_rfl) (fun _ _ _ h => h) (Or.inl ⟨by rfl, by intro w hSw; go_simp⟩) (M) ?_
      try simp only [Act.put, List.setIfInBounds_toArray, List.set_cons_zero, List.set_cons_succ]
      refine anyH_take 8 30 (.pointer (some ⟨k4, 3, none⟩)) rfl rfl (by kernel_rfl) (by kernel_rfl) (by kernel_rfl) (fun _ _ _ h => h) (Or.inl ⟨by rfl, by intro w hSw; go_simp⟩) (M) ?_
      try simp only [Act.put, List.setIfInBounds_toArray, List.set_cons_zero, List.set_cons_succ]
      refine anyH_take 7 29 (.int .i64 g) rfl rfl (by kernel_rfl) (by kernel_rfl) (by kernel_rfl) (fun _ _ _ h => h) (Or.inl ⟨by rfl, by intro w hSw; obtain ⟨q0, q1, q2, q3⟩ := (hSw.get (.tail _ (.head _))).cells; dsimp only at q0 q1 q2 q3; go_simp⟩) (M) ?_
      try simp only [Act.put, List.setIfInBounds_toArray, List.set_cons_zero, List.set_cons_succ]
      refine anyH_take 9 31 (.int .i64 g') rfl rfl (by kernel_rfl) (by kernel_rfl) (by kernel_rfl) (fun _ _ _ h => h) (Or.inl ⟨by rfl, by intro w hSw; obtain ⟨q0, q1, q2, q3⟩ := (hSw.get (.head _)).cells; dsimp only at q0 q1 q2 q3; go_simp⟩) (M) ?_
      try simp only [Act.put, List.setIfInBounds_toArray, List.set_cons_zero, List.set_cons_succ]
      refine anyH_take 11 33 (.pointer (some ⟨k3, 2, none⟩)) rfl rfl (by kernel_rfl) (by kernel_rfl) (by kernel_rfl) (fun _ _ _ h => h) (Or.inl ⟨by rfl, by intro w hSw; go_simp⟩) (M) ?_
      try simp only [Act.put, List.setIfInBounds_toArray, List.set_cons_zero, List.set_cons_succ]
      refine anyH_take 13 35 (.pointer (some ⟨k4, 2, none⟩)) rfl rfl (by kernel_rfl) (by kernel_rfl) (by kernel_rfl) (fun _ _ _ h => h) (Or.inl ⟨by rfl, by intro w hSw; go_simp⟩) (M) ?_
      try simp only [Act.put, List.setIfInBounds_toArray, List.set_cons_zero, List.set_cons_succ]
      refine anyH_take 12 34 (.int .i64 o) rfl rfl (by kernel_rfl) (by kernel_rfl) (by kernel_rfl) (fun _ _ _ h => h) (Or.inl ⟨by rfl, by intro w hSw; obtain ⟨q0, q1, q2, q3⟩ := (hSw.get (.tail _ (.head _))).cells; dsimp only at q0 q1 q2 q3; go_simp⟩) (M) ?_
      try simp only [Act.put, List.setIfInBounds_toArray, List.set_cons_zero, List.set_cons_succ]
      refine anyH_take 14 36 (.int .i64 o') rfl rfl (by kernel_rfl) (by kernel_rfl) (by kernel_rfl) (fun _ _ _ h => h) (Or.inl ⟨by rfl, by intro w hSw; obtain ⟨q0, q1, q2, q3⟩ := (hSw.get (.head _)).cells; dsimp only at q0 q1 q2 q3; go_simp⟩) (M) ?_
      try simp only [Act.put, List.setIfInBounds_toArray, List.set_cons_zero, List.set_cons_succ]
      refine wpAnyH_ready (rs := [5]) (by kernel_rfl) (by simp) ?_
      refine AllReadyH.cons rfl (fun K hK => ?_) AllReadyH.nil
      go_simp
      go_wp2_with (go_at_call 98; refine (val30_any _ _ _).mono ?_; rintro e wx ⟨rfl, hw⟩; rw [hw]; clear hw wx)
      refine hK.out _ _ (M) (fun hS => ?_)
      clear hK
      refine wpAnyH_ready (rs := [10]) (by kernel_rfl) (by simp) ?_
      refine AllReadyH.cons rfl (fun K hK => ?_) AllReadyH.nil
      go_simp
      go_wp2_with (go_at_call 99; refine (cmp31_any _ _ _).mono ?_; rintro e wx ⟨rfl, hw⟩; rw [hw]; clear hw wx)
      refine hK.out _ _ (M) (fun hS => ?_)
      clear hK
      refine wpAnyH_ready (rs := [15]) (by kernel_rfl) (by simp) ?_
      refine AllReadyH.cons rfl (fun K hK => ?_) AllReadyH.nil
      go_simp
      go_wp2_with (go_at_call 111; refine (cmp38_any _ _ _).mono ?_; rintro e wx ⟨rfl, hw⟩; rw [hw]; clear hw wx)
      refine hK.out _ _ (M) (fun hS => ?_)
      clear hK
      refine wpAnyH_ready (rs := [16]) (by kernel_rfl) (by simp) ?_
      refine AllReadyH.cons rfl (fun K hK => ?_) AllReadyH.nil
      go_simp
      have M2 := M.later ((Below.refl _ _).alloc (Nat.le_refl _) (.cells #[.int .i64 (cmpZ v v'), .int .i64 (cmpZ g g'), .int .i64 (cmpZ o o')] 3))
      refine hK.out _ _ M2 (fun hS => ?_)
      clear hK
      refine wpAnyH_ready (rs := [17]) (by kernel_rfl) (by simp) ?_
      refine AllReadyH.cons rfl (fun K hK => ?_) AllReadyH.nil
      go_simp
      go_wp2_with (go_at_call 110; refine (or_any _ _ _ _ _ (World.alloc_heap_new _ _)).mono ?_; rintro e wx ⟨rfl, hw⟩; rw [hw]; clear hw wx)
      refine hK.out _ _ (M2) (fun hS => ?_)
      clear hK
      refine anyH_take 18 5 (.int .i64 (orZ (cmpZ v v') (cmpZ g g') (cmpZ o o'))) rfl rfl (by kernel_rfl) (by kernel_rfl) (by kernel_rfl) (fun _ _ _ h => h) (Or.inl ⟨by rfl, by intro w hSw; go_simp⟩) (M2) ?_
      try simp only [Act.put, List.setIfInBounds_toArray, List.set_cons_zero, List.set_cons_succ]
      refine wpAnyH_done (by kernel_rfl) ?_ _
      go_wp2
      go_ret
      exact ⟨ret_i64 (by simp [rkX, vcm]), M2.below⟩
    | true =>
      go_enter Tryz.func109, Tryz.ntmps109
      go_wp2_with (first
      | ((with_reducible show wpList _ _ _ (Oper.mk (some 3) (Op.box 38 _) _ _ _ _ :: _) _ _); refine wpList_box M rfl _ rfl _ _ _ _ rfl ?_; clear M; intro k3 W M; skip)
      | ((with_reducible show wpList _ _ _ (Oper.mk (some 4) (Op.box 38 _) _ _ _ _ :: _) _ _); refine wpList_box M rfl _ rfl _ _ _ _ rfl ?_; clear M; intro k4 W M; obtain ⟨c0, c1, c2, c3⟩ := (M.get (.tail _ (.head _))).cells; obtain ⟨d0, d1, d2, d3⟩ := (M.get (.head _)).cells; dsimp only at c0 c1 c2 c3 d0 d1 d2 d3))
      refine wp_region_any (by kernel_rfl) ?_
      change wpAny _ _ _ _ _ _ _ (World.drew _)
      replace M := M.drew
      clear c0 c1 c2 c3 d0 d1 d2 d3
      generalize World.drew W = WD at M ⊢
      refine wpAny_narrow (fun W' => Mem w W' [(k4, ⟨true, v', o', g'⟩), (k3, ⟨true, v, o, g⟩)]) _ _ _ _ ?_
      refine anyH_take 0 22 (.func (.func 98) #[] #[]) rfl rfl (by kernel_rfl) (by kernel_rfl) (by kernel_rfl) (fun _ _ _ h => h) (Or.inl ⟨by rfl, by intro X hSw; have q := row_cell ((hSw.below.block _ (row_lt H)).trans H) 0 (.func (.func 98) #[] #[]) rfl; go_simp⟩) (M) ?_
      try simp only [Act.put, List.setIfInBounds_toArray, List.set_cons_zero, List.set_cons_succ]
      refine anyH_take 1 23 (.pointer (some ⟨k3, 1, none⟩)) rfl rfl (by kernel_rfl) (by kernel_rfl) (by kernel_rfl) (fun _ _ _ h => h) (Or.inl ⟨by rfl, by intro w hSw; go_simp⟩) (M) ?_
      try simp only [Act.put, List.setIfInBounds_toArray, List.set_cons_zero, List.set_cons_succ]
      refine anyH_take 3 25 (.pointer (some ⟨k4, 1, none⟩)) rfl rfl (by kernel_rfl) (by kernel_rfl) (by kernel_rfl) (fun _ _ _ h => h) (Or.inl ⟨by rfl, by intro w hSw; go_simp⟩) (M) ?_
      try simp only [Act.put, List.setIfInBounds_toArray, List.set_cons_zero, List.set_cons_succ]
      refine anyH_take 2 24 (.int .i64 v) rfl rfl (by kernel_rfl) (by kernel_rfl) (by kernel_rfl) (fun _ _ _ h => h) (Or.inl ⟨by rfl, by intro w hSw; obtain ⟨q0, q1, q2, q3⟩ := (hSw.get (.tail _ (.head _))).cells; dsimp only at q0 q1 q2 q3; go_simp⟩) (M) ?_
      try simp only [Act.put, List.setIfInBounds_toArray, List.set_cons_zero, List.set_cons_succ]
      refine anyH_take 4 26 (.int .i64 v') rfl rfl (by kernel_rfl) (by kernel_rfl) (by kernel_rfl) (fun _ _ _ h => h) (Or.inl ⟨by rfl, by intro w hSw; obtain ⟨q0, q1, q2, q3⟩ := (hSw.get (.head _)).cells; dsimp only at q0 q1 q2 q3; go_simp⟩) (M) ?_
      try simp only [Act.put, List.setIfInBounds_toArray, List.set_cons_zero, List.set_cons_succ]
      refine anyH_take 6 28 (.pointer (some ⟨k3, 3, none⟩)) rfl rfl (by kernel_rfl) (by kernel_rfl) (by kernel_rfl) (fun _ _ _ h => h) (Or.inl ⟨by rfl, by intro w hSw; go_simp⟩) (M) ?_
      try simp only [Act.put, List.setIfInBounds_toArray, List.set_cons_zero, List.set_cons_succ]
      refine anyH_take 8 30 (.pointer (some ⟨k4, 3, none⟩)) rfl rfl (by kernel_rfl) (by kernel_rfl) (by kernel_rfl) (fun _ _ _ h => h) (Or.inl ⟨by rfl, by intro w hSw; go_simp⟩) (M) ?_
      try simp only [Act.put, List.setIfInBounds_toArray, List.set_cons_zero, List.set_cons_succ]
      refine anyH_take 7 29 (.int .i64 g) rfl rfl (by kernel_rfl) (by kernel_rfl) (by kernel_rfl) (fun _ _ _ h => h) (Or.inl ⟨by rfl, by intro w hSw; obtain ⟨q0, q1, q2, q3⟩ := (hSw.get (.tail _ (.head _))).cells; dsimp only at q0 q1 q2 q3; go_simp⟩) (M) ?_
      try simp only [Act.put, List.setIfInBounds_toArray, List.set_cons_zero, List.set_cons_succ]
      refine anyH_take 9 31 (.int .i64 g') rfl rfl (by kernel_rfl) (by kernel_rfl) (by kernel_rfl) (fun _ _ _ h => h) (Or.inl ⟨by rfl, by intro w hSw; obtain ⟨q0, q1, q2, q3⟩ := (hSw.get (.head _)).cells; dsimp only at q0 q1 q2 q3; go_simp⟩) (M) ?_
      try simp only [Act.put, List.setIfInBounds_toArray, List.set_cons_zero, List.set_cons_succ]
      refine anyH_take 11 33 (.pointer (some ⟨k3, 2, none⟩)) rfl rfl (by kernel_rfl) (by kernel_rfl) (by kernel_rfl) (fun _ _ _ h => h) (Or.inl ⟨by rfl, by intro w hSw; go_simp⟩) (M) ?_
      try simp only [Act.put, List.setIfInBounds_toArray, List.set_cons_zero, List.set_cons_succ]
      refine anyH_take 13 35 (.pointer (some ⟨k4, 2, none⟩)) rfl rfl (by kernel_rfl) (by kernel_rfl) (by kernel_rfl) (fun _ _ _ h => h) (Or.inl ⟨by rfl, by intro w hSw; go_simp⟩) (M) ?_
      try simp only [Act.put, List.setIfInBounds_toArray, List.set_cons_zero, List.set_cons_succ]
      refine anyH_take 12 34 (.int .i64 o) rfl rfl (by kernel_rfl) (by kernel_rfl) (by kernel_rfl) (fun _ _ _ h => h) (Or.inl ⟨by rfl, by intro w hSw; obtain ⟨q0, q1, q2, q3⟩ := (hSw.get (.tail _ (.head _))).cells; dsimp only at q0 q1 q2 q3; go_simp⟩) (M) ?_
      try simp only [Act.put, List.setIfInBounds_toArray, List.set_cons_zero, List.set_cons_succ]
      refine anyH_take 14 36 (.int .i64 o') rfl rfl (by kernel_rfl) (by kernel_rfl) (by kernel_rfl) (fun _ _ _ h => h) (Or.inl ⟨by rfl, by intro w hSw; obtain ⟨q0, q1, q2, q3⟩ := (hSw.get (.head _)).cells; dsimp only at q0 q1 q2 q3; go_simp⟩) (M) ?_
      try simp only [Act.put, List.setIfInBounds_toArray, List.set_cons_zero, List.set_cons_succ]
      refine wpAnyH_ready (rs := [5]) (by kernel_rfl) (by simp) ?_
      refine AllReadyH.cons rfl (fun K hK => ?_) AllReadyH.nil
      go_simp
      go_wp2_with (go_at_call 98; refine (val30_any _ _ _).mono ?_; rintro e wx ⟨rfl, hw⟩; rw [hw]; clear hw wx)
      refine hK.out _ _ (M) (fun hS => ?_)
      clear hK
      refine wpAnyH_ready (rs := [10]) (by kernel_rfl) (by simp) ?_
      refine AllReadyH.cons rfl (fun K hK => ?_) AllReadyH.nil
      go_simp
      go_wp2_with (go_at_call 99; refine (cmp31_any _ _ _).mono ?_; rintro e wx ⟨rfl, hw⟩; rw [hw]; clear hw wx)
      refine hK.out _ _ (M) (fun hS => ?_)
      clear hK
      refine wpAnyH_ready (rs := [15]) (by kernel_rfl) (by simp) ?_
      refine AllReadyH.cons rfl (fun K hK => ?_) AllReadyH.nil
      go_simp
      go_wp2_with (go_at_call 111; refine (cmp38_any _ _ _).mono ?_; rintro e wx ⟨rfl, hw⟩; rw [hw]; clear hw wx)
      refine hK.out _ _ (M) (fun hS => ?_)
      clear hK
      refine wpAnyH_ready (rs := [16]) (by kernel_rfl) (by simp) ?_
      refine AllReadyH.cons rfl (fun K hK => ?_) AllReadyH.nil
      go_simp
      have M2 := M.later ((Below.refl _ _).alloc (Nat.le_refl _) (.cells #[.int .i64 (cmpZ v v'), .int .i64 (cmpZ g g'), .int .i64 (cmpZ o o')] 3))
      refine hK.out _ _ M2 (fun hS => ?_)
      clear hK
      refine wpAnyH_ready (rs := [17]) (by kernel_rfl) (by simp) ?_
      refine AllReadyH.cons rfl (fun K hK => ?_) AllReadyH.nil
      go_simp
      go_wp2_with (go_at_call 110; refine (or_any _ _ _ _ _ (World.alloc_heap_new _ _)).mono ?_; rintro e wx ⟨rfl, hw⟩; rw [hw]; clear hw wx)
      refine hK.out _ _ (M2) (fun hS => ?_)
      clear hK
      refine anyH_take 18 5 (.int .i64 (orZ (cmpZ v v') (cmpZ g g') (cmpZ o o'))) rfl rfl (by kernel_rfl) (by kernel_rfl) (by kernel_rfl) (fun _ _ _ h => h) (Or.inl ⟨by rfl, by intro w hSw; go_simp⟩) (M2) ?_
      try simp only [Act.put, List.setIfInBounds_toArray, List.set_cons_zero, List.set_cons_succ]
      refine wpAnyH_done (by kernel_rfl) ?_ _
      go_wp2
      go_ret
      exact ⟨ret_i64 (by simp [rkX, vcm]), M2.below⟩
  · cases h <;> cases h' <;> first | exact absurd rfl hh | skip
    all_goals
      go_enter Tryz.func109, Tryz.ntmps109
      go_wp2_with (first
      | ((with_reducible show wpList _ _ _ (Oper.mk (some 3) (Op.box 38 _) _ _ _ _ :: _) _ _); refine wpList_box M rfl _ rfl _ _ _ _ rfl ?_; clear M; intro k3 W M; skip)
      | ((with_reducible show wpList _ _ _ (Oper.mk (some 4) (Op.box 38 _) _ _ _ _ :: _) _ _); refine wpList_box M rfl _ rfl _ _ _ _ rfl ?_; clear M; intro k4 W M; obtain ⟨c0, c1, c2, c3⟩ := (M.get (.tail _ (.head _))).cells; obtain ⟨d0, d1, d2, d3⟩ := (M.get (.head _)).cells; dsimp only at c0 c1 c2 c3 d0 d1 d2 d3))
      go_ret
      exact ⟨ret_i64 (by simp [rkX]), M.below⟩
set_option maxRecDepth 100000 in
set_option maxHeartbeats 2000000 in
theorem rank33_any (h : Bool) (v o g : Int) (h' : Bool) (v' o' g' : Int) (k : Nat) (w : World) (H : w.heap[k]? = some (.cells #[.func (.func 100) #[] #[]] 118 (0, 0))) : Calls Tryz.prog 109 #[ex h v o g, ex h' v' o' g', .pointer (some ⟨k, 0, none⟩)] w fun e w' => e = .returned (.int .i64 (rkX false ⟨h, v, o, g⟩ ⟨h', v', o', g'⟩)) ∧ Below w.heap.size w w' := by
  have M := Mem.nil w
  by_cases hh : h = h'
  · subst hh
    cases h with
    | false =>
      go_enter Tryz.func109, Tryz.ntmps109
      go_wp2_with (first
      | ((with_reducible show wpList _ _ _ (Oper.mk (some 3) (Op.box 38 _) _ _ _ _ :: _) _ _); refine wpList_box M rfl _ rfl _ _ _ _ rfl ?_; clear M; intro k3 W M; skip)
      | ((with_reducible show wpList _ _ _ (Oper.mk (some 4) (Op.box 38 _) _ _ _ _ :: _) _ _); refine wpList_box M rfl _ rfl _ _ _ _ rfl ?_; clear M; intro k4 W M; obtain ⟨c0, c1, c2, c3⟩ := (M.get (.tail _ (.head _))).cells; obtain ⟨d0, d1, d2, d3⟩ := (M.get (.head _)).cells; dsimp only at c0 c1 c2 c3 d0 d1 d2 d3))
      refine wp_region_any (by kernel_rfl) ?_
      change wpAny _ _ _ _ _ _ _ (World.drew _)
      replace M := M.drew
      clear c0 c1 c2 c3 d0 d1 d2 d3
      generalize World.drew W = WD at M ⊢
      refine wpAny_narrow (fun W' => Mem w W' [(k4, ⟨false, v', o', g'⟩), (k3, ⟨false, v, o, g⟩)]) _ _ _ _ ?_
      refine anyH_take 0 22 (.func (.func 100) #[] #[]) rfl rfl (by kernel_rfl) (by kernel_rfl) (by kernel_rfl) (fun _ _ _ h => h) (Or.inl ⟨by rfl, by intro X hSw; have q := row_cell ((hSw.below.block _ (row_lt H)).trans H) 0 (.func (.func 100) #[] #[]) rfl; go_simp⟩) (M) ?_
      try simp only [Act.put, List.setIfInBounds_toArray, List.set_cons_zero, List.set_cons_succ]
      refine anyH_take 1 23 (.pointer (some ⟨k3, 1, none⟩)) rfl rfl (by kernel_rfl) (by kernel_rfl) (by kernel_rfl) (fun _ _ _ h => h) (Or.inl ⟨by rfl, by intro w hSw; go_simp⟩) (M) ?_
      try simp only [Act.put, List.setIfInBounds_toArray, List.set_cons_zero, List.set_cons_succ]
      refine anyH_take 3 25 (.pointer (some ⟨k4, 1, none⟩)) rfl rfl (by kernel_rfl) (by kernel_rfl) (by kernel_rfl) (fun _ _ _ h => h) (Or.inl ⟨by rfl, by intro w hSw; go_simp⟩) (M) ?_
      try simp only [Act.put, List.setIfInBounds_toArray, List.set_cons_zero, List.set_cons_succ]
      refine anyH_take 2 24 (.int .i64 v) rfl rfl (by kernel_rfl) (by kernel_rfl) (by kernel_rfl) (fun _ _ _ h => h) (Or.inl ⟨by rfl, by intro w hSw; obtain ⟨q0, q1, q2, q3⟩ := (hSw.get (.tail _ (.head _))).cells; dsimp only at q0 q1 q2 q3; go_simp⟩) (M) ?_
      try simp only [Act.put, List.setIfInBounds_toArray, List.set_cons_zero, List.set_cons_succ]
      refine anyH_take 4 26 (.int .i64 v') rfl rfl (by kernel_rfl) (by kernel_rfl) (by kernel_rfl) (fun _ _ _ h => h) (Or.inl ⟨by rfl, by intro w hSw; obtain ⟨q0, q1, q2, q3⟩ := (hSw.get (.head _)).cells; dsimp only at q0 q1 q2 q3; go_simp⟩) (M) ?_
      try simp only [Act.put, List.setIfInBounds_toArray, List.set_cons_zero, List.set_cons_succ]
      refine anyH_take 6 28 (.pointer (some ⟨k3, 3, none⟩)) rfl rfl (by kernel_rfl) (by kernel_rfl) (by kernel_rfl) (fun _ _ _ h => h) (Or.inl ⟨by rfl, by intro w hSw; go_simp⟩) (M) ?_
      try simp only [Act.put, List.setIfInBounds_toArray, List.set_cons_zero, List.set_cons_succ]
      refine anyH_take 8 30 (.pointer (some ⟨k4, 3, none⟩)) rfl rfl (by kernel_rfl) (by kernel_rfl) (by kernel_rfl) (fun _ _ _ h => h) (Or.inl ⟨by rfl, by intro w hSw; go_simp⟩) (M) ?_
      try simp only [Act.put, List.setIfInBounds_toArray, List.set_cons_zero, List.set_cons_succ]
      refine anyH_take 7 29 (.int .i64 g) rfl rfl (by kernel_rfl) (by kernel_rfl) (by kernel_rfl) (fun _ _ _ h => h) (Or.inl ⟨by rfl, by intro w hSw; obtain ⟨q0, q1, q2, q3⟩ := (hSw.get (.tail _ (.head _))).cells; dsimp only at q0 q1 q2 q3; go_simp⟩) (M) ?_
      try simp only [Act.put, List.setIfInBounds_toArray, List.set_cons_zero, List.set_cons_succ]
      refine anyH_take 9 31 (.int .i64 g') rfl rfl (by kernel_rfl) (by kernel_rfl) (by kernel_rfl) (fun _ _ _ h => h) (Or.inl ⟨by rfl, by intro w hSw; obtain ⟨q0, q1, q2, q3⟩ := (hSw.get (.head _)).cells; dsimp only at q0 q1 q2 q3; go_simp⟩) (M) ?_
      try simp only [Act.put, List.setIfInBounds_toArray, List.set_cons_zero, List.set_cons_succ]
      refine anyH_take 11 33 (.pointer (some ⟨k3, 2, none⟩)) rfl rfl (by kernel_rfl) (by kernel_rfl) (by kernel_rfl) (fun _ _ _ h => h) (Or.inl ⟨by rfl, by intro w hSw; go_simp⟩) (M) ?_
      try simp only [Act.put, List.setIfInBounds_toArray, List.set_cons_zero, List.set_cons_succ]
      refine anyH_take 13 35 (.pointer (some ⟨k4, 2, none⟩)) rfl rfl (by kernel_rfl) (by kernel_rfl) (by kernel_rfl) (fun _ _ _ h => h) (Or.inl ⟨by rfl, by intro w hSw; go_simp⟩) (M) ?_
      try simp only [Act.put, List.setIfInBounds_toArray, List.set_cons_zero, List.set_cons_succ]
      refine anyH_take 12 34 (.int .i64 o) rfl rfl (by kernel_rfl) (by kernel_rfl) (by kernel_rfl) (fun _ _ _ h => h) (Or.inl ⟨by rfl, by intro w hSw; obtain ⟨q0, q1, q2, q3⟩ := (hSw.get (.tail _ (.head _))).cells; dsimp only at q0 q1 q2 q3; go_simp⟩) (M) ?_
      try simp only [Act.put, List.setIfInBounds_toArray, List.set_cons_zero, List.set_cons_succ]
      refine anyH_take 14 36 (.int .i64 o') rfl rfl (by kernel_rfl) (by kernel_rfl) (by kernel_rfl) (fun _ _ _ h => h) (Or.inl ⟨by rfl, by intro w hSw; obtain ⟨q0, q1, q2, q3⟩ := (hSw.get (.head _)).cells; dsimp only at q0 q1 q2 q3; go_simp⟩) (M) ?_
      try simp only [Act.put, List.setIfInBounds_toArray, List.set_cons_zero, List.set_cons_succ]
      refine wpAnyH_ready (rs := [5]) (by kernel_rfl) (by simp) ?_
      refine AllReadyH.cons rfl (fun K hK => ?_) AllReadyH.nil
      go_simp
      go_wp2_with (go_at_call 100; refine (val33_any _ _ _).mono ?_; rintro e wx ⟨rfl, hw⟩; rw [hw]; clear hw wx)
      refine hK.out _ _ (M) (fun hS => ?_)
      clear hK
      refine wpAnyH_ready (rs := [10]) (by kernel_rfl) (by simp) ?_
      refine AllReadyH.cons rfl (fun K hK => ?_) AllReadyH.nil
      go_simp
      go_wp2_with (go_at_call 99; refine (cmp31_any _ _ _).mono ?_; rintro e wx ⟨rfl, hw⟩; rw [hw]; clear hw wx)
      refine hK.out _ _ (M) (fun hS => ?_)
      clear hK
      refine wpAnyH_ready (rs := [15]) (by kernel_rfl) (by simp) ?_
      refine AllReadyH.cons rfl (fun K hK => ?_) AllReadyH.nil
      go_simp
      go_wp2_with (go_at_call 111; refine (cmp38_any _ _ _).mono ?_; rintro e wx ⟨rfl, hw⟩; rw [hw]; clear hw wx)
      refine hK.out _ _ (M) (fun hS => ?_)
      clear hK
      refine wpAnyH_ready (rs := [16]) (by kernel_rfl) (by simp) ?_
      refine AllReadyH.cons rfl (fun K hK => ?_) AllReadyH.nil
      go_simp
      have M2 := M.later ((Below.refl _ _).alloc (Nat.le_refl _) (.cells #[.int .i64 (cmpZ v' v), .int .i64 (cmpZ g g'), .int .i64 (cmpZ o o')] 3))
      refine hK.out _ _ M2 (fun hS => ?_)
      clear hK
      refine wpAnyH_ready (rs := [17]) (by kernel_rfl) (by simp) ?_
      refine AllReadyH.cons rfl (fun K hK => ?_) AllReadyH.nil
      go_simp
      go_wp2_with (go_at_call 110; refine (or_any _ _ _ _ _ (World.alloc_heap_new _ _)).mono ?_; rintro e wx ⟨rfl, hw⟩; rw [hw]; clear hw wx)
      refine hK.out _ _ (M2) (fun hS => ?_)
      clear hK
      refine anyH_take 18 5 (.int .i64 (orZ (cmpZ v' v) (cmpZ g g') (cmpZ o o'))) rfl rfl (by kernel_rfl) (by kernel_rfl) (by kernel_rfl) (fun _ _ _ h => h) (Or.inl ⟨by rfl, by intro w hSw; go_simp⟩) (M2) ?_
      try simp only [Act.put, List.setIfInBounds_toArray, List.set_cons_zero, List.set_cons_succ]
      refine wpAnyH_done (by kernel_rfl) ?_ _
      go_wp2
      go_ret
      exact ⟨ret_i64 (by simp [rkX, vcm]), M2.below⟩
    | true =>
      go_enter Tryz.func109, Tryz.ntmps109
      go_wp2_with (first
      | ((with_reducible show wpList _ _ _ (Oper.mk (some 3) (Op.box 38 _) _ _ _ _ :: _) _ _); refine wpList_box M rfl _ rfl _ _ _ _ rfl ?_; clear M; intro k3 W M; skip)
      | ((with_reducible show wpList _ _ _ (Oper.mk (some 4) (Op.box 38 _) _ _ _ _ :: _) _ _); refine wpList_box M rfl _ rfl _ _ _ _ rfl ?_; clear M; intro k4 W M; obtain ⟨c0, c1, c2, c3⟩ := (M.get (.tail _ (.head _))).cells; obtain ⟨d0, d1, d2, d3⟩ := (M.get (.head _)).cells; dsimp only at c0 c1 c2 c3 d0 d1 d2 d3))
      refine wp_region_any (by kernel_rfl) ?_
      change wpAny _ _ _ _ _ _ _ (World.drew _)
      replace M := M.drew
      clear c0 c1 c2 c3 d0 d1 d2 d3
      generalize World.drew W = WD at M ⊢
      refine wpAny_narrow (fun W' => Mem w W' [(k4, ⟨true, v', o', g'⟩), (k3, ⟨true, v, o, g⟩)]) _ _ _ _ ?_
      refine anyH_take 0 22 (.func (.func 100) #[] #[]) rfl rfl (by kernel_rfl) (by kernel_rfl) (by kernel_rfl) (fun _ _ _ h => h) (Or.inl ⟨by rfl, by intro X hSw; have q := row_cell ((hSw.below.block _ (row_lt H)).trans H) 0 (.func (.func 100) #[] #[]) rfl; go_simp⟩) (M) ?_
      try simp only [Act.put, List.setIfInBounds_toArray, List.set_cons_zero, List.set_cons_succ]
      refine anyH_take 1 23 (.pointer (some ⟨k3, 1, none⟩)) rfl rfl (by kernel_rfl) (by kernel_rfl) (by kernel_rfl) (fun _ _ _ h => h) (Or.inl ⟨by rfl, by intro w hSw; go_simp⟩) (M) ?_
      try simp only [Act.put, List.setIfInBounds_toArray, List.set_cons_zero, List.set_cons_succ]
      refine anyH_take 3 25 (.pointer (some ⟨k4, 1, none⟩)) rfl rfl (by kernel_rfl) (by kernel_rfl) (by kernel_rfl) (fun _ _ _ h => h) (Or.inl ⟨by rfl, by intro w hSw; go_simp⟩) (M) ?_
      try simp only [Act.put, List.setIfInBounds_toArray, List.set_cons_zero, List.set_cons_succ]
      refine anyH_take 2 24 (.int .i64 v) rfl rfl (by kernel_rfl) (by kernel_rfl) (by kernel_rfl) (fun _ _ _ h => h) (Or.inl ⟨by rfl, by intro w hSw; obtain ⟨q0, q1, q2, q3⟩ := (hSw.get (.tail _ (.head _))).cells; dsimp only at q0 q1 q2 q3; go_simp⟩) (M) ?_
      try simp only [Act.put, List.setIfInBounds_toArray, List.set_cons_zero, List.set_cons_succ]
      refine anyH_take 4 26 (.int .i64 v') rfl rfl (by kernel_rfl) (by kernel_rfl) (by kernel_rfl) (fun _ _ _ h => h) (Or.inl ⟨by rfl, by intro w hSw; obtain ⟨q0, q1, q2, q3⟩ := (hSw.get (.head _)).cells; dsimp only at q0 q1 q2 q3; go_simp⟩) (M) ?_
      try simp only [Act.put, List.setIfInBounds_toArray, List.set_cons_zero, List.set_cons_succ]
      refine anyH_take 6 28 (.pointer (some ⟨k3, 3, none⟩)) rfl rfl (by kernel_rfl) (by kernel_rfl) (by kernel_rfl) (fun _ _ _ h => h) (Or.inl ⟨by rfl, by intro w hSw; go_simp⟩) (M) ?_
      try simp only [Act.put, List.setIfInBounds_toArray, List.set_cons_zero, List.set_cons_succ]
      refine anyH_take 8 30 (.pointer (some ⟨k4, 3, none⟩)) rfl rfl (by kernel_rfl) (by kernel_rfl) (by kernel_rfl) (fun _ _ _ h => h) (Or.inl ⟨by rfl, by intro w hSw; go_simp⟩) (M) ?_
      try simp only [Act.put, List.setIfInBounds_toArray, List.set_cons_zero, List.set_cons_succ]
      refine anyH_take 7 29 (.int .i64 g) rfl rfl (by kernel_rfl) (by kernel_rfl) (by kernel_rfl) (fun _ _ _ h => h) (Or.inl ⟨by rfl, by intro w hSw; obtain ⟨q0, q1, q2, q3⟩ := (hSw.get (.tail _ (.head _))).cells; dsimp only at q0 q1 q2 q3; go_simp⟩) (M) ?_
      try simp only [Act.put, List.setIfInBounds_toArray, List.set_cons_zero, List.set_cons_succ]
      refine anyH_take 9 31 (.int .i64 g') rfl rfl (by kernel_rfl) (by kernel_rfl) (by kernel_rfl) (fun _ _ _ h => h) (Or.inl ⟨by rfl, by intro w hSw; obtain ⟨q0, q1, q2, q3⟩ := (hSw.get (.head _)).cells; dsimp only at q0 q1 q2 q3; go_simp⟩) (M) ?_
      try simp only [Act.put, List.setIfInBounds_toArray, List.set_cons_zero, List.set_cons_succ]
      refine anyH_take 11 33 (.pointer (some ⟨k3, 2, none⟩)) rfl rfl (by kernel_rfl) (by kernel_rfl) (by kernel_rfl) (fun _ _ _ h => h) (Or.inl ⟨by rfl, by intro w hSw; go_simp⟩) (M) ?_
      try simp only [Act.put, List.setIfInBounds_toArray, List.set_cons_zero, List.set_cons_succ]
      refine anyH_take 13 35 (.pointer (some ⟨k4, 2, none⟩)) rfl rfl (by kernel_rfl) (by kernel_rfl) (by kernel_rfl) (fun _ _ _ h => h) (Or.inl ⟨by rfl, by intro w hSw; go_simp⟩) (M) ?_
      try simp only [Act.put, List.setIfInBounds_toArray, List.set_cons_zero, List.set_cons_succ]
      refine anyH_take 12 34 (.int .i64 o) rfl rfl (by kernel_rfl) (by kernel_rfl) (by kernel_rfl) (fun _ _ _ h => h) (Or.inl ⟨by rfl, by intro w hSw; obtain ⟨q0, q1, q2, q3⟩ := (hSw.get (.tail _ (.head _))).cells; dsimp only at q0 q1 q2 q3; go_simp⟩) (M) ?_
      try simp only [Act.put, List.setIfInBounds_toArray, List.set_cons_zero, List.set_cons_succ]
      refine anyH_take 14 36 (.int .i64 o') rfl rfl (by kernel_rfl) (by kernel_rfl) (by kernel_rfl) (fun _ _ _ h => h) (Or.inl ⟨by rfl, by intro w hSw; obtain ⟨q0, q1, q2, q3⟩ := (hSw.get (.head _)).cells; dsimp only at q0 q1 q2 q3; go_simp⟩) (M) ?_
      try simp only [Act.put, List.setIfInBounds_toArray, List.set_cons_zero, List.set_cons_succ]
      refine wpAnyH_ready (rs := [5]) (by kernel_rfl) (by simp) ?_
      refine AllReadyH.cons rfl (fun K hK => ?_) AllReadyH.nil
      go_simp
      go_wp2_with (go_at_call 100; refine (val33_any _ _ _).mono ?_; rintro e wx ⟨rfl, hw⟩; rw [hw]; clear hw wx)
      refine hK.out _ _ (M) (fun hS => ?_)
      clear hK
      refine wpAnyH_ready (rs := [10]) (by kernel_rfl) (by simp) ?_
      refine AllReadyH.cons rfl (fun K hK => ?_) AllReadyH.nil
      go_simp
      go_wp2_with (go_at_call 99; refine (cmp31_any _ _ _).mono ?_; rintro e wx ⟨rfl, hw⟩; rw [hw]; clear hw wx)
      refine hK.out _ _ (M) (fun hS => ?_)
      clear hK
      refine wpAnyH_ready (rs := [15]) (by kernel_rfl) (by simp) ?_
      refine AllReadyH.cons rfl (fun K hK => ?_) AllReadyH.nil
      go_simp
      go_wp2_with (go_at_call 111; refine (cmp38_any _ _ _).mono ?_; rintro e wx ⟨rfl, hw⟩; rw [hw]; clear hw wx)
      refine hK.out _ _ (M) (fun hS => ?_)
      clear hK
      refine wpAnyH_ready (rs := [16]) (by kernel_rfl) (by simp) ?_
      refine AllReadyH.cons rfl (fun K hK => ?_) AllReadyH.nil
      go_simp
      have M2 := M.later ((Below.refl _ _).alloc (Nat.le_refl _) (.cells #[.int .i64 (cmpZ v' v), .int .i64 (cmpZ g g'), .int .i64 (cmpZ o o')] 3))
      refine hK.out _ _ M2 (fun hS => ?_)
      clear hK
      refine wpAnyH_ready (rs := [17]) (by kernel_rfl) (by simp) ?_
      refine AllReadyH.cons rfl (fun K hK => ?_) AllReadyH.nil
      go_simp
      go_wp2_with (go_at_call 110; refine (or_any _ _ _ _ _ (World.alloc_heap_new _ _)).mono ?_; rintro e wx ⟨rfl, hw⟩; rw [hw]; clear hw wx)
      refine hK.out _ _ (M2) (fun hS => ?_)
      clear hK
      refine anyH_take 18 5 (.int .i64 (orZ (cmpZ v' v) (cmpZ g g') (cmpZ o o'))) rfl rfl (by kernel_rfl) (by kernel_rfl) (by kernel_rfl) (fun _ _ _ h => h) (Or.inl ⟨by rfl, by intro w hSw; go_simp⟩) (M2) ?_
      try simp only [Act.put, List.setIfInBounds_toArray, List.set_cons_zero, List.set_cons_succ]
      refine wpAnyH_done (by kernel_rfl) ?_ _
      go_wp2
      go_ret
      exact ⟨ret_i64 (by simp [rkX, vcm]), M2.below⟩
  · cases h <;> cases h' <;> first | exact absurd rfl hh | skip
    all_goals
      go_enter Tryz.func109, Tryz.ntmps109
      go_wp2_with (first
      | ((with_reducible show wpList _ _ _ (Oper.mk (some 3) (Op.box 38 _) _ _ _ _ :: _) _ _); refine wpList_box M rfl _ rfl _ _ _ _ rfl ?_; clear M; intro k3 W M; skip)
      | ((with_reducible show wpList _ _ _ (Oper.mk (some 4) (Op.box 38 _) _ _ _ _ :: _) _ _); refine wpList_box M rfl _ rfl _ _ _ _ rfl ?_; clear M; intro k4 W M; obtain ⟨c0, c1, c2, c3⟩ := (M.get (.tail _ (.head _))).cells; obtain ⟨d0, d1, d2, d3⟩ := (M.get (.head _)).cells; dsimp only at c0 c1 c2 c3 d0 d1 d2 d3))
      go_ret
      exact ⟨ret_i64 (by simp [rkX]), M.below⟩
end Go.Proofs.YtoeebofappbneaaGreat.E
