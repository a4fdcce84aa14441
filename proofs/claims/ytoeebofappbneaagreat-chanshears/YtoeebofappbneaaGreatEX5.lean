/-
  Package ext: which of two holds: an order, and the document's own Least and Greatest.
-/
import Derived.Test.YtoeebofappbneaaGreatEX3
namespace Go.Proofs.YtoeebofappbneaaGreat.E
open Go.ChangeShapes Go.WideShapes Go.ChangeAt Go.RowKit
set_option linter.unusedVariables false
set_option linter.unusedSimpArgs false

/-- A number by which fit values stand in order. -/
def key (up : Bool) (x : EX) : Int := if x.h = true then ((if up = true then x.v else -x.v) * 64 + x.g) * 16 + x.o else 1125899906842624
theorem rk_key (up : Bool) {a b : EX} (ha : fitB a = true) (hb : fitB b = true) : rkX up a b < 0 ↔ key up a < key up b := by
  cases h1 : a.h with
  | false =>
    have e1 := fit_none ha h1
    subst e1
    cases h2 : b.h with
    | false =>
      have e2 := fit_none hb h2
      subst e2
      cases up <;> simp [rkX, key, vcm, cmpZ, orZ]
    | true =>
      have r := fit_some hb h2
      simp only [rkX, key, h2]
      cases up <;> simp <;> omega
  | true =>
    have r1 := fit_some ha h1
    cases h2 : b.h with
    | false =>
      simp only [rkX, key, h1, h2]
      cases up <;> simp <;> omega
    | true =>
      have r2 := fit_some hb h2
      simp only [rkX, key, h1, h2, vcm, cmpZ, orZ]
      cases up <;> simp <;> (repeat' split) <;> omega
theorem key_inj (up : Bool) {a b : EX} (ha : fitB a = true) (hb : fitB b = true) (h : key up a = key up b) : a = b := by
  cases h1 : a.h with
  | false =>
    have e1 := fit_none ha h1
    subst e1
    cases h2 : b.h with
    | false => exact (fit_none hb h2).symm
    | true =>
      have r := fit_some hb h2
      simp only [key, h2] at h
      cases up <;> simp at h <;> omega
  | true =>
    have r1 := fit_some ha h1
    cases h2 : b.h with
    | false =>
      simp only [key, h1, h2] at h
      cases up <;> simp at h <;> omega
    | true =>
      have r2 := fit_some hb h2
      simp only [key, h1, h2] at h
      obtain ⟨ah, av, ao, ag⟩ := a
      obtain ⟨bh, bv, bo, bg⟩ := b
      dsimp only at *
      subst h1 h2
      have : av = bv ∧ ao = bo ∧ ag = bg := by cases up <;> simp at h <;> omega
      obtain ⟨rfl, rfl, rfl⟩ := this
      rfl
theorem hold_eq (up : Bool) {a b : EX} (ha : fitB a = true) (hb : fitB b = true) : holdX up a b = if key up b < key up a then b else a := by
  unfold holdX
  by_cases c : key up b < key up a
  · rw [if_pos c, if_pos ((rk_key up hb ha).2 c)]
  · rw [if_neg c, if_neg (fun h => c ((rk_key up hb ha).1 h))]
theorem hold_or (up : Bool) (a b : EX) : holdX up a b = a ∨ holdX up a b = b := by
  unfold holdX
  split
  · exact .inr rfl
  · exact .inl rfl
theorem hold_fit (up : Bool) {a b : EX} (ha : fitB a = true) (hb : fitB b = true) : fitB (holdX up a b) = true := by
  rcases hold_or up a b with e | e <;> rw [e] <;> assumption
theorem hold_comm (up : Bool) {a b : EX} (ha : fitB a = true) (hb : fitB b = true) : holdX up a b = holdX up b a := by
  rw [hold_eq up ha hb, hold_eq up hb ha]
  by_cases c : key up b < key up a
  · rw [if_pos c, if_neg (by omega)]
  · by_cases d : key up a < key up b
    · rw [if_neg c, if_pos d]
    · rw [if_neg c, if_neg d]
      exact key_inj up ha hb (by omega)
theorem hold_self (up : Bool) (a : EX) : holdX up a a = a := by
  rcases hold_or up a a with e | e <;> exact e
theorem hold_assoc (up : Bool) {a b c : EX} (ha : fitB a = true) (hb : fitB b = true) (hc : fitB c = true) : holdX up (holdX up a b) c = holdX up a (holdX up b c) := by
  rw [hold_eq up (hold_fit up ha hb) hc, hold_eq up ha (hold_fit up hb hc), hold_eq up ha hb, hold_eq up hb hc]
  by_cases c1 : key up b < key up a
  · rw [if_pos c1]
    by_cases c2 : key up c < key up b
    · rw [if_pos c2, if_pos (by omega)]
    · rw [if_neg c2, if_pos c1]
  · rw [if_neg c1]
    by_cases c2 : key up c < key up b
    · rw [if_pos c2]
    · rw [if_neg c2, if_neg c1, if_neg (by omega)]
theorem own_fit {id v : Int} (h1 : nodeB id = true) (h2 : flowB v = true) : fitB (ownX id v) = true := by
  simp [fitB, ownX, h1, h2, inB]
theorem old_fit {x : EX} (h : fitB x = true) : fitB (oldX x) = true := by
  unfold oldX
  split
  · exact fit_z
  · rename_i c
    have hh : x.h = true := by simpa using fun e => c (.inl e)
    have := fit_some h hh
    refine fit_of hh ?_
    dsimp only
    omega
theorem for_fit (id : Int) {x : EX} (h : fitB x = true) : fitB (forX id x) = true := by
  unfold forX
  split
  · exact fit_z
  · exact h
set_option maxRecDepth 100000 in
set_option maxHeartbeats 2000000 in
theorem holds15_any (h : Bool) (v o g : Int) (h' : Bool) (v' o' g' : Int) (w : World) (ha : fitB ⟨h, v, o, g⟩ = true) (hb : fitB ⟨h', v', o', g'⟩ = true) : Calls Tryz.prog 101 #[ex h v o g, ex h' v' o' g', .int .i64 1] w fun e w' => e = .returned (.bool (decide (rkX true ⟨h', v', o', g'⟩ ⟨h, v, o, g⟩ < 0))) ∧ Below w.heap.size w w' := by
  have M := Mem.nil w
  cases h with
  | false =>
    have e1 := fit_none ha rfl
    cases e1
    cases h' with
    | false =>
      have e2 := fit_none hb rfl
      cases e2
      clear ha hb
      go_enter Tryz.func101, Tryz.ntmps101
      go_wp2_with (first
      | ((with_reducible show wpList _ _ _ (Oper.mk (some 3) (Op.box 38 _) _ _ _ _ :: _) _ _); refine wpList_box M rfl _ rfl _ _ _ _ rfl ?_; clear M; intro k3 W M; skip)
      | ((with_reducible show wpList _ _ _ (Oper.mk (some 4) (Op.box 38 _) _ _ _ _ :: _) _ _); refine wpList_box M rfl _ rfl _ _ _ _ rfl ?_; clear M; intro k4 W M; obtain ⟨c0, c1, c2, c3⟩ := (M.get (.tail _ (.head _))).cells; obtain ⟨d0, d1, d2, d3⟩ := (M.get (.head _)).cells; dsimp only at c0 c1 c2 c3 d0 d1 d2 d3))
      go_ret
      exact ⟨ret_bool (by simp [rkX, vcm, cmpZ, orZ]), M.below⟩
    | true =>
      clear ha hb
      go_enter Tryz.func101, Tryz.ntmps101
      go_wp2_with (first
      | ((with_reducible show wpList _ _ _ (Oper.mk (some 3) (Op.box 38 _) _ _ _ _ :: _) _ _); refine wpList_box M rfl _ rfl _ _ _ _ rfl ?_; clear M; intro k3 W M; skip)
      | ((with_reducible show wpList _ _ _ (Oper.mk (some 4) (Op.box 38 _) _ _ _ _ :: _) _ _); refine wpList_box M rfl _ rfl _ _ _ _ rfl ?_; clear M; intro k4 W M; obtain ⟨c0, c1, c2, c3⟩ := (M.get (.tail _ (.head _))).cells; obtain ⟨d0, d1, d2, d3⟩ := (M.get (.head _)).cells; dsimp only at c0 c1 c2 c3 d0 d1 d2 d3))
      go_ret
      exact ⟨ret_bool (by simp [rkX]), M.below⟩
  | true =>
    cases h' with
    | false =>
      clear ha hb
      go_enter Tryz.func101, Tryz.ntmps101
      go_wp2_with (first
      | ((with_reducible show wpList _ _ _ (Oper.mk (some 3) (Op.box 38 _) _ _ _ _ :: _) _ _); refine wpList_box M rfl _ rfl _ _ _ _ rfl ?_; clear M; intro k3 W M; skip)
      | ((with_reducible show wpList _ _ _ (Oper.mk (some 4) (Op.box 38 _) _ _ _ _ :: _) _ _); refine wpList_box M rfl _ rfl _ _ _ _ rfl ?_; clear M; intro k4 W M; obtain ⟨c0, c1, c2, c3⟩ := (M.get (.tail _ (.head _))).cells; obtain ⟨d0, d1, d2, d3⟩ := (M.get (.head _)).cells; dsimp only at c0 c1 c2 c3 d0 d1 d2 d3))
      go_ret
      exact ⟨ret_bool (by simp [rkX]), M.below⟩
    | true =>
      obtain ⟨p1, p2, -⟩ := fit_some ha rfl
      obtain ⟨q1, q2, -⟩ := fit_some hb rfl
      dsimp only at p1 p2 q1 q2
      clear ha hb
      have w1 : IntKind.i64.wrap v = v := by rw [IntKind.wrap_i64]; omega
      have w2 : IntKind.i64.wrap v' = v' := by rw [IntKind.wrap_i64]; omega
      have w3 : IntKind.i64.wrap (-v) = -v := by rw [IntKind.wrap_i64]; omega
      have w4 : IntKind.i64.wrap (-v') = -v' := by rw [IntKind.wrap_i64]; omega
      have w5 : IntKind.i64.wrap (-1 * v) = -v := by rw [IntKind.wrap_i64]; omega
      have w6 : IntKind.i64.wrap (-1 * v') = -v' := by rw [IntKind.wrap_i64]; omega
      by_cases e1 : v = v'
      · subst e1
        clear w1 w2 w3 w4 w5 w6 p1 p2 q1 q2
        by_cases e2 : g = g'
        · subst e2
          go_enter Tryz.func101, Tryz.ntmps101
          go_wp2_with (first
      | ((with_reducible show wpList _ _ _ (Oper.mk (some 3) (Op.box 38 _) _ _ _ _ :: _) _ _); refine wpList_box M rfl _ rfl _ _ _ _ rfl ?_; clear M; intro k3 W M; skip)
      | ((with_reducible show wpList _ _ _ (Oper.mk (some 4) (Op.box 38 _) _ _ _ _ :: _) _ _); refine wpList_box M rfl _ rfl _ _ _ _ rfl ?_; clear M; intro k4 W M; obtain ⟨c0, c1, c2, c3⟩ := (M.get (.tail _ (.head _))).cells; obtain ⟨d0, d1, d2, d3⟩ := (M.get (.head _)).cells; dsimp only at c0 c1 c2 c3 d0 d1 d2 d3))
          go_ret
          exact ⟨ret_bool (by simp [rkX, vcm, cmpZ, orZ]; (repeat' split) <;> (try simp) <;> omega), M.below⟩
        · go_enter Tryz.func101, Tryz.ntmps101
          go_wp2_with (first
      | ((with_reducible show wpList _ _ _ (Oper.mk (some 3) (Op.box 38 _) _ _ _ _ :: _) _ _); refine wpList_box M rfl _ rfl _ _ _ _ rfl ?_; clear M; intro k3 W M; skip)
      | ((with_reducible show wpList _ _ _ (Oper.mk (some 4) (Op.box 38 _) _ _ _ _ :: _) _ _); refine wpList_box M rfl _ rfl _ _ _ _ rfl ?_; clear M; intro k4 W M; obtain ⟨c0, c1, c2, c3⟩ := (M.get (.tail _ (.head _))).cells; obtain ⟨d0, d1, d2, d3⟩ := (M.get (.head _)).cells; dsimp only at c0 c1 c2 c3 d0 d1 d2 d3))
          go_ret
          exact ⟨ret_bool (by simp [rkX, vcm, cmpZ, orZ]; (repeat' split) <;> (try simp) <;> omega), M.below⟩
      · go_enter Tryz.func101, Tryz.ntmps101
        go_wp2_with (first
      | ((with_reducible show wpList _ _ _ (Oper.mk (some 3) (Op.box 38 _) _ _ _ _ :: _) _ _); refine wpList_box M rfl _ rfl _ _ _ _ rfl ?_; clear M; intro k3 W M; skip)
      | ((with_reducible show wpList _ _ _ (Oper.mk (some 4) (Op.box 38 _) _ _ _ _ :: _) _ _); refine wpList_box M rfl _ rfl _ _ _ _ rfl ?_; clear M; intro k4 W M; obtain ⟨c0, c1, c2, c3⟩ := (M.get (.tail _ (.head _))).cells; obtain ⟨d0, d1, d2, d3⟩ := (M.get (.head _)).cells; dsimp only at c0 c1 c2 c3 d0 d1 d2 d3))
        go_ret
        exact ⟨ret_bool (by simp [rkX, vcm, cmpZ, orZ]; (repeat' split) <;> (try simp) <;> omega), M.below⟩
set_option maxRecDepth 100000 in
set_option maxHeartbeats 2000000 in
theorem rleast_any (h : Bool) (v o g : Int) (h' : Bool) (v' o' g' : Int) (w : World) (ha : fitB ⟨h, v, o, g⟩ = true) (hb : fitB ⟨h', v', o', g'⟩ = true) : Calls Tryz.prog 75 #[ex h v o g, ex h' v' o' g'] w fun e w' => e = .returned (holdX true ⟨h, v, o, g⟩ ⟨h', v', o', g'⟩).val ∧ Below w.heap.size w w' := by
  have M := Mem.nil w
  have KH := fun w => holds15_any h v o g h' v' o' g' w ha hb
  clear ha hb
  by_cases c : rkX true ⟨h', v', o', g'⟩ ⟨h, v, o, g⟩ < 0
  · rw [show holdX true ⟨h, v, o, g⟩ ⟨h', v', o', g'⟩ = ⟨h', v', o', g'⟩ from if_pos c]
    rw [decide_eq_true c] at KH
    clear c
    go_enter Tryz.func75, Tryz.ntmps75
    go_wp2_with (first
      | ((with_reducible show wpList _ _ _ (Oper.mk _ (Op.box 38 _) _ _ _ _ :: _) _ _); refine wpList_box M rfl _ rfl _ _ _ _ rfl ?_; clear M; intro k W M)
      | ((with_reducible show wpList _ _ _ (Oper.mk _ (Op.alloc 38) _ _ _ _ :: _) _ _); refine wpList_alloc M rfl rfl ?_; clear M; intro k W M)
      | ((with_reducible show wpList _ _ _ (Oper.mk _ (Op.load 38 _) _ _ _ _ :: _) _ _); refine wpList_load M rfl _ rfl rfl (by first | exact .head _ | exact .tail _ (.head _) | exact .tail _ (.tail _ (.head _))) ?_)
      | ((with_reducible show wpList _ _ _ (Oper.mk _ (Op.store 38 _ _) _ _ _ _ :: _) _ _); (first | (refine wpList_put M rfl _ _ rfl 0 _ _ _ _ rfl rfl rfl ?_)); clear M; intro W M; simp only [List.set_cons_zero, List.set_cons_succ] at M)
      | (go_at_call 101; refine (KH _).mono ?_; clear KH; rintro e w1 ⟨rfl, b1⟩; replace M := M.later b1; clear b1))
    exact bodyPost_ret (results_c rfl _ _ _ ⟨h', v', o', g'⟩ rfl (M.get (.head _))) rfl ⟨rfl, M.below⟩
  · rw [show holdX true ⟨h, v, o, g⟩ ⟨h', v', o', g'⟩ = ⟨h, v, o, g⟩ from if_neg c]
    rw [decide_eq_false c] at KH
    clear c
    go_enter Tryz.func75, Tryz.ntmps75
    go_wp2_with (first
      | ((with_reducible show wpList _ _ _ (Oper.mk _ (Op.box 38 _) _ _ _ _ :: _) _ _); refine wpList_box M rfl _ rfl _ _ _ _ rfl ?_; clear M; intro k W M)
      | ((with_reducible show wpList _ _ _ (Oper.mk _ (Op.alloc 38) _ _ _ _ :: _) _ _); refine wpList_alloc M rfl rfl ?_; clear M; intro k W M)
      | ((with_reducible show wpList _ _ _ (Oper.mk _ (Op.load 38 _) _ _ _ _ :: _) _ _); refine wpList_load M rfl _ rfl rfl (by first | exact .head _ | exact .tail _ (.head _) | exact .tail _ (.tail _ (.head _))) ?_)
      | ((with_reducible show wpList _ _ _ (Oper.mk _ (Op.store 38 _ _) _ _ _ _ :: _) _ _); (first | (refine wpList_put M rfl _ _ rfl 0 _ _ _ _ rfl rfl rfl ?_)); clear M; intro W M; simp only [List.set_cons_zero, List.set_cons_succ] at M)
      | (go_at_call 101; refine (KH _).mono ?_; clear KH; rintro e w1 ⟨rfl, b1⟩; replace M := M.later b1; clear b1))
    exact bodyPost_ret (results_c rfl _ _ _ ⟨h, v, o, g⟩ rfl (M.get (.head _))) rfl ⟨rfl, M.below⟩
set_option maxRecDepth 100000 in
set_option maxHeartbeats 2000000 in
theorem holds17_any (h : Bool) (v o g : Int) (h' : Bool) (v' o' g' : Int) (w : World) (ha : fitB ⟨h, v, o, g⟩ = true) (hb : fitB ⟨h', v', o', g'⟩ = true) : Calls Tryz.prog 101 #[ex h v o g, ex h' v' o' g', .int .i64 (-1)] w fun e w' => e = .returned (.bool (decide (rkX false ⟨h', v', o', g'⟩ ⟨h, v, o, g⟩ < 0))) ∧ Below w.heap.size w w' := by
  have M := Mem.nil w
  cases h with
  | false =>
    have e1 := fit_none ha rfl
    cases e1
    cases h' with
    | false =>
      have e2 := fit_none hb rfl
      cases e2
      clear ha hb
      go_enter Tryz.func101, Tryz.ntmps101
      go_wp2_with (first
      | ((with_reducible show wpList _ _ _ (Oper.mk (some 3) (Op.box 38 _) _ _ _ _ :: _) _ _); refine wpList_box M rfl _ rfl _ _ _ _ rfl ?_; clear M; intro k3 W M; skip)
      | ((with_reducible show wpList _ _ _ (Oper.mk (some 4) (Op.box 38 _) _ _ _ _ :: _) _ _); refine wpList_box M rfl _ rfl _ _ _ _ rfl ?_; clear M; intro k4 W M; obtain ⟨c0, c1, c2, c3⟩ := (M.get (.tail _ (.head _))).cells; obtain ⟨d0, d1, d2, d3⟩ := (M.get (.head _)).cells; dsimp only at c0 c1 c2 c3 d0 d1 d2 d3))
      go_ret
      exact ⟨ret_bool (by simp [rkX, vcm, cmpZ, orZ]), M.below⟩
    | true =>
      clear ha hb
      go_enter Tryz.func101, Tryz.ntmps101
      go_wp2_with (first
      | ((with_reducible show wpList _ _ _ (Oper.mk (some 3) (Op.box 38 _) _ _ _ _ :: _) _ _); refine wpList_box M rfl _ rfl _ _ _ _ rfl ?_; clear M; intro k3 W M; skip)
      | ((with_reducible show wpList _ _ _ (Oper.mk (some 4) (Op.box 38 _) _ _ _ _ :: _) _ _); refine wpList_box M rfl _ rfl _ _ _ _ rfl ?_; clear M; intro k4 W M; obtain ⟨c0, c1, c2, c3⟩ := (M.get (.tail _ (.head _))).cells; obtain ⟨d0, d1, d2, d3⟩ := (M.get (.head _)).cells; dsimp only at c0 c1 c2 c3 d0 d1 d2 d3))
      go_ret
      exact ⟨ret_bool (by simp [rkX]), M.below⟩
  | true =>
    cases h' with
    | false =>
      clear ha hb
      go_enter Tryz.func101, Tryz.ntmps101
      go_wp2_with (first
      | ((with_reducible show wpList _ _ _ (Oper.mk (some 3) (Op.box 38 _) _ _ _ _ :: _) _ _); refine wpList_box M rfl _ rfl _ _ _ _ rfl ?_; clear M; intro k3 W M; skip)
      | ((with_reducible show wpList _ _ _ (Oper.mk (some 4) (Op.box 38 _) _ _ _ _ :: _) _ _); refine wpList_box M rfl _ rfl _ _ _ _ rfl ?_; clear M; intro k4 W M; obtain ⟨c0, c1, c2, c3⟩ := (M.get (.tail _ (.head _))).cells; obtain ⟨d0, d1, d2, d3⟩ := (M.get (.head _)).cells; dsimp only at c0 c1 c2 c3 d0 d1 d2 d3))
      go_ret
      exact ⟨ret_bool (by simp [rkX]), M.below⟩
    | true =>
      obtain ⟨p1, p2, -⟩ := fit_some ha rfl
      obtain ⟨q1, q2, -⟩ := fit_some hb rfl
      dsimp only at p1 p2 q1 q2
      clear ha hb
      have w1 : IntKind.i64.wrap v = v := by rw [IntKind.wrap_i64]; omega
      have w2 : IntKind.i64.wrap v' = v' := by rw [IntKind.wrap_i64]; omega
      have w3 : IntKind.i64.wrap (-v) = -v := by rw [IntKind.wrap_i64]; omega
      have w4 : IntKind.i64.wrap (-v') = -v' := by rw [IntKind.wrap_i64]; omega
      have w5 : IntKind.i64.wrap (-1 * v) = -v := by rw [IntKind.wrap_i64]; omega
      have w6 : IntKind.i64.wrap (-1 * v') = -v' := by rw [IntKind.wrap_i64]; omega
      by_cases e1 : v = v'
      · subst e1
        clear w1 w2 w3 w4 w5 w6 p1 p2 q1 q2
        by_cases e2 : g = g'
        · subst e2
          go_enter Tryz.func101, Tryz.ntmps101
          go_wp2_with (first
      | ((with_reducible show wpList _ _ _ (Oper.mk (some 3) (Op.box 38 _) _ _ _ _ :: _) _ _); refine wpList_box M rfl _ rfl _ _ _ _ rfl ?_; clear M; intro k3 W M; skip)
      | ((with_reducible show wpList _ _ _ (Oper.mk (some 4) (Op.box 38 _) _ _ _ _ :: _) _ _); refine wpList_box M rfl _ rfl _ _ _ _ rfl ?_; clear M; intro k4 W M; obtain ⟨c0, c1, c2, c3⟩ := (M.get (.tail _ (.head _))).cells; obtain ⟨d0, d1, d2, d3⟩ := (M.get (.head _)).cells; dsimp only at c0 c1 c2 c3 d0 d1 d2 d3))
          go_ret
          exact ⟨ret_bool (by simp [rkX, vcm, cmpZ, orZ]; (repeat' split) <;> (try simp) <;> omega), M.below⟩
        · go_enter Tryz.func101, Tryz.ntmps101
          go_wp2_with (first
      | ((with_reducible show wpList _ _ _ (Oper.mk (some 3) (Op.box 38 _) _ _ _ _ :: _) _ _); refine wpList_box M rfl _ rfl _ _ _ _ rfl ?_; clear M; intro k3 W M; skip)
      | ((with_reducible show wpList _ _ _ (Oper.mk (some 4) (Op.box 38 _) _ _ _ _ :: _) _ _); refine wpList_box M rfl _ rfl _ _ _ _ rfl ?_; clear M; intro k4 W M; obtain ⟨c0, c1, c2, c3⟩ := (M.get (.tail _ (.head _))).cells; obtain ⟨d0, d1, d2, d3⟩ := (M.get (.head _)).cells; dsimp only at c0 c1 c2 c3 d0 d1 d2 d3))
          go_ret
          exact ⟨ret_bool (by simp [rkX, vcm, cmpZ, orZ]; (repeat' split) <;> (try simp) <;> omega), M.below⟩
      · go_enter Tryz.func101, Tryz.ntmps101
        go_wp2_with (first
      | ((with_reducible show wpList _ _ _ (Oper.mk (some 3) (Op.box 38 _) _ _ _ _ :: _) _ _); refine wpList_box M rfl _ rfl _ _ _ _ rfl ?_; clear M; intro k3 W M; skip)
      | ((with_reducible show wpList _ _ _ (Oper.mk (some 4) (Op.box 38 _) _ _ _ _ :: _) _ _); refine wpList_box M rfl _ rfl _ _ _ _ rfl ?_; clear M; intro k4 W M; obtain ⟨c0, c1, c2, c3⟩ := (M.get (.tail _ (.head _))).cells; obtain ⟨d0, d1, d2, d3⟩ := (M.get (.head _)).cells; dsimp only at c0 c1 c2 c3 d0 d1 d2 d3))
        go_ret
        exact ⟨ret_bool (by simp [rkX, vcm, cmpZ, orZ]; (repeat' split) <;> (try simp) <;> omega), M.below⟩
set_option maxRecDepth 100000 in
set_option maxHeartbeats 2000000 in
theorem rgreat_any (h : Bool) (v o g : Int) (h' : Bool) (v' o' g' : Int) (w : World) (ha : fitB ⟨h, v, o, g⟩ = true) (hb : fitB ⟨h', v', o', g'⟩ = true) : Calls Tryz.prog 78 #[ex h v o g, ex h' v' o' g'] w fun e w' => e = .returned (holdX false ⟨h, v, o, g⟩ ⟨h', v', o', g'⟩).val ∧ Below w.heap.size w w' := by
  have M := Mem.nil w
  have KH := fun w => holds17_any h v o g h' v' o' g' w ha hb
  clear ha hb
  by_cases c : rkX false ⟨h', v', o', g'⟩ ⟨h, v, o, g⟩ < 0
  · rw [show holdX false ⟨h, v, o, g⟩ ⟨h', v', o', g'⟩ = ⟨h', v', o', g'⟩ from if_pos c]
    rw [decide_eq_true c] at KH
    clear c
    go_enter Tryz.func78, Tryz.ntmps78
    go_wp2_with (first
      | ((with_reducible show wpList _ _ _ (Oper.mk _ (Op.box 38 _) _ _ _ _ :: _) _ _); refine wpList_box M rfl _ rfl _ _ _ _ rfl ?_; clear M; intro k W M)
      | ((with_reducible show wpList _ _ _ (Oper.mk _ (Op.alloc 38) _ _ _ _ :: _) _ _); refine wpList_alloc M rfl rfl ?_; clear M; intro k W M)
      | ((with_reducible show wpList _ _ _ (Oper.mk _ (Op.load 38 _) _ _ _ _ :: _) _ _); refine wpList_load M rfl _ rfl rfl (by first | exact .head _ | exact .tail _ (.head _) | exact .tail _ (.tail _ (.head _))) ?_)
      | ((with_reducible show wpList _ _ _ (Oper.mk _ (Op.store 38 _ _) _ _ _ _ :: _) _ _); (first | (refine wpList_put M rfl _ _ rfl 0 _ _ _ _ rfl rfl rfl ?_)); clear M; intro W M; simp only [List.set_cons_zero, List.set_cons_succ] at M)
      | (go_at_call 101; refine (KH _).mono ?_; clear KH; rintro e w1 ⟨rfl, b1⟩; replace M := M.later b1; clear b1))
    exact bodyPost_ret (results_c rfl _ _ _ ⟨h', v', o', g'⟩ rfl (M.get (.head _))) rfl ⟨rfl, M.below⟩
  · rw [show holdX false ⟨h, v, o, g⟩ ⟨h', v', o', g'⟩ = ⟨h, v, o, g⟩ from if_neg c]
    rw [decide_eq_false c] at KH
    clear c
    go_enter Tryz.func78, Tryz.ntmps78
    go_wp2_with (first
      | ((with_reducible show wpList _ _ _ (Oper.mk _ (Op.box 38 _) _ _ _ _ :: _) _ _); refine wpList_box M rfl _ rfl _ _ _ _ rfl ?_; clear M; intro k W M)
      | ((with_reducible show wpList _ _ _ (Oper.mk _ (Op.alloc 38) _ _ _ _ :: _) _ _); refine wpList_alloc M rfl rfl ?_; clear M; intro k W M)
      | ((with_reducible show wpList _ _ _ (Oper.mk _ (Op.load 38 _) _ _ _ _ :: _) _ _); refine wpList_load M rfl _ rfl rfl (by first | exact .head _ | exact .tail _ (.head _) | exact .tail _ (.tail _ (.head _))) ?_)
      | ((with_reducible show wpList _ _ _ (Oper.mk _ (Op.store 38 _ _) _ _ _ _ :: _) _ _); (first | (refine wpList_put M rfl _ _ rfl 0 _ _ _ _ rfl rfl rfl ?_)); clear M; intro W M; simp only [List.set_cons_zero, List.set_cons_succ] at M)
      | (go_at_call 101; refine (KH _).mono ?_; clear KH; rintro e w1 ⟨rfl, b1⟩; replace M := M.later b1; clear b1))
    exact bodyPost_ret (results_c rfl _ _ _ ⟨h, v, o, g⟩ rfl (M.get (.head _))) rfl ⟨rfl, M.below⟩
end Go.Proofs.YtoeebofappbneaaGreat.E
