/-
  What the law DeriveRises returns.
-/
import Derived.Test.YtiigmohnmkgfoaaDoorDJ
namespace Go.Proofs.YtiigmohnmkgfoaaDoor
open Go.ChangeShapes Go.WideShapes Go.ChangeAt Go.RowKit
set_option linter.unusedVariables false
set_option linter.unusedSimpArgs false

set_option maxRecDepth 100000 in
set_option maxHeartbeats 4000000 in
theorem rises_ne_a (e f s ln ld le hn hd he : Int) (w : World) (ht : Tab w) (h1 : (le != 0) = true) (KL : ∀ W, Calls Tryd.prog 8 #[.int .i64 (min e f), .int .i64 s] W fun en w' => en = .returned (.tuple #[fr ln ld, .int .i64 le]) ∧ Below W.heap.size W w') (KH : ∀ W, Calls Tryd.prog 8 #[.int .i64 (max e f), .int .i64 s] W fun en w' => en = .returned (.tuple #[fr hn hd, .int .i64 he]) ∧ Below W.heap.size W w') : Calls Tryd.prog 7 #[.int .i64 e, .int .i64 f, .int .i64 s] w fun en w' => en = .returned (.bool true) ∧ Below w.heap.size w w' := by
  have M := Mem.nil w
  go_enter Tryd.func7, Tryd.ntmps7
  go_wp2_with (first
    | (go_at_call 8; refine (KL _).mono ?_; clear KL; rintro en W1 ⟨rfl, bb⟩; replace M := M.later bb; clear bb)
    | ((with_reducible show wpList _ _ _ (Oper.mk (some 7) (Op.alloc 23) _ _ _ _ :: _) _ _); refine wpList_alloc M rfl rfl rt23 ?_; clear M; intro k7 W M)
    | ((with_reducible show wpList _ _ _ (Oper.mk _ (Op.store 23 (Operand.tmp 7) (Operand.tmp 19)) _ _ _ _ :: _) _ _); (first | (refine wpList_put M rfl _ _ rfl rt23 0 #[.int .i64 ln, .int .i64 ld] rfl rfl rfl rfl rfl (by simp [Value.oneCell']) ?_)); clear M; intro W M; simp only [List.set_cons_zero, List.set_cons_succ] at M)
    | (go_at_call 8; refine (KH _).mono ?_; clear KH; rintro en W1 ⟨rfl, bb⟩; replace M := M.later bb; clear bb)
    | ((with_reducible show wpList _ _ _ (Oper.mk (some 9) (Op.alloc 23) _ _ _ _ :: _) _ _); refine wpList_alloc M rfl rfl rt23 ?_; clear M; intro k9 W M)
    | ((with_reducible show wpList _ _ _ (Oper.mk _ (Op.store 23 (Operand.tmp 9) (Operand.tmp 27)) _ _ _ _ :: _) _ _); (first | (refine wpList_put M rfl _ _ rfl rt23 0 #[.int .i64 hn, .int .i64 hd] rfl rfl rfl rfl rfl (by simp [Value.oneCell']) ?_)); clear M; intro W M; simp only [List.set_cons_zero, List.set_cons_succ] at M)
    | (go_at_call 16; refine (awake_any _ (ht.below M.below)).mono ?_; rintro en W1 ⟨rfl, bb⟩; replace M := M.later bb; clear bb))
  go_ret
  exact ⟨rfl, M.below⟩

set_option maxRecDepth 100000 in
set_option maxHeartbeats 4000000 in
theorem rises_ne_b (e f s ln ld le hn hd he : Int) (w : World) (ht : Tab w) (h1 : (he != 0) = true) (KL : ∀ W, Calls Tryd.prog 8 #[.int .i64 (min e f), .int .i64 s] W fun en w' => en = .returned (.tuple #[fr ln ld, .int .i64 0]) ∧ Below W.heap.size W w') (KH : ∀ W, Calls Tryd.prog 8 #[.int .i64 (max e f), .int .i64 s] W fun en w' => en = .returned (.tuple #[fr hn hd, .int .i64 he]) ∧ Below W.heap.size W w') : Calls Tryd.prog 7 #[.int .i64 e, .int .i64 f, .int .i64 s] w fun en w' => en = .returned (.bool true) ∧ Below w.heap.size w w' := by
  have M := Mem.nil w
  go_enter Tryd.func7, Tryd.ntmps7
  go_wp2_with (first
    | (go_at_call 8; refine (KL _).mono ?_; clear KL; rintro en W1 ⟨rfl, bb⟩; replace M := M.later bb; clear bb)
    | ((with_reducible show wpList _ _ _ (Oper.mk (some 7) (Op.alloc 23) _ _ _ _ :: _) _ _); refine wpList_alloc M rfl rfl rt23 ?_; clear M; intro k7 W M)
    | ((with_reducible show wpList _ _ _ (Oper.mk _ (Op.store 23 (Operand.tmp 7) (Operand.tmp 19)) _ _ _ _ :: _) _ _); (first | (refine wpList_put M rfl _ _ rfl rt23 0 #[.int .i64 ln, .int .i64 ld] rfl rfl rfl rfl rfl (by simp [Value.oneCell']) ?_)); clear M; intro W M; simp only [List.set_cons_zero, List.set_cons_succ] at M)
    | (go_at_call 8; refine (KH _).mono ?_; clear KH; rintro en W1 ⟨rfl, bb⟩; replace M := M.later bb; clear bb)
    | ((with_reducible show wpList _ _ _ (Oper.mk (some 9) (Op.alloc 23) _ _ _ _ :: _) _ _); refine wpList_alloc M rfl rfl rt23 ?_; clear M; intro k9 W M)
    | ((with_reducible show wpList _ _ _ (Oper.mk _ (Op.store 23 (Operand.tmp 9) (Operand.tmp 27)) _ _ _ _ :: _) _ _); (first | (refine wpList_put M rfl _ _ rfl rt23 0 #[.int .i64 hn, .int .i64 hd] rfl rfl rfl rfl rfl (by simp [Value.oneCell']) ?_)); clear M; intro W M; simp only [List.set_cons_zero, List.set_cons_succ] at M)
    | (go_at_call 16; refine (awake_any _ (ht.below M.below)).mono ?_; rintro en W1 ⟨rfl, bb⟩; replace M := M.later bb; clear bb))
  go_ret
  exact ⟨rfl, M.below⟩

set_option maxRecDepth 100000 in
set_option maxHeartbeats 4000000 in
theorem rises_ne_c1 (e f s ln ld hn hd n x m y c : Int) (w : World) (ht : Tab w) (h1 : (x != 0) = true) (d : (e != f) = true) (g : Hid (ln = hn → ld = hd → False)) (hc : ¬ 0 < c) (KL : ∀ W, Calls Tryd.prog 8 #[.int .i64 (min e f), .int .i64 s] W fun en w' => en = .returned (.tuple #[fr ln ld, .int .i64 0]) ∧ Below W.heap.size W w') (KH : ∀ W, Calls Tryd.prog 8 #[.int .i64 (max e f), .int .i64 s] W fun en w' => en = .returned (.tuple #[fr hn hd, .int .i64 0]) ∧ Below W.heap.size W w') (VL : ∀ W, Calls Tryd.prog 21 #[fr ln ld] W fun en w' => en = .returned (.bool true) ∧ Below W.heap.size W w') (VH : ∀ W, Calls Tryd.prog 21 #[fr hn hd] W fun en w' => en = .returned (.bool true) ∧ Below W.heap.size W w') (KC : ∀ W, Calls Tryd.prog 22 #[fr ln ld, fr hn hd] W fun en w' => en = .returned (.int .i64 c) ∧ Below W.heap.size W w') (CL : ∀ W, Calls Tryd.prog 10 #[.int .i64 (min e f), .int .i64 s] W fun en w' => en = .returned (.tuple #[.int .i64 n, .int .i64 x]) ∧ Below W.heap.size W w') (CH : ∀ W, Calls Tryd.prog 10 #[.int .i64 (max e f), .int .i64 s] W fun en w' => en = .returned (.tuple #[.int .i64 m, .int .i64 y]) ∧ Below W.heap.size W w') : Calls Tryd.prog 7 #[.int .i64 e, .int .i64 f, .int .i64 s] w fun en w' => en = .returned (.bool true) ∧ Below w.heap.size w w' := by
  have M := Mem.nil w
  go_enter Tryd.func7, Tryd.ntmps7
  go_wp2_with (first
    | (go_at_call 8; refine (KL _).mono ?_; clear KL; rintro en W1 ⟨rfl, bb⟩; replace M := M.later bb; clear bb)
    | ((with_reducible show wpList _ _ _ (Oper.mk (some 7) (Op.alloc 23) _ _ _ _ :: _) _ _); refine wpList_alloc M rfl rfl rt23 ?_; clear M; intro k7 W M)
    | ((with_reducible show wpList _ _ _ (Oper.mk _ (Op.store 23 (Operand.tmp 7) (Operand.tmp 19)) _ _ _ _ :: _) _ _); (first | (refine wpList_put M rfl _ _ rfl rt23 0 #[.int .i64 ln, .int .i64 ld] rfl rfl rfl rfl rfl (by simp [Value.oneCell']) ?_)); clear M; intro W M; simp only [List.set_cons_zero, List.set_cons_succ] at M)
    | (go_at_call 8; refine (KH _).mono ?_; clear KH; rintro en W1 ⟨rfl, bb⟩; replace M := M.later bb; clear bb)
    | ((with_reducible show wpList _ _ _ (Oper.mk (some 9) (Op.alloc 23) _ _ _ _ :: _) _ _); refine wpList_alloc M rfl rfl rt23 ?_; clear M; intro k9 W M)
    | ((with_reducible show wpList _ _ _ (Oper.mk _ (Op.store 23 (Operand.tmp 9) (Operand.tmp 27)) _ _ _ _ :: _) _ _); (first | (refine wpList_put M rfl _ _ rfl rt23 0 #[.int .i64 hn, .int .i64 hd] rfl rfl rfl rfl rfl (by simp [Value.oneCell']) ?_)); clear M; intro W M; simp only [List.set_cons_zero, List.set_cons_succ] at M)
    | ((with_reducible show wpList _ _ _ (Oper.mk (some 36) (Op.load 23 _) _ _ _ _ :: _) _ _); refine wpList_load M (by rfl) _ rfl rt23 rfl (by first | exact .head _ | exact .tail _ (.head _)) (by rfl) ?_)
    | (go_at_call 21; refine (VL _).mono ?_; clear VL; rintro en W1 ⟨rfl, bb⟩; replace M := M.later bb; clear bb)
    | ((with_reducible show wpList _ _ _ (Oper.mk (some 40) (Op.load 23 _) _ _ _ _ :: _) _ _); refine wpList_load M (by rfl) _ rfl rt23 rfl (by first | exact .head _ | exact .tail _ (.head _)) (by rfl) ?_)
    | (go_at_call 21; refine (VH _).mono ?_; clear VH; rintro en W1 ⟨rfl, bb⟩; replace M := M.later bb; clear bb)
    | ((with_reducible show wpList _ _ _ (Oper.mk (some 45) (Op.load 23 _) _ _ _ _ :: _) _ _); refine wpList_load M (by rfl) _ rfl rt23 rfl (by first | exact .head _ | exact .tail _ (.head _)) (by rfl) ?_)
    | ((with_reducible show wpList _ _ _ (Oper.mk (some 46) (Op.load 23 _) _ _ _ _ :: _) _ _); refine wpList_load M (by rfl) _ rfl rt23 rfl (by first | exact .head _ | exact .tail _ (.head _)) (by rfl) ?_)
    | (go_at_call 22; refine (KC _).mono ?_; clear KC; rintro en W1 ⟨rfl, bb⟩; replace M := M.later bb; clear bb)
    | ((with_reducible show wpList _ _ _ (Oper.mk (some 55) (Op.load 23 _) _ _ _ _ :: _) _ _); refine wpList_load M (by rfl) _ rfl rt23 rfl (by first | exact .head _ | exact .tail _ (.head _)) (by rfl) ?_)
    | ((with_reducible show wpList _ _ _ (Oper.mk (some 56) (Op.load 23 _) _ _ _ _ :: _) _ _); refine wpList_load M (by rfl) _ rfl rt23 rfl (by first | exact .head _ | exact .tail _ (.head _)) (by rfl) ?_)
    | (go_at_call 10; refine (CL _).mono ?_; clear CL; rintro en W1 ⟨rfl, bb⟩; replace M := M.later bb; clear bb)
    | (go_at_call 10; refine (CH _).mono ?_; clear CH; rintro en W1 ⟨rfl, bb⟩; replace M := M.later bb; clear bb)
    | (go_at_call 16; refine (awake_any _ (ht.below M.below)).mono ?_; rintro en W1 ⟨rfl, bb⟩; replace M := M.later bb; clear bb))
  all_goals (try exact (g.out (by assumption) (by assumption)).elim)
  all_goals (go_ret; exact ⟨rfl, M.below⟩)

set_option maxRecDepth 100000 in
set_option maxHeartbeats 4000000 in
theorem rises_ne_c2 (e f s ln ld hn hd n x m y c : Int) (w : World) (ht : Tab w) (h1 : (x != 0) = false) (h2 : (y != 0) = true) (d : (e != f) = true) (g : Hid (ln = hn → ld = hd → False)) (hc : ¬ 0 < c) (KL : ∀ W, Calls Tryd.prog 8 #[.int .i64 (min e f), .int .i64 s] W fun en w' => en = .returned (.tuple #[fr ln ld, .int .i64 0]) ∧ Below W.heap.size W w') (KH : ∀ W, Calls Tryd.prog 8 #[.int .i64 (max e f), .int .i64 s] W fun en w' => en = .returned (.tuple #[fr hn hd, .int .i64 0]) ∧ Below W.heap.size W w') (VL : ∀ W, Calls Tryd.prog 21 #[fr ln ld] W fun en w' => en = .returned (.bool true) ∧ Below W.heap.size W w') (VH : ∀ W, Calls Tryd.prog 21 #[fr hn hd] W fun en w' => en = .returned (.bool true) ∧ Below W.heap.size W w') (KC : ∀ W, Calls Tryd.prog 22 #[fr ln ld, fr hn hd] W fun en w' => en = .returned (.int .i64 c) ∧ Below W.heap.size W w') (CL : ∀ W, Calls Tryd.prog 10 #[.int .i64 (min e f), .int .i64 s] W fun en w' => en = .returned (.tuple #[.int .i64 n, .int .i64 x]) ∧ Below W.heap.size W w') (CH : ∀ W, Calls Tryd.prog 10 #[.int .i64 (max e f), .int .i64 s] W fun en w' => en = .returned (.tuple #[.int .i64 m, .int .i64 y]) ∧ Below W.heap.size W w') : Calls Tryd.prog 7 #[.int .i64 e, .int .i64 f, .int .i64 s] w fun en w' => en = .returned (.bool true) ∧ Below w.heap.size w w' := by
  have M := Mem.nil w
  go_enter Tryd.func7, Tryd.ntmps7
  go_wp2_with (first
    | (go_at_call 8; refine (KL _).mono ?_; clear KL; rintro en W1 ⟨rfl, bb⟩; replace M := M.later bb; clear bb)
    | ((with_reducible show wpList _ _ _ (Oper.mk (some 7) (Op.alloc 23) _ _ _ _ :: _) _ _); refine wpList_alloc M rfl rfl rt23 ?_; clear M; intro k7 W M)
    | ((with_reducible show wpList _ _ _ (Oper.mk _ (Op.store 23 (Operand.tmp 7) (Operand.tmp 19)) _ _ _ _ :: _) _ _); (first | (refine wpList_put M rfl _ _ rfl rt23 0 #[.int .i64 ln, .int .i64 ld] rfl rfl rfl rfl rfl (by simp [Value.oneCell']) ?_)); clear M; intro W M; simp only [List.set_cons_zero, List.set_cons_succ] at M)
    | (go_at_call 8; refine (KH _).mono ?_; clear KH; rintro en W1 ⟨rfl, bb⟩; replace M := M.later bb; clear bb)
    | ((with_reducible show wpList _ _ _ (Oper.mk (some 9) (Op.alloc 23) _ _ _ _ :: _) _ _); refine wpList_alloc M rfl rfl rt23 ?_; clear M; intro k9 W M)
    | ((with_reducible show wpList _ _ _ (Oper.mk _ (Op.store 23 (Operand.tmp 9) (Operand.tmp 27)) _ _ _ _ :: _) _ _); (first | (refine wpList_put M rfl _ _ rfl rt23 0 #[.int .i64 hn, .int .i64 hd] rfl rfl rfl rfl rfl (by simp [Value.oneCell']) ?_)); clear M; intro W M; simp only [List.set_cons_zero, List.set_cons_succ] at M)
    | ((with_reducible show wpList _ _ _ (Oper.mk (some 36) (Op.load 23 _) _ _ _ _ :: _) _ _); refine wpList_load M (by rfl) _ rfl rt23 rfl (by first | exact .head _ | exact .tail _ (.head _)) (by rfl) ?_)
    | (go_at_call 21; refine (VL _).mono ?_; clear VL; rintro en W1 ⟨rfl, bb⟩; replace M := M.later bb; clear bb)
    | ((with_reducible show wpList _ _ _ (Oper.mk (some 40) (Op.load 23 _) _ _ _ _ :: _) _ _); refine wpList_load M (by rfl) _ rfl rt23 rfl (by first | exact .head _ | exact .tail _ (.head _)) (by rfl) ?_)
    | (go_at_call 21; refine (VH _).mono ?_; clear VH; rintro en W1 ⟨rfl, bb⟩; replace M := M.later bb; clear bb)
    | ((with_reducible show wpList _ _ _ (Oper.mk (some 45) (Op.load 23 _) _ _ _ _ :: _) _ _); refine wpList_load M (by rfl) _ rfl rt23 rfl (by first | exact .head _ | exact .tail _ (.head _)) (by rfl) ?_)
    | ((with_reducible show wpList _ _ _ (Oper.mk (some 46) (Op.load 23 _) _ _ _ _ :: _) _ _); refine wpList_load M (by rfl) _ rfl rt23 rfl (by first | exact .head _ | exact .tail _ (.head _)) (by rfl) ?_)
    | (go_at_call 22; refine (KC _).mono ?_; clear KC; rintro en W1 ⟨rfl, bb⟩; replace M := M.later bb; clear bb)
    | ((with_reducible show wpList _ _ _ (Oper.mk (some 55) (Op.load 23 _) _ _ _ _ :: _) _ _); refine wpList_load M (by rfl) _ rfl rt23 rfl (by first | exact .head _ | exact .tail _ (.head _)) (by rfl) ?_)
    | ((with_reducible show wpList _ _ _ (Oper.mk (some 56) (Op.load 23 _) _ _ _ _ :: _) _ _); refine wpList_load M (by rfl) _ rfl rt23 rfl (by first | exact .head _ | exact .tail _ (.head _)) (by rfl) ?_)
    | (go_at_call 10; refine (CL _).mono ?_; clear CL; rintro en W1 ⟨rfl, bb⟩; replace M := M.later bb; clear bb)
    | (go_at_call 10; refine (CH _).mono ?_; clear CH; rintro en W1 ⟨rfl, bb⟩; replace M := M.later bb; clear bb)
    | (go_at_call 16; refine (awake_any _ (ht.below M.below)).mono ?_; rintro en W1 ⟨rfl, bb⟩; replace M := M.later bb; clear bb))
  all_goals (try exact (g.out (by assumption) (by assumption)).elim)
  all_goals (go_ret; exact ⟨rfl, M.below⟩)

set_option maxRecDepth 100000 in
set_option maxHeartbeats 4000000 in
theorem rises_ne_c3 (e f s ln ld hn hd n x m y c : Int) (w : World) (ht : Tab w) (h1 : (x != 0) = false) (h2 : (y != 0) = false) (h3 : m ≤ n) (d : (e != f) = true) (g : Hid (ln = hn → ld = hd → False)) (hc : ¬ 0 < c) (KL : ∀ W, Calls Tryd.prog 8 #[.int .i64 (min e f), .int .i64 s] W fun en w' => en = .returned (.tuple #[fr ln ld, .int .i64 0]) ∧ Below W.heap.size W w') (KH : ∀ W, Calls Tryd.prog 8 #[.int .i64 (max e f), .int .i64 s] W fun en w' => en = .returned (.tuple #[fr hn hd, .int .i64 0]) ∧ Below W.heap.size W w') (VL : ∀ W, Calls Tryd.prog 21 #[fr ln ld] W fun en w' => en = .returned (.bool true) ∧ Below W.heap.size W w') (VH : ∀ W, Calls Tryd.prog 21 #[fr hn hd] W fun en w' => en = .returned (.bool true) ∧ Below W.heap.size W w') (KC : ∀ W, Calls Tryd.prog 22 #[fr ln ld, fr hn hd] W fun en w' => en = .returned (.int .i64 c) ∧ Below W.heap.size W w') (CL : ∀ W, Calls Tryd.prog 10 #[.int .i64 (min e f), .int .i64 s] W fun en w' => en = .returned (.tuple #[.int .i64 n, .int .i64 x]) ∧ Below W.heap.size W w') (CH : ∀ W, Calls Tryd.prog 10 #[.int .i64 (max e f), .int .i64 s] W fun en w' => en = .returned (.tuple #[.int .i64 m, .int .i64 y]) ∧ Below W.heap.size W w') : Calls Tryd.prog 7 #[.int .i64 e, .int .i64 f, .int .i64 s] w fun en w' => en = .returned (.bool true) ∧ Below w.heap.size w w' := by
  have M := Mem.nil w
  go_enter Tryd.func7, Tryd.ntmps7
  go_wp2_with (first
    | (go_at_call 8; refine (KL _).mono ?_; clear KL; rintro en W1 ⟨rfl, bb⟩; replace M := M.later bb; clear bb)
    | ((with_reducible show wpList _ _ _ (Oper.mk (some 7) (Op.alloc 23) _ _ _ _ :: _) _ _); refine wpList_alloc M rfl rfl rt23 ?_; clear M; intro k7 W M)
    | ((with_reducible show wpList _ _ _ (Oper.mk _ (Op.store 23 (Operand.tmp 7) (Operand.tmp 19)) _ _ _ _ :: _) _ _); (first | (refine wpList_put M rfl _ _ rfl rt23 0 #[.int .i64 ln, .int .i64 ld] rfl rfl rfl rfl rfl (by simp [Value.oneCell']) ?_)); clear M; intro W M; simp only [List.set_cons_zero, List.set_cons_succ] at M)
    | (go_at_call 8; refine (KH _).mono ?_; clear KH; rintro en W1 ⟨rfl, bb⟩; replace M := M.later bb; clear bb)
    | ((with_reducible show wpList _ _ _ (Oper.mk (some 9) (Op.alloc 23) _ _ _ _ :: _) _ _); refine wpList_alloc M rfl rfl rt23 ?_; clear M; intro k9 W M)
    | ((with_reducible show wpList _ _ _ (Oper.mk _ (Op.store 23 (Operand.tmp 9) (Operand.tmp 27)) _ _ _ _ :: _) _ _); (first | (refine wpList_put M rfl _ _ rfl rt23 0 #[.int .i64 hn, .int .i64 hd] rfl rfl rfl rfl rfl (by simp [Value.oneCell']) ?_)); clear M; intro W M; simp only [List.set_cons_zero, List.set_cons_succ] at M)
    | ((with_reducible show wpList _ _ _ (Oper.mk (some 36) (Op.load 23 _) _ _ _ _ :: _) _ _); refine wpList_load M (by rfl) _ rfl rt23 rfl (by first | exact .head _ | exact .tail _ (.head _)) (by rfl) ?_)
    | (go_at_call 21; refine (VL _).mono ?_; clear VL; rintro en W1 ⟨rfl, bb⟩; replace M := M.later bb; clear bb)
    | ((with_reducible show wpList _ _ _ (Oper.mk (some 40) (Op.load 23 _) _ _ _ _ :: _) _ _); refine wpList_load M (by rfl) _ rfl rt23 rfl (by first | exact .head _ | exact .tail _ (.head _)) (by rfl) ?_)
    | (go_at_call 21; refine (VH _).mono ?_; clear VH; rintro en W1 ⟨rfl, bb⟩; replace M := M.later bb; clear bb)
    | ((with_reducible show wpList _ _ _ (Oper.mk (some 45) (Op.load 23 _) _ _ _ _ :: _) _ _); refine wpList_load M (by rfl) _ rfl rt23 rfl (by first | exact .head _ | exact .tail _ (.head _)) (by rfl) ?_)
    | ((with_reducible show wpList _ _ _ (Oper.mk (some 46) (Op.load 23 _) _ _ _ _ :: _) _ _); refine wpList_load M (by rfl) _ rfl rt23 rfl (by first | exact .head _ | exact .tail _ (.head _)) (by rfl) ?_)
    | (go_at_call 22; refine (KC _).mono ?_; clear KC; rintro en W1 ⟨rfl, bb⟩; replace M := M.later bb; clear bb)
    | ((with_reducible show wpList _ _ _ (Oper.mk (some 55) (Op.load 23 _) _ _ _ _ :: _) _ _); refine wpList_load M (by rfl) _ rfl rt23 rfl (by first | exact .head _ | exact .tail _ (.head _)) (by rfl) ?_)
    | ((with_reducible show wpList _ _ _ (Oper.mk (some 56) (Op.load 23 _) _ _ _ _ :: _) _ _); refine wpList_load M (by rfl) _ rfl rt23 rfl (by first | exact .head _ | exact .tail _ (.head _)) (by rfl) ?_)
    | (go_at_call 10; refine (CL _).mono ?_; clear CL; rintro en W1 ⟨rfl, bb⟩; replace M := M.later bb; clear bb)
    | (go_at_call 10; refine (CH _).mono ?_; clear CH; rintro en W1 ⟨rfl, bb⟩; replace M := M.later bb; clear bb)
    | (go_at_call 16; refine (awake_any _ (ht.below M.below)).mono ?_; rintro en W1 ⟨rfl, bb⟩; replace M := M.later bb; clear bb))
  all_goals (try exact (g.out (by assumption) (by assumption)).elim)
  all_goals (go_ret; exact ⟨rfl, M.below⟩)
end Go.Proofs.YtiigmohnmkgfoaaDoor
