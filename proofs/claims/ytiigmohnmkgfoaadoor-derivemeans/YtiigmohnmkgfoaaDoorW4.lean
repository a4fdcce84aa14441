/-
  What the law DeriveMeans returns.
-/
import Derived.Test.YtiigmohnmkgfoaaDoorDJ
namespace Go.Proofs.YtiigmohnmkgfoaaDoor
open Go.ChangeShapes Go.WideShapes Go.ChangeAt Go.RowKit
set_option linter.unusedVariables false
set_option linter.unusedSimpArgs false

theorem valid_one {x : Int} (h : fitB x = true) : validB x 1 = true := by
  have := fitB_t h
  unfold Sm at this
  unfold validB mkG
  rw [decide_eq_true_eq]
  refine ⟨by omega, by omega, this.1, this.2, ?_⟩
  show Nat.gcd (sz x) 1 = 1
  exact Nat.gcd_one_right _
/-- What is a whole number times a scale stands for that number. -/
theorem mea_whole {y s : Int} (hs : scB s 1048576 = true) (hy : fitB y = true) (hp : fitB (y * s) = true) : meaN (y * s) s = y ∧ meaD (y * s) s = 1 ∧ meaE (y * s) s = 0 := by
  have h : chkE (y * s) s = 0 := by unfold chkE; rw [if_pos hs, if_pos hp]
  have h1 := scB_t hs
  obtain ⟨a, b, c⟩ := mk_ratio (n := y * s) (d := s) (n' := y) (d' := 1) (by omega) (by omega) (by rw [Int.mul_one])
  obtain ⟨a', b', c'⟩ := mk_self (valid_one hy)
  unfold meaN meaD meaE
  rw [if_pos h, if_pos h, if_pos h]
  exact ⟨a.trans a', b.trans b', c.trans c'⟩
theorem var_none {x : Int} (hx : fitB x = true) (hq : fitB (x * x) = true) : varN (x * x) 1 x 1 = 0 ∧ varD (x * x) 1 x 1 = 1 ∧ varE (x * x) 1 x 1 = 0 := by
  obtain ⟨a, b, c⟩ := mk_self (valid_one hq)
  have v1 := valid_one hq
  have v2 := valid_one hx
  obtain ⟨a0, b0, c0⟩ := mk_self (n := 0) (d := 1) (valid_one (by decide))
  have e1 : x * x * 1 - x * x * 1 = 0 := by omega
  have vv : validB (x * x) 1 = true ∧ validB x 1 = true := ⟨v1, v2⟩
  have e2 : x * x - x * x = 0 := by omega
  unfold varN varD varE
  simp only [if_pos vv, Int.mul_one, c, a, b, if_true, e2, a0, b0, c0, and_self]

set_option maxRecDepth 100000 in
set_option maxHeartbeats 4000000 in
theorem means_a (x s iv ie qv qe : Int) (w : World) (ht : Tab w) (h1 : (ie == 0) = false) (h2 : (ie != 0) = true) (KI1 : ∀ W, Calls Tryd.prog 12 #[.int .i64 1, .int .i64 x, .int .i64 s] W fun en w' => en = .returned (.tuple #[.int .i64 iv, .int .i64 ie]) ∧ Below W.heap.size W w') (KI3 : ∀ W, Calls Tryd.prog 12 #[.int .i64 3, .int .i64 x, .int .i64 s] W fun en w' => en = .returned (.tuple #[.int .i64 qv, .int .i64 qe]) ∧ Below W.heap.size W w') : Calls Tryd.prog 6 #[.int .i64 x, .int .i64 s] w fun en w' => en = .returned (.bool true) ∧ Below w.heap.size w w' := by
  have M := Mem.nil w
  go_enter Tryd.func6, Tryd.ntmps6
  go_wp2_with (first
    | (go_at_call 12; refine (KI1 _).mono ?_; clear KI1; rintro en W1 ⟨rfl, bb⟩; replace M := M.later bb; clear bb)
    | (go_at_call 12; refine (KI3 _).mono ?_; clear KI3; rintro en W1 ⟨rfl, bb⟩; replace M := M.later bb; clear bb)
    | (go_at_call 16; refine (awake_any _ (ht.below M.below)).mono ?_; rintro en W1 ⟨rfl, bb⟩; replace M := M.later bb; clear bb))
  go_ret
  exact ⟨rfl, M.below⟩

set_option maxRecDepth 100000 in
set_option maxHeartbeats 4000000 in
theorem means_b (x s iv qv qe : Int) (w : World) (ht : Tab w) (h1 : (qe != 0) = true) (KI1 : ∀ W, Calls Tryd.prog 12 #[.int .i64 1, .int .i64 x, .int .i64 s] W fun en w' => en = .returned (.tuple #[.int .i64 iv, .int .i64 0]) ∧ Below W.heap.size W w') (KI3 : ∀ W, Calls Tryd.prog 12 #[.int .i64 3, .int .i64 x, .int .i64 s] W fun en w' => en = .returned (.tuple #[.int .i64 qv, .int .i64 qe]) ∧ Below W.heap.size W w') (KM : ∀ W, Calls Tryd.prog 8 #[.int .i64 iv, .int .i64 s] W fun en w' => en = .returned (.tuple #[fr (x) 1, .int .i64 0]) ∧ Below W.heap.size W w') : Calls Tryd.prog 6 #[.int .i64 x, .int .i64 s] w fun en w' => en = .returned (.bool true) ∧ Below w.heap.size w w' := by
  have M := Mem.nil w
  go_enter Tryd.func6, Tryd.ntmps6
  go_wp2_with (first
    | (go_at_call 12; refine (KI1 _).mono ?_; clear KI1; rintro en W1 ⟨rfl, bb⟩; replace M := M.later bb; clear bb)
    | (go_at_call 8; refine (KM _).mono ?_; clear KM; rintro en W1 ⟨rfl, bb⟩; replace M := M.later bb; clear bb)
    | ((with_reducible show wpList _ _ _ (Oper.mk (some 7) (Op.alloc 23) _ _ _ _ :: _) _ _); refine wpList_alloc M rfl rfl rt23 ?_; clear M; intro k7 W M)
    | ((with_reducible show wpList _ _ _ (Oper.mk _ (Op.store 23 (Operand.tmp 7) (Operand.tmp 29)) _ _ _ _ :: _) _ _); (first | (refine wpList_put M rfl _ _ rfl rt23 0 #[.int .i64 x, .int .i64 1] rfl rfl rfl rfl rfl (by simp [Value.oneCell']) ?_)); clear M; intro W M; simp only [List.set_cons_zero, List.set_cons_succ] at M)
    | ((with_reducible show wpList _ _ _ (Oper.mk (some 34) (Op.load 23 _) _ _ _ _ :: _) _ _); refine wpList_load M (by rfl) _ rfl rt23 rfl (by first | exact .head _ | exact .tail _ (.head _) | exact .tail _ (.tail _ (.head _)) | exact .tail _ (.tail _ (.tail _ (.head _)))) (by rfl) ?_)
    | (go_at_call 12; refine (KI3 _).mono ?_; clear KI3; rintro en W1 ⟨rfl, bb⟩; replace M := M.later bb; clear bb)
    | (go_at_call 16; refine (awake_any _ (ht.below M.below)).mono ?_; rintro en W1 ⟨rfl, bb⟩; replace M := M.later bb; clear bb))
  go_ret
  exact ⟨rfl, M.below⟩

set_option maxRecDepth 100000 in
set_option maxHeartbeats 4000000 in
theorem means_c (x s iv qv z : Int) (w : World) (ht : Tab w) (KI1 : ∀ W, Calls Tryd.prog 12 #[.int .i64 1, .int .i64 x, .int .i64 s] W fun en w' => en = .returned (.tuple #[.int .i64 iv, .int .i64 0]) ∧ Below W.heap.size W w') (KI3 : ∀ W, Calls Tryd.prog 12 #[.int .i64 3, .int .i64 x, .int .i64 s] W fun en w' => en = .returned (.tuple #[.int .i64 qv, .int .i64 0]) ∧ Below W.heap.size W w') (KM : ∀ W, Calls Tryd.prog 8 #[.int .i64 iv, .int .i64 s] W fun en w' => en = .returned (.tuple #[fr (x) 1, .int .i64 0]) ∧ Below W.heap.size W w') (KN : ∀ W, Calls Tryd.prog 8 #[.int .i64 qv, .int .i64 s] W fun en w' => en = .returned (.tuple #[fr (z) 1, .int .i64 0]) ∧ Below W.heap.size W w') (KO : ∀ W, Calls Tryd.prog 8 #[.int .i64 iv, .int .i64 s] W fun en w' => en = .returned (.tuple #[fr (x) 1, .int .i64 0]) ∧ Below W.heap.size W w') (KV : ∀ W, Calls Tryd.prog 19 #[fr z 1, fr x 1] W fun en w' => en = .returned (.tuple #[fr 0 1, .int .i64 0]) ∧ Below W.heap.size W w') : Calls Tryd.prog 6 #[.int .i64 x, .int .i64 s] w fun en w' => en = .returned (.bool true) ∧ Below w.heap.size w w' := by
  have M := Mem.nil w
  go_enter Tryd.func6, Tryd.ntmps6
  go_wp2_with (first
    | (go_at_call 12; refine (KI1 _).mono ?_; clear KI1; rintro en W1 ⟨rfl, bb⟩; replace M := M.later bb; clear bb)
    | (go_at_call 8; refine (KM _).mono ?_; clear KM; rintro en W1 ⟨rfl, bb⟩; replace M := M.later bb; clear bb)
    | ((with_reducible show wpList _ _ _ (Oper.mk (some 7) (Op.alloc 23) _ _ _ _ :: _) _ _); refine wpList_alloc M rfl rfl rt23 ?_; clear M; intro k7 W M)
    | ((with_reducible show wpList _ _ _ (Oper.mk _ (Op.store 23 (Operand.tmp 7) (Operand.tmp 29)) _ _ _ _ :: _) _ _); (first | (refine wpList_put M rfl _ _ rfl rt23 0 #[.int .i64 x, .int .i64 1] rfl rfl rfl rfl rfl (by simp [Value.oneCell']) ?_)); clear M; intro W M; simp only [List.set_cons_zero, List.set_cons_succ] at M)
    | ((with_reducible show wpList _ _ _ (Oper.mk (some 34) (Op.load 23 _) _ _ _ _ :: _) _ _); refine wpList_load M (by rfl) _ rfl rt23 rfl (by first | exact .head _ | exact .tail _ (.head _) | exact .tail _ (.tail _ (.head _)) | exact .tail _ (.tail _ (.tail _ (.head _)))) (by rfl) ?_)
    | (go_at_call 12; refine (KI3 _).mono ?_; clear KI3; rintro en W1 ⟨rfl, bb⟩; replace M := M.later bb; clear bb)
    | (go_at_call 8; refine (KN _).mono ?_; clear KN; rintro en W1 ⟨rfl, bb⟩; replace M := M.later bb; clear bb)
    | ((with_reducible show wpList _ _ _ (Oper.mk (some 11) (Op.alloc 23) _ _ _ _ :: _) _ _); refine wpList_alloc M rfl rfl rt23 ?_; clear M; intro k11 W M)
    | ((with_reducible show wpList _ _ _ (Oper.mk _ (Op.store 23 (Operand.tmp 11) (Operand.tmp 56)) _ _ _ _ :: _) _ _); (first | (refine wpList_put M rfl _ _ rfl rt23 0 #[.int .i64 z, .int .i64 1] rfl rfl rfl rfl rfl (by simp [Value.oneCell']) ?_)); clear M; intro W M; simp only [List.set_cons_zero, List.set_cons_succ] at M)
    | (go_at_call 8; refine (KO _).mono ?_; clear KO; rintro en W1 ⟨rfl, bb⟩; replace M := M.later bb; clear bb)
    | ((with_reducible show wpList _ _ _ (Oper.mk (some 13) (Op.alloc 23) _ _ _ _ :: _) _ _); refine wpList_alloc M rfl rfl rt23 ?_; clear M; intro k13 W M)
    | ((with_reducible show wpList _ _ _ (Oper.mk _ (Op.store 23 (Operand.tmp 13) (Operand.tmp 62)) _ _ _ _ :: _) _ _); (first | (refine wpList_put M rfl _ _ rfl rt23 0 #[.int .i64 x, .int .i64 1] rfl rfl rfl rfl rfl (by simp [Value.oneCell']) ?_)); clear M; intro W M; simp only [List.set_cons_zero, List.set_cons_succ] at M)
    | ((with_reducible show wpList _ _ _ (Oper.mk (some 65) (Op.load 23 _) _ _ _ _ :: _) _ _); refine wpList_load M (by rfl) _ rfl rt23 rfl (by first | exact .head _ | exact .tail _ (.head _) | exact .tail _ (.tail _ (.head _)) | exact .tail _ (.tail _ (.tail _ (.head _)))) (by rfl) ?_)
    | ((with_reducible show wpList _ _ _ (Oper.mk (some 66) (Op.load 23 _) _ _ _ _ :: _) _ _); refine wpList_load M (by rfl) _ rfl rt23 rfl (by first | exact .head _ | exact .tail _ (.head _) | exact .tail _ (.tail _ (.head _)) | exact .tail _ (.tail _ (.tail _ (.head _)))) (by rfl) ?_)
    | (go_at_call 19; refine (KV _).mono ?_; clear KV; rintro en W1 ⟨rfl, bb⟩; replace M := M.later bb; clear bb)
    | ((with_reducible show wpList _ _ _ (Oper.mk (some 15) (Op.alloc 23) _ _ _ _ :: _) _ _); refine wpList_alloc M rfl rfl rt23 ?_; clear M; intro k15 W M)
    | ((with_reducible show wpList _ _ _ (Oper.mk _ (Op.store 23 (Operand.tmp 15) (Operand.tmp 68)) _ _ _ _ :: _) _ _); (first | (refine wpList_put M rfl _ _ rfl rt23 0 #[.int .i64 0, .int .i64 1] rfl rfl rfl rfl rfl (by simp [Value.oneCell']) ?_)); clear M; intro W M; simp only [List.set_cons_zero, List.set_cons_succ] at M)
    | ((with_reducible show wpList _ _ _ (Oper.mk (some 81) (Op.load 23 _) _ _ _ _ :: _) _ _); refine wpList_load M (by rfl) _ rfl rt23 rfl (by first | exact .head _ | exact .tail _ (.head _) | exact .tail _ (.tail _ (.head _)) | exact .tail _ (.tail _ (.tail _ (.head _)))) (by rfl) ?_)
    | (go_at_call 16; refine (awake_any _ (ht.below M.below)).mono ?_; rintro en W1 ⟨rfl, bb⟩; replace M := M.later bb; clear bb))
  go_ret
  exact ⟨rfl, M.below⟩

theorem means_walk (x s : Int) (w : World) (ht : Tab w) : Calls Tryd.prog 6 #[.int .i64 x, .int .i64 s] w fun en w' => en = .returned (.bool true) ∧ Below w.heap.size w w' := by
  have KI1 := fun W => input1_any x s W
  have KI3 := fun W => input3_any x s W
  by_cases h1 : (if scB s 1048576 = true then mulE x s else 47) = 0
  · have hs : scB s 1048576 = true := by
      cases h : scB s 1048576 with
      | true => rfl
      | false => rw [h, if_neg (by decide)] at h1; cases h1
    rw [if_pos hs] at h1
    have hm : fitB x = true ∧ fitB s = true ∧ fitB (x * s) = true := by
      unfold mulE at h1
      split at h1
      · assumption
      · cases h1
    have hv : mulV x s = x * s := if_pos h1
    simp only [hs, h1, hv, if_true] at KI1 KI3
    obtain ⟨a1, a2, a3⟩ := mea_whole hs hm.1 hm.2.2
    have KM := fun W => mean_any (x * s) s W
    simp only [meaV, a1, a2, a3] at KM
    by_cases h2 : sqrE x s = 0
    · have hq : fitB (x * x) = true ∧ fitB (x * x * s) = true := by
        unfold sqrE at h2
        split at h2
        · rename_i h3
          unfold mulE at h2 h3
          split at h2
          · rename_i h4
            exact ⟨h4.1, h4.2.2⟩
          · cases h2
        · cases h2
      have hqv : sqrV x s = x * x * s := if_pos h2
      simp only [h2, hqv] at KI3
      obtain ⟨b1, b2, b3⟩ := mea_whole hs hq.1 hq.2
      have KN := fun W => mean_any (x * x * s) s W
      simp only [meaV, b1, b2, b3] at KN
      obtain ⟨c1, c2, c3⟩ := var_none hm.1 hq.1
      have i1 := sm_i64 (fitB_t hm.1)
      have i2 := sm_i64 (fitB_t hq.1)
      have KV := fun W => variance_any (x * x) 1 x 1 W i2 (by unfold I64; omega) i1 (by unfold I64; omega)
      simp only [varT, c1, c2, c3] at KV
      exact means_c x s (x * s) (x * x * s) (x * x) w ht KI1 KI3 KM KN KM KV
    · exact means_b x s (x * s) (sqrV x s) (sqrE x s) w ht (by simp [h2]) KI1 KI3 KM
  · exact means_a x s _ _ _ _ w ht (by simp [h1]) (by simp [h1]) KI1 KI3
end Go.Proofs.YtiigmohnmkgfoaaDoor
