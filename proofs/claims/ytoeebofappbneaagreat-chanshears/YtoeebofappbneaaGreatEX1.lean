/-
  Package ext: what the calls on numbers return; Fit, the document's too.
-/
import Derived.Test.YtoeebofappbneaaGreatEX0
namespace Go.Proofs.YtoeebofappbneaaGreat.E
open Go.ChangeShapes Go.WideShapes Go.ChangeAt Go.RowKit
set_option linter.unusedVariables false
set_option linter.unusedSimpArgs false

def inB (x a b : Int) : Bool := decide (a ≤ x ∧ x ≤ b)
def nodeB (n : Int) : Bool := decide (0 ≤ n ∧ n < 16)
def flowB (x : Int) : Bool := decide (-2147483647 ≤ x ∧ x ≤ 2147483647)
def cmpZ (a b : Int) : Int := if a < b then -1 else if b < a then 1 else 0
/-- An extreme value that is one. -/
def fitB (x : EX) : Bool := if x.h = true then (flowB x.v && (nodeB x.o && inB x.g 0 63)) else sameX x EX.z
def ownX (id v : Int) : EX := ⟨true, v, id, 0⟩
def oldX (x : EX) : EX := if x.h = false ∨ 63 ≤ x.g then EX.z else ⟨x.h, x.v, x.o, x.g + 1⟩
def forX (id : Int) (x : EX) : EX := if x.o = id then EX.z else x
theorem fit_none {x : EX} (h : fitB x = true) (hh : x.h = false) : x = EX.z := by
  unfold fitB at h
  rw [hh] at h
  exact (sameX_eq _ _).1 (by simpa using h)
theorem fit_some {x : EX} (h : fitB x = true) (hh : x.h = true) : -2147483647 ≤ x.v ∧ x.v ≤ 2147483647 ∧ 0 ≤ x.o ∧ x.o < 16 ∧ 0 ≤ x.g ∧ x.g ≤ 63 := by
  unfold fitB at h
  rw [hh] at h
  simp [flowB, nodeB, inB] at h
  omega
theorem fit_of {x : EX} (hh : x.h = true) (h : -2147483647 ≤ x.v ∧ x.v ≤ 2147483647 ∧ 0 ≤ x.o ∧ x.o < 16 ∧ 0 ≤ x.g ∧ x.g ≤ 63) : fitB x = true := by
  unfold fitB
  rw [hh]
  simp [flowB, nodeB, inB]
  omega
theorem fit_z : fitB EX.z = true := by simp [fitB, sameX]
theorem in26_any (x a b : Int) (w : World) : Calls Tryz.prog 103 #[.int .i64 x, .int .i64 a, .int .i64 b] w fun e w' => e = .returned (.bool (inB x a b)) ∧ w' = w := by
  by_cases c : a ≤ x
  · by_cases d : x ≤ b
    all_goals
      go_enter Tryz.func103, Tryz.ntmps103
      go_wp2
      go_ret
      exact ⟨ret_bool (by simp [inB]; omega), rfl⟩
  · go_enter Tryz.func103, Tryz.ntmps103
    go_wp2
    go_ret
    exact ⟨ret_bool (by simp [inB]; omega), rfl⟩
theorem in27_any (x a b : Int) (w : World) : Calls Tryz.prog 104 #[.int .i64 x, .int .i64 a, .int .i64 b] w fun e w' => e = .returned (.bool (inB x a b)) ∧ w' = w := by
  by_cases c : a ≤ x
  · by_cases d : x ≤ b
    all_goals
      go_enter Tryz.func104, Tryz.ntmps104
      go_wp2
      go_ret
      exact ⟨ret_bool (by simp [inB]; omega), rfl⟩
  · go_enter Tryz.func104, Tryz.ntmps104
    go_wp2
    go_ret
    exact ⟨ret_bool (by simp [inB]; omega), rfl⟩
theorem nan39_any (x : Int) (w : World) : Calls Tryz.prog 112 #[.int .i64 x] w fun e w' => e = .returned (.bool false) ∧ w' = w := by
  go_enter Tryz.func112, Tryz.ntmps112
  go_wp2
  go_ret
  exact ⟨ret_bool (by simp), rfl⟩
theorem cmp31_any (x y : Int) (w : World) : Calls Tryz.prog 99 #[.int .i64 x, .int .i64 y] w fun e w' => e = .returned (.int .i64 (cmpZ x y)) ∧ w' = w := by
  by_cases c : x < y
  · go_enter Tryz.func99, Tryz.ntmps99
    go_wp2_with (go_at_call 112; refine (nan39_any _ _).mono ?_; rintro e wx ⟨rfl, hw⟩; rw [hw]; clear hw wx)
    go_ret
    exact ⟨ret_i64 (by simp [cmpZ, c]), rfl⟩
  · by_cases d : y < x
    all_goals
      go_enter Tryz.func99, Tryz.ntmps99
      go_wp2_with (go_at_call 112; refine (nan39_any _ _).mono ?_; rintro e wx ⟨rfl, hw⟩; rw [hw]; clear hw wx)
      go_ret
      exact ⟨ret_i64 (by unfold cmpZ; split <;> (try split) <;> omega), rfl⟩
theorem nan40_any (x : Int) (w : World) : Calls Tryz.prog 118 #[.int .i64 x] w fun e w' => e = .returned (.bool false) ∧ w' = w := by
  go_enter Tryz.func118, Tryz.ntmps118
  go_wp2
  go_ret
  exact ⟨ret_bool (by simp), rfl⟩
theorem cmp38_any (x y : Int) (w : World) : Calls Tryz.prog 111 #[.int .i64 x, .int .i64 y] w fun e w' => e = .returned (.int .i64 (cmpZ x y)) ∧ w' = w := by
  by_cases c : x < y
  · go_enter Tryz.func111, Tryz.ntmps111
    go_wp2_with (go_at_call 118; refine (nan40_any _ _).mono ?_; rintro e wx ⟨rfl, hw⟩; rw [hw]; clear hw wx)
    go_ret
    exact ⟨ret_i64 (by simp [cmpZ, c]), rfl⟩
  · by_cases d : y < x
    all_goals
      go_enter Tryz.func111, Tryz.ntmps111
      go_wp2_with (go_at_call 118; refine (nan40_any _ _).mono ?_; rintro e wx ⟨rfl, hw⟩; rw [hw]; clear hw wx)
      go_ret
      exact ⟨ret_i64 (by unfold cmpZ; split <;> (try split) <;> omega), rfl⟩
theorem val30_any (x y : Int) (w : World) : Calls Tryz.prog 98 #[.int .i64 x, .int .i64 y] w fun e w' => e = .returned (.int .i64 (cmpZ x y)) ∧ w' = w := by
  go_enter Tryz.func98, Tryz.ntmps98
  go_wp2_with (go_at_call 99; refine (cmp31_any _ _ _).mono ?_; rintro e wx ⟨rfl, hw⟩; rw [hw]; clear hw wx)
  go_ret
  exact ⟨rfl, rfl⟩
theorem val33_any (x y : Int) (w : World) : Calls Tryz.prog 100 #[.int .i64 x, .int .i64 y] w fun e w' => e = .returned (.int .i64 (cmpZ y x)) ∧ w' = w := by
  go_enter Tryz.func100, Tryz.ntmps100
  go_wp2_with (go_at_call 99; refine (cmp31_any _ _ _).mono ?_; rintro e wx ⟨rfl, hw⟩; rw [hw]; clear hw wx)
  go_ret
  exact ⟨rfl, rfl⟩
set_option maxRecDepth 100000 in
set_option maxHeartbeats 2000000 in
theorem own11_any (id v : Int) (w : World) : Calls Tryz.prog 70 #[.int .i64 id, .int .i64 v] w fun e w' => e = .returned (ownX id v).val ∧ Below w.heap.size w w' := by
  have M := Mem.nil w
  go_enter Tryz.func70, Tryz.ntmps70
  go_wp2_with (first
      | ((with_reducible show wpList _ _ _ (Oper.mk _ (Op.alloc 38) _ _ _ _ :: _) _ _); refine wpList_alloc M rfl rfl ?_; clear M; intro k W M)
      | ((with_reducible show wpList _ _ _ (Oper.mk _ (Op.store 38 _ _) _ _ _ _ :: _) _ _); first | (refine wpList_put M rfl _ _ rfl 0 _ _ _ _ rfl rfl rfl ?_); clear M; intro W M; simp only [List.set_cons_zero, List.set_cons_succ] at M))
  exact bodyPost_ret (results_c rfl _ _ _ ⟨true, v, id, 0⟩ rfl (M.get (.head _))) rfl ⟨rfl, M.below⟩
set_option maxRecDepth 100000 in
set_option maxHeartbeats 2000000 in
theorem own12_any (id v : Int) (w : World) : Calls Tryz.prog 77 #[.int .i64 id, .int .i64 v] w fun e w' => e = .returned (ownX id v).val ∧ Below w.heap.size w w' := by
  have M := Mem.nil w
  go_enter Tryz.func77, Tryz.ntmps77
  go_wp2_with (first
      | ((with_reducible show wpList _ _ _ (Oper.mk _ (Op.alloc 38) _ _ _ _ :: _) _ _); refine wpList_alloc M rfl rfl ?_; clear M; intro k W M)
      | ((with_reducible show wpList _ _ _ (Oper.mk _ (Op.store 38 _ _) _ _ _ _ :: _) _ _); first | (refine wpList_put M rfl _ _ rfl 0 _ _ _ _ rfl rfl rfl ?_); clear M; intro W M; simp only [List.set_cons_zero, List.set_cons_succ] at M))
  exact bodyPost_ret (results_c rfl _ _ _ ⟨true, v, id, 0⟩ rfl (M.get (.head _))) rfl ⟨rfl, M.below⟩
end Go.Proofs.YtoeebofappbneaaGreat.E
