/-
  Package derive: how a kind is told, a table of functions.
-/
import Derived.Test.YtiigmohnmkgfoaaDoorX0
namespace Go.Proofs.YtiigmohnmkgfoaaDoor
open Go.ChangeShapes Go.WideShapes Go.ChangeAt Go.RowKit
set_option linter.unusedVariables false
set_option linter.unusedSimpArgs false

theorem results_c {P : Program} {fn : Func} {p : Tmp} {t : TypeId} (h : fn.results = #[.cell p t]) (tmps : Array Value) (w : World) (g : Nat) (v : Value)
    (hp : tmps.getD p undef = .pointer (some ⟨g, 0, none⟩)) (h1 : (loadVar t ⟨g, 0, none⟩).run P w = .ok v w) :
    (results fn tmps).run P w = .ok v w := by
  have hp' : tmps[p]?.getD undef = .pointer (some ⟨g, 0, none⟩) := by simpa using hp
  simp [results, h, hp', asAddr, h1]
abbrev fnv (n : Nat) : Value := .func (.func n) #[] #[]
abbrev clo (k : Nat) : Value := .func (.func 60) #[] #[.pointer (some ⟨k, 0, none⟩)]
def meanS : ByteArray := ⟨#[109, 101, 97, 110, 32]⟩
def secS : ByteArray := ⟨#[115, 101, 99, 111, 110, 100, 32]⟩
def cntS : ByteArray := ⟨#[99, 111, 117, 110, 116, 32]⟩
abbrev tabT (k1 k2 : Nat) : Array Value := #[.int .i64 0, .nilFunc, .nilFunc, .int .i64 1048576, fnv 50, clo k1, .int .i64 1048576, fnv 52, fnv 53, .int .i64 1048576, fnv 54, clo k2, .int .i64 1, fnv 50, .nilFunc]
theorem index1 (k1 k2 : Nat) (W : World) : (Instr.index 64 (.agg (tabT k1 k2)) (.int .i64 1)).run Tryd.prog W = .ok (.agg #[.int .i64 1048576, fnv 50, clo k1]) W := by kernel_rfl
theorem index2 (k1 k2 : Nat) (W : World) : (Instr.index 64 (.agg (tabT k1 k2)) (.int .i64 2)).run Tryd.prog W = .ok (.agg #[.int .i64 1048576, fnv 52, fnv 53]) W := by kernel_rfl
theorem index3 (k1 k2 : Nat) (W : World) : (Instr.index 64 (.agg (tabT k1 k2)) (.int .i64 3)).run Tryd.prog W = .ok (.agg #[.int .i64 1048576, fnv 54, clo k2]) W := by kernel_rfl
theorem index4 (k1 k2 : Nat) (W : World) : (Instr.index 64 (.agg (tabT k1 k2)) (.int .i64 4)).run Tryd.prog W = .ok (.agg #[.int .i64 1, fnv 50, .nilFunc]) W := by kernel_rfl
section
variable {N : Nat} {C : Nat → Prop} {w W : World} {l : List Blk}
theorem fraction_any (M : MemG N C w W l) (s : ByteArray) : Calls Tryd.prog 51 #[.string s] W fun e W' => ∃ k, e = .returned (clo k) ∧ MemG N C w W' ((k, #[.string s], 9) :: l) := by
  have M2 := M.add #[.string s] 9
  go_enter Tryd.func51, Tryd.ntmps51
  go_wp2
  go_ret
  exact ⟨W.heap.size, rfl, M2⟩
set_option maxRecDepth 100000 in
set_option maxHeartbeats 4000000 in
theorem tellings_any (M : MemG N C w W l) : Calls Tryd.prog 46 #[] W fun e W' => ∃ k1 k2, e = .returned (.agg (tabT k1 k2)) ∧ MemG N C w W' ((k2, #[.string secS], 9) :: (k1, #[.string meanS], 9) :: l) := by
  go_enter Tryd.func46, Tryd.ntmps46
  go_wp2_with (first
      | ((with_reducible show wpList _ _ _ (Oper.mk (some 0) (Op.alloc 64) _ _ _ _ :: _) _ _); refine wpList_alloc M rfl rfl rt64 ?_; clear M; intro k0 W M)
      | (go_at_call 51; refine (fraction_any M meanS).mono ?_; clear M; rintro e W1 ⟨k1, rfl, M1⟩)
      | (go_at_call 51; refine (fraction_any M1 secS).mono ?_; clear M1; rintro e W2 ⟨k2, rfl, M⟩)
      | ((with_reducible show wpList _ _ _ (Oper.mk _ (Op.store 64 _ _) _ _ _ _ :: _) _ _); (first | (refine wpList_put M rfl _ _ rfl rt64 2 (tabT k1 k2) rfl rfl rfl rfl rfl (by simp [Value.oneCell']) ?_)); clear M; intro W M; simp only [List.set_cons_zero, List.set_cons_succ] at M))
  refine bodyPost_ret (results_c rfl _ _ k0 _ rfl (load_row (M.get (.tail _ (.tail _ (.head _)))) rt64 rfl)) rfl ⟨k1, k2, rfl, ?_⟩
  exact M.sub (.cons_cons _ (.cons_cons _ (.cons _ (List.Sublist.refl _))))
end
end Go.Proofs.YtiigmohnmkgfoaaDoor
