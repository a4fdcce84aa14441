/-
  Package shake: the small functions.
-/
import Derived.Test.YteoiogjaecpddaaMS
import Derived.Test.YteoiogjaecpddaaIS
import Derived.Test.YteoiogjaecpddaaC2
import Derived.Test.YteoiogjaecpddaaHeldIn
namespace Go.Proofs.Yteoiogjaecpddaa
open Go.ChangeShapes Go.WideShapes Go.ChangeAt Go.RowKit
set_option linter.unusedVariables false
set_option linter.unusedSimpArgs false

/-- The first incarnation is later than the second one. -/
def ltr (b l ob ol : Int) : Bool := decide (ob < b) || (decide (b = ob) && decide (ol < l))
theorem ltr_iff {b l ob ol : Int} : ltr b l ob ol = true ↔ ob < b ∨ (b = ob ∧ ol < l) := by simp [ltr]
theorem ltr_no {b l ob ol : Int} : ltr b l ob ol = false ↔ ¬ (ob < b ∨ (b = ob ∧ ol < l)) := by
  rw [← ltr_iff]
  simp
theorem knode_any (n : Int) (w : World) : Calls Try.prog 14 #[.int .i64 n] w fun e w' => e = .returned (.bool (nodeB n)) ∧ w' = w := by
  go_enter Try.func14, Try.ntmps14
  go_wp2
  all_goals go_ret
  all_goals exact ⟨ret_bool (by rw [Bool.eq_iff_iff]; simp_all [nodeB] <;> omega), rfl⟩
theorem isNode_any (n : Int) (w : World) : Calls Try.prog 39 #[.int .i64 n] w fun e w' => e = .returned (.bool (nodeB n)) ∧ w' = w := by
  go_enter Try.func39, Try.ntmps39
  go_wp2
  all_goals go_ret
  all_goals exact ⟨ret_bool (by rw [Bool.eq_iff_iff]; simp_all [nodeB] <;> omega), rfl⟩
theorem snode_any (n : Int) (w : World) : Calls Try.prog 40 #[.int .i64 n] w fun e w' => e = .returned (.bool (nodeB n)) ∧ w' = w := by
  go_enter Try.func40, Try.ntmps40
  go_wp2
  all_goals go_ret
  all_goals exact ⟨ret_bool (by rw [Bool.eq_iff_iff]; simp_all [nodeB] <;> omega), rfl⟩
theorem kwithin_any (x lo hi : Int) (w : World) : Calls Try.prog 15 #[.int .i64 x, .int .i64 lo, .int .i64 hi] w fun e w' => e = .returned (.bool (inB lo x hi)) ∧ w' = w := by
  go_enter Try.func15, Try.ntmps15
  go_wp2
  all_goals go_ret
  all_goals exact ⟨ret_bool (by rw [Bool.eq_iff_iff]; simp_all [inB] <;> omega), rfl⟩
theorem within_any (x m : Int) (w : World) : Calls Try.prog 57 #[.int .i64 x, .int .i64 m] w fun e w' => e = .returned (.bool (inB 0 x m)) ∧ w' = w := by
  go_enter Try.func57, Try.ntmps57
  go_wp2
  all_goals go_ret
  all_goals exact ⟨ret_bool (by rw [Bool.eq_iff_iff]; simp_all [inB] <;> omega), rfl⟩
theorem rlater_any (b l ob ol : Int) (w : World) : Calls Try.prog 12 #[.int .i64 b, .int .i64 l, .int .i64 ob, .int .i64 ol] w fun e w' => e = .returned (.bool (ltr b l ob ol)) ∧ w' = w := by
  go_enter Try.func12, Try.ntmps12
  go_wp2
  all_goals go_ret
  all_goals exact ⟨ret_bool (by rw [Bool.eq_iff_iff]; simp_all [ltr] <;> omega), rfl⟩
theorem plater_any (b l ob ol : Int) (w : World) : Calls Try.prog 41 #[.agg #[.int .i64 b, .int .i64 l], .agg #[.int .i64 ob, .int .i64 ol]] w fun e w' => e = .returned (.bool (ltr b l ob ol)) ∧ Below w.heap.size w w' := by
  go_enter Try.func41, Try.ntmps41
  go_wp2
  all_goals go_ret
  all_goals exact ⟨ret_bool (by rw [Bool.eq_iff_iff]; simp_all [ltr] <;> omega), ((Below.refl _ _).alloc (Nat.le_refl _) _).alloc (by simp) _⟩
theorem later_any (b l ob ol : Int) (w : World) : Calls Try.prog 11 #[.int .i64 b, .int .i64 l, .int .i64 ob, .int .i64 ol] w fun e w' => e = .returned (.bool (ltr b l ob ol)) ∧ Below w.heap.size w w' := by
  have K := plater_any b l ob ol w
  go_enter Try.func11, Try.ntmps11
  go_wp2_with (go_at_call 41; refine K.mono ?_; rintro e w1 ⟨rfl, b1⟩)
  go_ret
  exact ⟨rfl, b1⟩
theorem load_61 {w : World} {g : Nat} {x y z : Value} (h : w.heap[g]? = some (.cells #[x, y, z] 61 (0, 0))) : (loadVar 61 ⟨g, 0, none⟩).run Try.prog w = .ok (.agg #[x, y, z]) w :=
  run_loadVar_row (P := Try.prog) w g 61 61 #[x, y, z] (0, 0) _ h Try.underlying61 rfl (by show _ = some 3; kernel_rfl)
theorem latest_any (x : SN) (w : World) : Calls Try.prog 51 #[x.val] w fun e w' => e = .returned (.agg #[.int .i64 x.peer, .int .i64 x.boot, .int .i64 x.life]) ∧ Below w.heap.size w w' := by
  obtain ⟨peer, boot, life, mine⟩ := x
  dsimp only [SN.val]
  go_enter Try.func51, Try.ntmps51
  go_wp2
  refine bodyPost_ret (results_row1 rfl _ _ (w.heap.size + 1) _ rfl (load_61 (heap_new (by simp)))) rfl ⟨rfl, ((Below.refl _ _).alloc (Nat.le_refl _) _).alloc (by simp) _⟩
theorem noted_any (a : Option Addr) (n cap : Nat) (w : World) : Calls Try.prog 37 #[.slice a n cap] w fun e w' => e = .returned (.func (.func 56) #[] #[.pointer (some ⟨w.heap.size, 0, none⟩)]) ∧ w' = w.alloc (.cells #[.slice a n cap] 22) := by
  have hmf : ∀ (fn : Fn) (first cap : Array Value) (w : World), (Instr.makeFunc fn first cap).run Try.prog w = .ok (.func fn first cap) w := fun _ _ _ _ => rfl
  go_enter Try.func37, Try.ntmps37
  go_wp2
  go_ret
  exact ⟨rfl, rfl⟩
section
variable {ops : Array Oper} {rest : List Oper} {o : Oper} {A : Act} {W : World} {Q : Exit → Act → World → Prop} {F : Fence} {n : Nat}
theorem wpListIn_load33x (hgd : o.guard = none) (x : Operand) (ho : o.op = .load 33 x) (g off : Nat) (p b l m : Int) (hx : A.eval x = .pointer (some ⟨g, off, none⟩)) (hc : W.rangeAt g off (SN.cells ⟨p, b, l, m⟩))
    (h : wpListIn F n Try.prog ops Q rest (A.put o.dst (.agg #[.int .i64 p, .int .i64 b, .int .i64 l, .int .i64 m])) W) : wpListIn F n Try.prog ops Q (o :: rest) A W := wpListIn_load33 hgd x ho g off ⟨p, b, l, m⟩ hx hc h
theorem wpList_load33x (hgd : o.guard = none) (x : Operand) (ho : o.op = .load 33 x) (g off : Nat) (p b l m : Int) (hx : A.eval x = .pointer (some ⟨g, off, none⟩)) (hc : W.rangeAt g off (SN.cells ⟨p, b, l, m⟩))
    (h : wpList Try.prog ops Q rest (A.put o.dst (.agg #[.int .i64 p, .int .i64 b, .int .i64 l, .int .i64 m])) W) : wpList Try.prog ops Q (o :: rest) A W := wpList_load33 hgd x ho g off ⟨p, b, l, m⟩ hx hc h
end
end Go.Proofs.Yteoiogjaecpddaa
