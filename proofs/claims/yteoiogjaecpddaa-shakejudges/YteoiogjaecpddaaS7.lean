/-
  Package shake: lists joined into one of one's own; put.
-/
import Derived.Test.YteoiogjaecpddaaS6
namespace Go.Proofs.Yteoiogjaecpddaa
open Go.ChangeShapes Go.WideShapes Go.ChangeAt Go.RowKit
set_option linter.unusedVariables false
set_option linter.unusedSimpArgs false

set_option maxRecDepth 100000 in
set_option maxHeartbeats 8000000 in
theorem concat_any (a1 : Option Addr) (n1 c1 : Nat) (l1 : List SN) (g : Nat) (s : SN) (a3 : Option Addr) (n3 c3 : Nat) (l3 : List SN) (q : Nat) (w : World) (R1 : RdS w a1 n1 c1 l1) (R2 : RdS w (some ⟨g, 0, none⟩) 1 1 [s]) (R3 : RdS w a3 n3 c3 l3)
    (T : w.heap[q]? = some (.cells #[.slice a1 n1 c1, .slice (some ⟨g, 0, none⟩) 1 1, .slice a3 n3 c3] 22 (0, 0))) (hn : n1 + 1 + n3 ≤ 65536) :
    Calls Try.prog 58 #[.slice (some ⟨q, 0, none⟩) 3 3] w fun e w' => ∃ v, e = .returned v ∧ w'.ownsRow w.heap.size 33 4 v (n1 + 1 + n3) (csS (l1 ++ [s] ++ l3)) ∧ Below w.heap.size w w' := by
  have t0 : w.cell? ⟨q, 0, none⟩ = some (.slice a1 n1 c1) := row_cell T 0 _ rfl
  have t1 : w.cell? ⟨q, 1, none⟩ = some (.slice (some ⟨g, 0, none⟩) 1 1) := row_cell T 1 _ rfl
  have t2 : w.cell? ⟨q, 2, none⟩ = some (.slice a3 n3 c3) := row_cell T 2 _ rfl
  have KC : ∀ W, Below w.heap.size w W → W.cell? ⟨q, 0, none⟩ = some (.slice a1 n1 c1) ∧ W.cell? ⟨q, 1, none⟩ = some (.slice (some ⟨g, 0, none⟩) 1 1) ∧ W.cell? ⟨q, 2, none⟩ = some (.slice a3 n3 c3) := fun W h =>
    have T' := (h.block q (row_lt T)).trans T
    ⟨row_cell T' 0 _ rfl, row_cell T' 1 _ rfl, row_cell T' 2 _ rfl⟩
  have HN : Hid (n1 + 1 + n3 ≤ 65536) := hn
  have hw1 : IntKind.i64.wrap (n1 : Int) = (n1 : Int) := by rw [IntKind.wrap_i64]; omega
  have hw2 : IntKind.i64.wrap ((n1 : Int) + 1) = (n1 : Int) + 1 := by rw [IntKind.wrap_i64]; omega
  have hw3 : IntKind.i64.wrap ((n1 : Int) + 1 + (n3 : Int)) = (n1 : Int) + 1 + (n3 : Int) := by rw [IntKind.wrap_i64]; omega
  have hp1 : ¬ (n1 : Int) < 0 := by omega
  have hp2 : ¬ (n1 : Int) + 1 < 0 := by omega
  have hp3 : ¬ (n1 : Int) + 1 + (n3 : Int) < 0 := by omega
  have KG := sgrow_any (n1 + 1 + n3) w (by omega) hn
  rw [show ((n1 + 1 + n3 : Nat) : Int) = (n1 : Int) + 1 + (n3 : Int) by omega] at KG
  clear hn T
  go_enter Try.func58, Try.ntmps58
  go_wp2
  refine wp_loop_rounds 4 ?_
  rw [rounds_succ]
  go_wp2
  rw [rounds_succ]
  go_wp2
  rw [rounds_succ]
  go_wp2
  rw [rounds_succ]
  clear t0 t1 t2
  go_wp2_with (go_at_call 67; refine KG.mono ?_; rintro e w1 ⟨cg, rfl, O1, b1⟩; have ⟨t10, t11, t12⟩ := KC _ b1)
  have ⟨t10, t11, t12⟩ := KC _ b1
  refine wp_loop_rounds 4 ?_
  rw [rounds_succ]
  go_wp2_with ((with_reducible show wpList _ _ _ (Oper.mk _ (Op.call { callee := Callee.builtin Builtin.append, args := _, argTypes := #[22, 22] }) _ _ _ _ :: _) _ _); go_must (refine wpList_grow_lstS rfl _ _ rfl (base := w.heap.size) (k := 0) (es := []) rfl rfl O1 (R1.below b1) (by have := HN.out; omega) b1.size ?_; intro v2 w2 O2 g2 b2))
  have B2 := b1.trans b2
  have ⟨t20, t21, t22⟩ := KC _ B2
  clear t10 t11 t12
  rw [rounds_succ]
  go_wp2_with ((with_reducible show wpList _ _ _ (Oper.mk _ (Op.call { callee := Callee.builtin Builtin.append, args := _, argTypes := #[22, 22] }) _ _ _ _ :: _) _ _); go_must (refine wpList_grow_lstS rfl _ _ rfl (base := w.heap.size) rfl rfl O2 (R2.below B2) (by have := HN.out; omega) B2.size ?_; intro v3 w3 O3 g3 b3))
  have B3 := B2.trans b3
  have ⟨t30, t31, t32⟩ := KC _ B3
  clear t20 t21 t22
  rw [rounds_succ]
  go_wp2_with ((with_reducible show wpList _ _ _ (Oper.mk _ (Op.call { callee := Callee.builtin Builtin.append, args := _, argTypes := #[22, 22] }) _ _ _ _ :: _) _ _); go_must (refine wpList_grow_lstS rfl _ _ rfl (base := w.heap.size) rfl rfl O3 (R3.below B3) (by have := HN.out; omega) B3.size ?_; intro v4 w4 O4 g4 b4))
  have B4 := B3.trans b4
  rw [rounds_succ]
  go_wp2
  go_ret
  refine ⟨v4, rfl, ?_, B4⟩
  rw [Nat.zero_add] at O4
  simpa using O4
end Go.Proofs.Yteoiogjaecpddaa
