/-
  Package shake: lists joined into one of one's own; put.
-/
import Derived.Test.YteoiogjaecpddaaS5
namespace Go.Proofs.Yteoiogjaecpddaa
open Go.ChangeShapes Go.WideShapes Go.ChangeAt Go.RowKit
set_option linter.unusedVariables false
set_option linter.unusedSimpArgs false

section
variable {ops : Array Oper} {rest : List Oper} {o : Oper} {A : Act} {W : World} {Q : Exit → Act → World → Prop}
/-- append(nil, make([]Seen, k)...). -/
theorem wpList_zeros0 (hgd : o.guard = none) (s x : Operand) (ho : o.op = .call { callee := .builtin .append, args := #[s, x], argTypes := #[22, 3] }) (k : Nat) (h0 : 0 < k) (hk : k ≤ 65536)
    (hs : A.eval s = .slice none 0 0) (hx : A.eval x = .int .i64 (k : Int))
    (h : ∀ cap' w', k ≤ cap' → w'.ownsRow W.heap.size 33 4 (.slice (some ⟨W.heap.size, 0, none⟩) 0 cap') 0 [] → Below W.heap.size W w' → wpList Try.prog ops Q rest (A.put o.dst (.slice (some ⟨W.heap.size, 0, none⟩) k cap')) w') : wpList Try.prog ops Q (o :: rest) A W := by
  obtain ⟨i0, hi0, hz0, hz1, hz2⟩ := info_parts info33
  have hold : (Builtin.firstCells i0.size 0 (.slice none 0 0)).run Try.prog W.drew = .ok ([] : List Value).toArray W.drew := by simp [Builtin.firstCells]
  have hrun := Lib.run_append_grow_zeros (P := Try.prog) W 22 3 o.type 33 i0 _ .i64 .i64 Try.underlying22 Try.underlying3 hi0 hz0 none 0 0 [] hold k h0 (by rw [hz1]; omega) (by omega) (by omega) (by rw [hz2]; omega) (by rw [hz2]; exact growslice_fits (by omega) (by omega))
  have hge := grownCap_ge W (0 + k) 0 33
  have hcm := grownCap_le_maxLen W (0 + k) 0 33 (by unfold maxLen; omega)
  refine wpList_plain hgd fun K hK => ?_
  unfold Oper.wp
  rw [Nat.zero_add] at hrun hge hcm
  simp [execOp, ho, resolve, invoke, builtin, hs, hx, hrun, Result.andThen]
  refine hK _ _ (h _ _ hge ⟨rfl, .inr ⟨W.heap.size, _, _, rfl, Nat.le_refl _, heap_alloc_new W.drew _, Nat.zero_le _, hcm, ?_, ?_⟩⟩ ⟨rfl, rfl, rfl, by simp, fun q hq => heap_old (w := W.drew) hq rfl⟩)
  · rw [Array.size_append, size_zeroCells, size_zeroCells, show (SN.val SN.z).cells.size = 4 from rfl]
    omega
  · simp
end
set_option maxRecDepth 100000 in
set_option maxHeartbeats 4000000 in
theorem sgrow_any (k : Nat) (w : World) (h0 : 0 < k) (hk : k ≤ 65536) : Calls Try.prog 67 #[.slice none 0 0, .int .i64 (k : Int)] w fun e w' => ∃ cap', e = .returned (.slice (some ⟨w.heap.size, 0, none⟩) 0 cap') ∧ w'.ownsRow w.heap.size 33 4 (.slice (some ⟨w.heap.size, 0, none⟩) 0 cap') 0 [] ∧ Below w.heap.size w w' := by
  have hkI : (0 : Int) < (k : Int) := by omega
  have hkN : ¬ (k : Int) < 0 := by omega
  have hkd : decide (0 < k) = true := decide_eq_true h0
  have hw : IntKind.i64.wrap (k : Int) = (k : Int) := by rw [IntKind.wrap_i64]; omega
  have H0 : Hid (0 < k) := h0
  clear h0
  go_enter Try.func67, Try.ntmps67
  go_wp2_with ((with_reducible show wpList _ _ _ (Oper.mk _ (Op.call { callee := Callee.builtin Builtin.append, args := _, argTypes := #[22, 3] }) _ _ _ _ :: _) _ _); go_must (refine wpList_zeros0 rfl _ _ rfl k H0.out hk rfl rfl ?_; intro c1 w1 hc1 O1 b1))
  go_ret
  exact ⟨c1, rfl, O1, b1⟩
end Go.Proofs.Yteoiogjaecpddaa
