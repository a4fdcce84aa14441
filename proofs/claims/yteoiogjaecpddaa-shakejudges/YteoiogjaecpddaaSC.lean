/-
  Package shake: the chapter's examples.
-/
import Derived.Test.YteoiogjaecpddaaSB
namespace Go.Proofs.Yteoiogjaecpddaa
open Go.ChangeShapes Go.WideShapes Go.ChangeAt Go.RowKit
set_option linter.unusedVariables false
set_option linter.unusedSimpArgs false

section
variable {ops : Array Oper} {rest : List Oper} {o : Oper} {A : Act} {W : World} {Q : Exit → Act → World → Prop}
theorem wpList_load33w (hw : Region.wanted o (yielded ops A.tmps) = true) (x : Operand) (ho : o.op = .load 33 x) (g off : Nat) (p b l m : Int) (hx : A.eval x = .pointer (some ⟨g, off, none⟩)) (hc : W.rangeAt g off (SN.cells ⟨p, b, l, m⟩))
    (h : wpList Try.prog ops Q rest (A.put o.dst (.agg #[.int .i64 p, .int .i64 b, .int .i64 l, .int .i64 m])) W) : wpList Try.prog ops Q (o :: rest) A W := by
  refine wpList_step (fun K hK => ?_)
  rw [if_pos hw]
  unfold Oper.wp
  rw [exec_load33 ho g off ⟨p, b, l, m⟩ hx hc]
  exact hK _ _ h
end
theorem fit_ex : FitP 2 [⟨5, 3, 1, 2⟩] := by
  refine ⟨rfl, by simp, fun x hx => ?_⟩
  simp at hx
  subst hx
  exact ⟨by decide, by unfold EntP; simp⟩
theorem see_ex : seeL 5 3 2 [⟨5, 3, 1, 2⟩] = [⟨5, 3, 2, 2⟩] := by simp [seeL, getL, insS, seen1, ltr]
set_option maxRecDepth 100000 in
set_option maxHeartbeats 8000000 in
theorem awake_any (w : World) : Calls Try.prog 13 #[] w fun e w' => e = .returned (.bool true) ∧ Below w.heap.size w w' := by
  have C4 := ((((Bx.nil w).add rfl (.cells #[.int .i64 5, .int .i64 3, .int .i64 1, .int .i64 2] 33)).add (by simp) (.cells #[.int .i64 3, .int .i64 5, .int .i64 2, .int .i64 3, .int .i64 1, .int .i64 7, .int .i64 2, .slice none 0 0] 40)).add (by simp) (.cells #[.int .i64 3, .int .i64 5, .int .i64 2, .int .i64 3, .int .i64 1, .int .i64 7, .int .i64 1, .slice none 0 0] 40)).add (by simp) (.cells #[.int .i64 3, .int .i64 5, .int .i64 2, .int .i64 3, .int .i64 0, .int .i64 7, .int .i64 2, .slice none 0 0] 40)
  have R4 : ∀ W, Bx w _ W → RdS W (some ⟨w.heap.size, 0, none⟩) 1 1 [⟨5, 3, 1, 2⟩] := fun W (h : Bx w ((([] ++ [(.cells #[.int .i64 5, .int .i64 3, .int .i64 1, .int .i64 2] 33)]) ++ [(.cells #[.int .i64 3, .int .i64 5, .int .i64 2, .int .i64 3, .int .i64 1, .int .i64 7, .int .i64 2, .slice none 0 0] 40)]) ++ [(.cells #[.int .i64 3, .int .i64 5, .int .i64 2, .int .i64 3, .int .i64 1, .int .i64 7, .int .i64 1, .slice none 0 0] 40)] ++ [(.cells #[.int .i64 3, .int .i64 5, .int .i64 2, .int .i64 3, .int .i64 0, .int .i64 7, .int .i64 2, .slice none 0 0] 40)]) W) => rd_one (s := ⟨5, 3, 1, 2⟩) (h.at0 _ rfl)
  have KS := see_any 2 5 3 2 _ _ _ _ _ (R4 _ C4) fit_ex (by omega)
  rw [see_ex] at KS
  have K1 : ∀ W, Bx w _ W → Calls Try.prog 26 #[.slice (some ⟨w.heap.size, 0, none⟩) 1 1, .int .i64 7, .agg #[.int .i64 3, .int .i64 5, .int .i64 2, .int .i64 3, .int .i64 1, .int .i64 7, .int .i64 2, .slice none 0 0]] W fun e w' => e = .returned (.int .i64 2) ∧ Below W.heap.size W w' := fun W h => judge_any _ _ _ _ 7 ⟨3, 5, 2, 3, 1, 7, 2, none, 0, 0⟩ W (R4 W h)
  have K2 : ∀ W, Bx w _ W → Calls Try.prog 26 #[.slice (some ⟨w.heap.size, 0, none⟩) 1 1, .int .i64 7, .agg #[.int .i64 3, .int .i64 5, .int .i64 2, .int .i64 3, .int .i64 1, .int .i64 7, .int .i64 1, .slice none 0 0]] W fun e w' => e = .returned (.int .i64 3) ∧ Below W.heap.size W w' := fun W h => judge_any _ _ _ _ 7 ⟨3, 5, 2, 3, 1, 7, 1, none, 0, 0⟩ W (R4 W h)
  have K3 : ∀ W, Bx w _ W → Calls Try.prog 26 #[.slice (some ⟨w.heap.size, 0, none⟩) 1 1, .int .i64 7, .agg #[.int .i64 3, .int .i64 5, .int .i64 2, .int .i64 3, .int .i64 0, .int .i64 7, .int .i64 2, .slice none 0 0]] W fun e w' => e = .returned (.int .i64 1) ∧ Below W.heap.size W w' := fun W h => judge_any _ _ _ _ 7 ⟨3, 5, 2, 3, 0, 7, 2, none, 0, 0⟩ W (R4 W h)
  have KL := fun W => later_any 3 0 2 9 W
  rw [show ltr 3 0 2 9 = true from rfl] at KL
  go_enter Try.func13, Try.ntmps13
  go_wp2_with (first
    | ((with_reducible show wpList _ _ _ (Oper.mk _ (Op.load 40 (Operand.tmp 2)) _ _ _ _ :: _) _ _); refine wpList_load40x (by rfl) _ rfl (w.heap.size + 1) 3 5 2 3 1 7 2 none 0 0 rfl (by first | exact C8a.at_ 1 _ rfl | exact heap_new (by simp) | exact heap_old (by simp) (heap_new (by simp))) ?_)
    | ((with_reducible show wpList _ _ _ (Oper.mk _ (Op.load 40 (Operand.tmp 3)) _ _ _ _ :: _) _ _); refine wpList_load40x (by rfl) _ rfl (w.heap.size + 1 + 1) 3 5 2 3 1 7 1 none 0 0 rfl (C8b.at_ 2 _ rfl) ?_)
    | ((with_reducible show wpList _ _ _ (Oper.mk _ (Op.load 40 (Operand.tmp 4)) _ _ _ _ :: _) _ _); refine wpList_load40x (by rfl) _ rfl (w.heap.size + 1 + 1 + 1) 3 5 2 3 0 7 2 none 0 0 rfl (C8c.at_ 3 _ rfl) ?_)
    | (go_at_call 17; refine KS.mono ?_; rintro e w5 ⟨a5, c5, rfl, L5, f5, b5⟩; clear KS; have C8a := C4.later b5; obtain ⟨g5, o5, rfl, hg5, hd5, hr5⟩ := (L5.rd (by simp)).at 0 (by simp); dsimp only [List.length_cons, List.length_nil, Nat.zero_add])
    | (go_at_call 26; refine (K1 _ C8a).mono ?_; rintro e w6 ⟨rfl, b6⟩; clear K1; have C8b := C8a.later b6)
    | (go_at_call 26; refine (K2 _ C8b).mono ?_; rintro e w7 ⟨rfl, b7⟩; clear K2; have C8c := C8b.later b7)
    | (go_at_call 26; refine (K3 _ C8c).mono ?_; rintro e w8 ⟨rfl, b8⟩; clear K3; have hr8 := range_later hr5 hg5 ((b6.trans (b7.mono b6.size)).trans (b8.mono (Nat.le_trans b6.size b7.size))); have C8d := C8c.later b8)
    | ((with_reducible show wpList _ _ _ (Oper.mk _ (Op.load 33 (Operand.tmp 38)) _ _ _ _ :: _) _ _); refine wpList_load33w (by rfl) _ rfl g5 o5 5 3 2 2 rfl hr8 ?_)
    | ((with_reducible show wpList _ _ _ (Oper.mk _ (Op.binOp .eql 33 _ _ 33) _ _ _ _ :: _) _ _); refine wpList_eql33 (by rfl) rfl 5 3 2 2 5 3 2 2 rfl rfl ?_; rw [same33_self])
    | (go_at_call 11; refine (KL _).mono ?_; rintro e w9 ⟨rfl, b9⟩)
    | fail)
  go_ret
  exact ⟨rfl, C8d.below.trans (b9.mono C8d.below.size)⟩
end Go.Proofs.Yteoiogjaecpddaa
