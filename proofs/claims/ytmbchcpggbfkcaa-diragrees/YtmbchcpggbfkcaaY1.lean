/-
  The chapter's examples.
-/
import Derived.Test.YtmbchcpggbfkcaaC1
namespace Go.Proofs.Ytmbchcpggbfkcaa
open Go.ChangeShapes Go.WideShapes Go.ChangeAt Go.RowKit Go.Maps Go.Shelf
set_option linter.unusedVariables false
set_option linter.unusedSimpArgs false

section
variable {ops : Array Oper} {rest : List Oper} {o : Oper} {A : Act} {w W : World} {l : List Blk} {Q : Exit → Act → World → Prop}
theorem wpList_val (hgd : Region.wanted o (yielded ops A.tmps) = true) (v : Value) (hr : (execOp A.eval o).run Try.prog W = .ok (.value v) W) (H : wpList Try.prog ops Q rest (A.put o.dst v) W) : wpList Try.prog ops Q (o :: rest) A W := by
  unfold wpList
  rw [if_pos hgd]
  left
  unfold Oper.wp
  rw [hr]
  exact H
end
abbrev nM : ByteArray := ⟨#[109]⟩
abbrev cM1 : CH := ⟨nM, 1, 3, true, 1, 4⟩
abbrev cM2 : CH := ⟨nM, 2, 5, false, 1, 4⟩
theorem ex1 : crE [] nM 1 4 = 0 := by decide
theorem ex2 : GL (8 - (([] : List CH).length : Int)) (Z [] [crM [] 3 nM 1 4]) = [cM1] := by rfl
theorem lkM : lk nM [cM1] = some cM1 := if_pos rfl
theorem ex3 : dlE [cM1] nM = 0 := by unfold dlE; rw [lkM]; rfl
theorem ex4 : GL (8 - (([cM1] : List CH).length : Int)) (Z [cM1] [dlM [cM1] 5 nM]) = [cM2] := by
  have e : dlM [cM1] 5 nM = cM2 := by unfold dlM; rw [lkM]; rfl
  have h : ltN nM nM = false := lt_irr _
  rw [e, Z_c, if_neg (by rw [h]; decide), if_neg (by rw [h]; decide)]
  rfl
theorem ex5 : crE [cM1] nM 1 4 = 42 := by
  have h1 : nameB nM = true := by decide
  have h2 : kindB 1 = true := by decide
  have h3 : scaleB 1 4 = true := by decide
  unfold crE
  rw [lkM, h1, h2, h3]
  rfl
set_option maxRecDepth 100000 in
set_option maxHeartbeats 4000000 in
theorem awake_any (w : World) : Calls Try.prog 17 #[] w fun e w' => e = .returned (.bool true) ∧ Below w.heap.size w w' := by
  have K1 := create_any none 0 [] 3 nM 1 4 w (rdC_nil w) (by decide) (by decide)
  rw [ex1, if_pos rfl, ex2] at K1
  have K2 : ∀ W a c, LstC W a 1 c [cM1] → Calls Try.prog 28 #[.slice a 1 c, .int .i64 5, .string nM] W (AnsL W [cM2] 0) := fun W a c h => by
    have h9 := delete_any a c [cM1] 5 nM W (h.rd (by decide)) (by decide) (by rw [lkM]; decide)
    rw [ex3, if_pos rfl, ex4] at h9
    exact h9
  have K3 : ∀ W a c, LstC W a 1 c [cM1] → Calls Try.prog 26 #[.slice a 1 c, .int .i64 1, .string nM, .int .i64 1, .int .i64 4] W (AnsL W [cM1] 42) := fun W a c h => by
    have h9 := create_any a c [cM1] 1 nM 1 4 W (h.rd (by decide)) (by decide) (by rw [lkM]; decide)
    rw [ex5, if_neg (by decide)] at h9
    exact h9
  have K4 := fun w => newer_any nM 3 9 false 0 0 nM 2 5 false 1 4 w
  rw [show nwZ 3 9 2 5 = true by decide] at K4
  go_enter Try.func17, Try.ntmps17
  go_wp2_with (first
      | (go_at_call 26; refine K1.mono ?_; clear K1; rintro e W1 ⟨a1, c1, rfl, L1, o1, b1⟩)
      | (go_at_call 28; refine (K2 _ _ _ L1).mono ?_; clear K2; rintro e W2 ⟨a2, c2, rfl, L2, o2, b2⟩; replace L1 := L1.below b2; replace b1 := b1.trans (b2.mono b1.size); clear b2)
      | (go_at_call 26; refine (K3 _ _ _ L1).mono ?_; clear K3; rintro e W3 ⟨a3, c3, rfl, L3, o3, b3⟩; replace L2 := L2.below b3; replace b1 := b1.trans (b3.mono b1.size); clear b3; obtain ⟨g, off, rfl, hg, hd, hra⟩ := (L2.rd (by decide)).at 0 (by decide))
      | ((with_reducible show wpList _ _ _ (Oper.mk _ (Op.load 23 _) _ _ _ _ :: _) _ _); refine wpList_load23w (by rfl) _ rfl g (off + 0 * 6) nM 2 5 false 1 4 (by first | rfl | simp) hra ?_)
      | ((with_reducible show wpList _ _ _ (Oper.mk _ (Op.binOp .eql 23 _ _ 23) _ _ _ _ :: _) _ _); refine wpList_val (by rfl) (.bool true) ((exec_eql23 rfl cM2 cM2 rfl rfl _).trans (by rw [eqC_self])) ?_)
      | (go_at_call 15; refine (K4 _).mono ?_; clear K4; rintro e W4 ⟨rfl, b4⟩; replace b1 := b1.trans (b4.mono b1.size); clear b4))
  go_ret
  exact ⟨rfl, b1⟩
end Go.Proofs.Ytmbchcpggbfkcaa
