/-
  The chapter's examples.
-/
import Derived.Test.YtoeebofappbneaaGreatC1
namespace Go.Proofs.YtoeebofappbneaaGreat
open Go.ChangeShapes Go.WideShapes Go.ChangeAt Go.RowKit Go.Maps Go.Shelf
set_option linter.unusedVariables false
set_option linter.unusedSimpArgs false

section
variable {ops : Array Oper} {rest : List Oper} {o : Oper} {A : Act} {w W : World} {l : List Blk} {Q : Exit → Act → World → Prop}
theorem wpList_val (hgd : Region.wanted o (yielded ops A.tmps) = true) (v : Value) (hr : (execOp A.eval o).run Tryz.prog W = .ok (.value v) W) (H : wpList Tryz.prog ops Q rest (A.put o.dst v) W) : wpList Tryz.prog ops Q (o :: rest) A W := by
  unfold wpList
  rw [if_pos hgd]
  left
  unfold Oper.wp
  rw [hr]
  exact H
end
abbrev nM : ByteArray := ⟨#[109]⟩
abbrev cM1 : CH := ⟨nM, 1, 3, true, 1, 4⟩
abbrev cM2 : CH := ⟨nM, 2, 5, false, 1, 4⟩
theorem ex1 : crE [] nM 1 4 = 0 := by decide
theorem ex2 : GL (8 - (([] : List CH).length : Int)) (Z [] [crM [] 3 nM 1 4]) = [cM1] := by rfl
theorem lkM : lk nM [cM1] = some cM1 := if_pos rfl
theorem ex3 : dlE [cM1] nM = 0 := by unfold dlE; rw [lkM]; rfl
theorem ex4 : GL (8 - (([cM1] : List CH).length : Int)) (Z [cM1] [dlM [cM1] 5 nM]) = [cM2] := by
  have e : dlM [cM1] 5 nM = cM2 := by unfold dlM; rw [lkM]; rfl
  have h : ltN nM nM = false := lt_irr _
  rw [e, Z_c, if_neg (by rw [h]; decide), if_neg (by rw [h]; decide)]
  rfl
theorem ex5 : crE [cM1] nM 1 4 = 42 := by
  have h1 : nameB nM = true := by decide
  have h2 : kindB 1 = true := by decide
  have h3 : scaleB 1 4 = true := by decide
  unfold crE
  rw [lkM, h1, h2, h3]
  rfl
end Go.Proofs.YtoeebofappbneaaGreat
