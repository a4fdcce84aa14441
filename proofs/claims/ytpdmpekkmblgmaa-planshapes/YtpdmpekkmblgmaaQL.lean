/-
  A statement whose order is open, whose operations only read and whose callees leave all that lay as it was: one walk in the text's order serves every order.
-/
import Derived.Test.YtpdmpekkmblgmaaHeld
import Derived.Deep.Quiet
import Derived.Deep.QuietTactic
namespace Go.Proofs.Ytpdmpekkmblgmaa
open Go.RowKit
set_option linter.unusedVariables false
structure QW (P : Program) (ops : Array Oper) (C : World → Prop) (Q : Act → Prop) (l : List Oper) (a : Act) : Prop where
  out : wpQuiet P ops C Q l a
section
variable {P : Program} {ops : Array Oper} {C : World → Prop} {Q : Act → Prop} {a : Act} {o : Oper} {rest : List Oper}
theorem QW.op (hw : Region.wanted o (yielded ops a.tmps) = true) (h : ∃ v, (∀ X, C X → o.quietAt P a C X v) ∧ QW P ops C Q rest (a.put o.dst v)) : QW P ops C Q (o :: rest) a := by
  obtain ⟨v, h1, h2⟩ := h
  refine ⟨?_⟩
  unfold wpQuiet
  rw [if_pos hw]
  exact ⟨v, h1, h2.out⟩
/-- An operation whose value is known beforehand. -/
theorem QW.val (v : Value) (hw : Region.wanted o (yielded ops a.tmps) = true) (hv : ∀ X, C X → (execOp a.eval o).run P X = .ok (.value v) X) (h : QW P ops C Q rest (a.put o.dst v)) : QW P ops C Q (o :: rest) a :=
  QW.op hw ⟨v, fun X hX => by unfold Oper.quietAt; rw [hv X hX]; exact ⟨rfl, rfl⟩, h⟩
theorem QW.skip (hw : Region.wanted o (yielded ops a.tmps) = false) (h : QW P ops C Q rest (a.put o.dst undef)) : QW P ops C Q (o :: rest) a := by
  refine ⟨?_⟩
  unfold wpQuiet
  rw [if_neg (by rw [hw]; decide)]
  exact h.out
theorem QW.nil (h : Q a) : QW P ops C Q [] a := ⟨h⟩
theorem wp_region_qw {id : Nat} {Q : Exit → Act → World → Prop} {w : World} {l : List Oper} (C : World → Prop) (hm : P.follows .mixedOrders = true) (hB : Region.lexB .any l.toArray = true) (hC : C w.drew)
    (h : QW P l.toArray C (fun a' => ∀ w', C w' → Q .normal a' w') l a) : (Code.region id l.toArray true).wp P Q a w :=
  wp_region_quiet hm hB hC (by simpa using h.out)
end
end Go.Proofs.Ytpdmpekkmblgmaa
