/-
  Package ext: which of two holds: an order, and the document's own Least and Greatest.
-/
import Derived.Test.YtoeebofappbneaaEX3
namespace Go.Proofs.Ytoeebofappbneaa.E
open Go.ChangeShapes Go.WideShapes Go.ChangeAt Go.RowKit
set_option linter.unusedVariables false
set_option linter.unusedSimpArgs false

/-- A number by which fit values stand in order. -/
def key (up : Bool) (x : EX) : Int := if x.h = true then ((if up = true then x.v else -x.v) * 64 + x.g) * 16 + x.o else 1125899906842624
theorem rk_key (up : Bool) {a b : EX} (ha : fitB a = true) (hb : fitB b = true) : rkX up a b < 0 ↔ key up a < key up b := by
  cases h1 : a.h with
  | false =>
    have e1 := fit_none ha h1
    subst e1
    cases h2 : b.h with
    | false =>
      have e2 := fit_none hb h2
      subst e2
      cases up <;> simp [rkX, key, vcm, cmpZ, orZ]
    | true =>
      have r := fit_some hb h2
      simp only [rkX, key, h2]
      cases up <;> simp <;> omega
  | true =>
    have r1 := fit_some ha h1
    cases h2 : b.h with
    | false =>
      simp only [rkX, key, h1, h2]
      cases up <;> simp <;> omega
    | true =>
      have r2 := fit_some hb h2
      simp only [rkX, key, h1, h2, vcm, cmpZ, orZ]
      cases up <;> simp <;> (repeat' split) <;> omega
theorem key_inj (up : Bool) {a b : EX} (ha : fitB a = true) (hb : fitB b = true) (h : key up a = key up b) : a = b := by
  cases h1 : a.h with
  | false =>
    have e1 := fit_none ha h1
    subst e1
    cases h2 : b.h with
    | false => exact (fit_none hb h2).symm
    | true =>
      have r := fit_some hb h2
      simp only [key, h2] at h
      cases up <;> simp at h <;> omega
  | true =>
    have r1 := fit_some ha h1
    cases h2 : b.h with
    | false =>
      simp only [key, h1, h2] at h
      cases up <;> simp at h <;> omega
    | true =>
      have r2 := fit_some hb h2
      simp only [key, h1, h2] at h
      obtain ⟨ah, av, ao, ag⟩ := a
      obtain ⟨bh, bv, bo, bg⟩ := b
      dsimp only at *
      subst h1 h2
      have : av = bv ∧ ao = bo ∧ ag = bg := by cases up <;> simp at h <;> omega
      obtain ⟨rfl, rfl, rfl⟩ := this
      rfl
theorem hold_eq (up : Bool) {a b : EX} (ha : fitB a = true) (hb : fitB b = true) : holdX up a b = if key up b < key up a then b else a := by
  unfold holdX
  by_cases c : key up b < key up a
  · rw [if_pos c, if_pos ((rk_key up hb ha).2 c)]
  · rw [if_neg c, if_neg (fun h => c ((rk_key up hb ha).1 h))]
theorem hold_or (up : Bool) (a b : EX) : holdX up a b = a ∨ holdX up a b = b := by
  unfold holdX
  split
  · exact .inr rfl
  · exact .inl rfl
theorem hold_fit (up : Bool) {a b : EX} (ha : fitB a = true) (hb : fitB b = true) : fitB (holdX up a b) = true := by
  rcases hold_or up a b with e | e <;> rw [e] <;> assumption
theorem hold_comm (up : Bool) {a b : EX} (ha : fitB a = true) (hb : fitB b = true) : holdX up a b = holdX up b a := by
  rw [hold_eq up ha hb, hold_eq up hb ha]
  by_cases c : key up b < key up a
  · rw [if_pos c, if_neg (by omega)]
  · by_cases d : key up a < key up b
    · rw [if_neg c, if_pos d]
    · rw [if_neg c, if_neg d]
      exact key_inj up ha hb (by omega)
theorem hold_self (up : Bool) (a : EX) : holdX up a a = a := by
  rcases hold_or up a a with e | e <;> exact e
theorem hold_assoc (up : Bool) {a b c : EX} (ha : fitB a = true) (hb : fitB b = true) (hc : fitB c = true) : holdX up (holdX up a b) c = holdX up a (holdX up b c) := by
  rw [hold_eq up (hold_fit up ha hb) hc, hold_eq up ha (hold_fit up hb hc), hold_eq up ha hb, hold_eq up hb hc]
  by_cases c1 : key up b < key up a
  · rw [if_pos c1]
    by_cases c2 : key up c < key up b
    · rw [if_pos c2, if_pos (by omega)]
    · rw [if_neg c2, if_pos c1]
  · rw [if_neg c1]
    by_cases c2 : key up c < key up b
    · rw [if_pos c2]
    · rw [if_neg c2, if_neg c1, if_neg (by omega)]
theorem own_fit {id v : Int} (h1 : nodeB id = true) (h2 : flowB v = true) : fitB (ownX id v) = true := by
  simp [fitB, ownX, h1, h2, inB]
theorem old_fit {x : EX} (h : fitB x = true) : fitB (oldX x) = true := by
  unfold oldX
  split
  · exact fit_z
  · rename_i c
    have hh : x.h = true := by simpa using fun e => c (.inl e)
    have := fit_some h hh
    refine fit_of hh ?_
    dsimp only
    omega
theorem for_fit (id : Int) {x : EX} (h : fitB x = true) : fitB (forX id x) = true := by
  unfold forX
  split
  · exact fit_z
  · exact h
end Go.Proofs.Ytoeebofappbneaa.E
