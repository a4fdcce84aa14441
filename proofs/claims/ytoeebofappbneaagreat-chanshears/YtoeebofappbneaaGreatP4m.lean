/-
  Package dir: learn.
-/
import Derived.Test.YtoeebofappbneaaGreatP3
namespace Go.Proofs.YtoeebofappbneaaGreat
open Go.ChangeShapes Go.WideShapes Go.ChangeAt Go.RowKit Go.Maps Go.Shelf
set_option linter.unusedVariables false
set_option linter.unusedSimpArgs false
attribute [local go_sem] Oper.semAt_some

/-- What a round puts to the list: what stands of a name. -/
def std (x : FO × FO) (r : Int) : FO := match x with
  | (a, none) => a
  | (none, some b) => if 0 < r then some b else none
  | (some a, some b) => if b.nw a = true then some b else some a
def whx (x : FO × FO) (r w : Int) : Int := match x.2 with
  | none => w
  | some b => vd x.1 (some b) r
/-- What the rounds leave: room, what became of the last one, the list so far. -/
def rmK (r : Int) : List (FO × FO) → Int
  | [] => r
  | x :: z => rmK (rm x.1 x.2 r) z
theorem GL_cons (r : Int) (x : FO × FO) (z : List (FO × FO)) : GL r (x :: z) = (std x r).toList ++ GL (rm x.1 x.2 r) z := by
  obtain ⟨a, b⟩ := x
  cases a with
  | none =>
    cases b with
    | none => rfl
    | some b =>
      show (if 0 < r then b :: GL (r - 1) z else GL r z) = (if 0 < r then some b else none).toList ++ GL (if 0 < r then r - 1 else r) z
      by_cases h : 0 < r
      · rw [if_pos h, if_pos h, if_pos h]; rfl
      · rw [if_neg h, if_neg h, if_neg h]; rfl
  | some a =>
    cases b with
    | none => rfl
    | some b =>
      show pk a b :: GL r z = (if b.nw a = true then some b else some a).toList ++ GL r z
      unfold pk
      by_cases h : b.nw a = true
      · rw [if_pos h, if_pos h]; rfl
      · rw [if_neg h, if_neg h]; rfl
theorem GW_cons (r w : Int) (x : FO × FO) (z : List (FO × FO)) : GW r w (x :: z) = GW (rm x.1 x.2 r) (whx x r w) z := by
  obtain ⟨a, b⟩ := x
  cases a <;> cases b <;> simp only [GW, whx, rm]
theorem GL_take (z : List (FO × FO)) : ∀ (k : Nat) (r : Int), GL r (z.take (k + 1)) = GL r (z.take k) ++ (match z[k]? with | none => [] | some x => (std x (rmK r (z.take k))).toList) := by
  induction z with
  | nil => intro k r; simp [GL]
  | cons x z ih =>
    intro k r
    cases k with
    | zero =>
      show GL r [x] = GL r [] ++ (std x r).toList
      rw [GL_cons]
      simp [GL]
    | succ k =>
      show GL r (x :: z.take (k + 1)) = GL r (x :: z.take k) ++ _
      rw [GL_cons, GL_cons, ih, List.append_assoc]
      rfl
theorem rmK_take (z : List (FO × FO)) : ∀ (k : Nat) (r : Int) (x : FO × FO), z[k]? = some x → rmK r (z.take (k + 1)) = rm x.1 x.2 (rmK r (z.take k)) := by
  induction z with
  | nil => intro k r x h; cases h
  | cons y z ih =>
    intro k r x h
    cases k with
    | zero => cases h; rfl
    | succ k => exact ih k _ x (by simpa using h)
theorem GW_take (z : List (FO × FO)) : ∀ (k : Nat) (r w : Int) (x : FO × FO), z[k]? = some x → GW r w (z.take (k + 1)) = whx x (rmK r (z.take k)) (GW r w (z.take k)) := by
  induction z with
  | nil => intro k r w x h; cases h
  | cons y z ih =>
    intro k r w x h
    cases k with
    | zero =>
      cases h
      show GW r w [y] = whx y r w
      rw [GW_cons]
      rfl
    | succ k =>
      have h' : z[k]? = some x := by simpa using h
      show GW r w (y :: z.take (k + 1)) = whx x (rmK r (y :: z.take k)) (GW r w (y :: z.take k))
      rw [GW_cons, GW_cons, ih k _ _ x h']
      rfl
end Go.Proofs.YtoeebofappbneaaGreat
