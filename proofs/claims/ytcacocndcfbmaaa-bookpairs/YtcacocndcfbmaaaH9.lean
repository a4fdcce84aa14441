/-
  Find.
-/
import Derived.Test.YtcacocndcfbmaaaH1
import Derived.Test.YtcacocndcfbmaaaC9
namespace Go.Proofs.Ytcacocndcfbmaaa
open Go.ChangeShapes Go.WideShapes Go.ChangeAt Go.RowKit Go.Maps Go.Shelf
set_option linter.unusedVariables false
set_option linter.unusedSimpArgs false
attribute [local go_sem] Oper.semAt_some

abbrev posH (k : Int) (l : List HS) : Nat := pos (fun x : HS => ltI x.peer k) l
abbrev hitH (k : Int) (l : List HS) : Bool := hit (fun x : HS => ltI x.peer k) (fun x => eqI x.peer k) l
theorem pos_map {α β : Type} (f : α → β) (lt : β → Bool) : ∀ l : List α, pos lt (l.map f) = pos (fun x => lt (f x)) l
  | [] => rfl
  | x :: r => by
    have ih := pos_map f lt r
    simp only [List.map_cons, pos, ih]
theorem hit_map {α β : Type} (f : α → β) (lt eq : β → Bool) (l : List α) : hit lt eq (l.map f) = hit (fun x => lt (f x)) (fun x => eq (f x)) l := by
  unfold hit
  rw [pos_map, List.getElem?_map]
  cases l[pos (fun x => lt (f x)) l]? <;> rfl
theorem peers_same {rs : List HR} {hs : List HS} (hl : rs.length = hs.length) (h : ∀ i, i < hs.length → (rs.getD i HR.z).peer = (hs.getD i HS.z).peer) : rs.map HR.peer = hs.map HS.peer := by
  refine List.ext_getElem (by simp [hl]) fun i h1 h2 => ?_
  have hi : i < hs.length := by simpa using h2
  have hr : i < rs.length := by omega
  have := h i hi
  rw [List.getD_eq_getElem?_getD, List.getD_eq_getElem?_getD, List.getElem?_eq_getElem hr, List.getElem?_eq_getElem hi] at this
  simpa using this
theorem pos_hs {rs : List HR} {hs : List HS} (e : rs.map HR.peer = hs.map HS.peer) (k : Int) : posI k rs = posH k hs := by
  have h1 := pos_map HR.peer (fun p => ltI p k) rs
  have h2 := pos_map HS.peer (fun p => ltI p k) hs
  rw [e, h2] at h1
  exact h1.symm
theorem hit_hs {rs : List HR} {hs : List HS} (e : rs.map HR.peer = hs.map HS.peer) (k : Int) : hitI k rs = hitH k hs := by
  have h1 := hit_map HR.peer (fun p => ltI p k) (fun p => eqI p k) rs
  have h2 := hit_map HS.peer (fun p => ltI p k) (fun p => eqI p k) hs
  rw [e, h2] at h1
  exact h1.symm
def findH (k : Int) (l : List HS) : HS := if hitH k l = true then l.getD (posH k l) HS.z else HS.z
theorem below_row {w W : World} {g : Nat} (b : Below w.heap.size w W) (hg : w.heap.size ≤ g) (cs : Array Value) : Below w.heap.size w (W.setRow g cs) := (Only.setRow (C := none_) (Only.of_below b) (fun k => absurd k (by omega)) _).calm
end Go.Proofs.Ytcacocndcfbmaaa
