/-
  Both disks side by side.
-/
import Derived.Test.YtaacggbfoejjhaaDoorDDl1
namespace Go.Proofs.YtaacggbfoejjhaaDoor.D
open Go.ChangeShapes Go.WideShapes Go.ChangeAt Go.RowKit
set_option linter.unusedVariables false
set_option linter.unusedSimpArgs false

/-- The program's state and the document's: what can be seen is the same. -/
structure Sim (S T : DS) : Prop where
  n : S.n = T.n
  bs : S.bs = T.bs
  done : S.done = T.done
  gone : S.gone = T.gone
  up : S.gone = false → S.left = T.left ∧ S.stays = false ∧ T.stays = false
  down : S.gone = true → S.stays = T.stays ∧ (S.stays = true → S.left = T.left)
theorem Sim.refl0 {S : DS} (h : S.gone = false) (h2 : S.stays = false) : Sim S S := ⟨rfl, rfl, rfl, rfl, fun _ => ⟨rfl, h2, h2⟩, fun e => by rw [h] at e; cases e⟩
theorem Sim.cut {S T : DS} (h : Sim S T) (x : Int) : Sim (S.cut x) (T.cut x) := ⟨h.n, h.bs, h.done, h.gone, fun e => ⟨rfl, e, by show T.gone = false; rw [← h.gone]; exact e⟩, fun e => ⟨h.gone, fun _ => rfl⟩⟩
theorem Sim.on {S T : DS} (h : Sim S T) : Sim S.on T.on := by
  refine ⟨h.n, h.bs, h.done, rfl, fun _ => ⟨?_, rfl, rfl⟩, fun e => by cases e⟩
  show (if S.stays then S.left else -1) = (if T.stays then T.left else -1)
  cases hg : S.gone with
  | false => obtain ⟨_, h2, h3⟩ := h.up hg; rw [h2, h3]; rfl
  | true =>
    obtain ⟨h1, h2⟩ := h.down hg
    rw [← h1]
    cases hs : S.stays with
    | false => rfl
    | true => simp [h2 hs]
theorem Sim.fall {S T : DS} (h : Sim S T) (hg : S.gone = false) : Sim ⟨true, S.left, S.stays, S.n, S.bs, S.done⟩ ⟨true, -1, false, T.n, T.bs, T.done⟩ :=
  ⟨h.n, h.bs, h.done, rfl, fun e => (by cases e), fun _ => ⟨(h.up hg).2.1, fun e => by have e' : S.stays = true := e; rw [(h.up hg).2.1] at e'; cases e'⟩⟩
theorem Sim.put {S T : DS} (h : Sim S T) (hg : S.gone = false) (i : Nat) (zs : List Int) : Sim (S.put i zs) (T.put i zs) := by
  obtain ⟨h1, h2, h3⟩ := h.up hg
  refine ⟨h.n, ?_, ?_, h.gone, fun _ => ⟨?_, h2, h3⟩, fun e => by have e' : S.gone = true := e; rw [hg] at e'; cases e'⟩
  · show splice S.bs (i * 16) zs = splice T.bs (i * 16) zs; rw [h.bs]
  · show wrap64 (S.done + 1) = wrap64 (T.done + 1); rw [h.done]
  · show (if 0 < S.left then S.left - 1 else S.left) = (if 0 < T.left then T.left - 1 else T.left); rw [h1]
theorem inS_sim {S T : DS} (h : Sim S T) (x : Int) : inS T x = inS S x := by unfold inS; rw [h.n]
def in4 (d l r m : Nat) : Nat → Prop := fun b => b = d ∨ b = l ∨ b = r ∨ b = m
/-- Both lie there, apart. -/
structure Bth (w : World) (d l r m : Nat) (S T : DS) : Prop where
  p : DkP w d l S
  q : DkR w r m T
  sim : Sim S T
  dr : d ≠ r
  dm : d ≠ m
  lr : l ≠ r
  lm : l ≠ m
theorem Bth.below {w w' : World} {d l r m : Nat} {S T : DS} (h : Bth w d l r m S T) (b : Below w.heap.size w w') : Bth w' d l r m S T := ⟨h.p.below b, h.q.below b, h.sim, h.dr, h.dm, h.lr, h.lm⟩
theorem Bth.byP {w w' : World} {d l r m : Nat} {S S' T : DS} (h : Bth w d l r m S T) (P : DkP w' d l S') (o : Only (at2 d l) w w') : DkR w' r m T := h.q.only o (by rintro (e | e); exact h.dr e.symm; exact h.lr e.symm) (by rintro (e | e); exact h.dm e.symm; exact h.lm e.symm)
theorem Bth.byQ {w w' : World} {d l r m : Nat} {S T : DS} (P : DkP w d l S) (h : Bth w d l r m S T) (o : Only (at2 r m) w w') : DkP w' d l S := P.only o (by rintro (e | e); exact h.dr e; exact h.dm e) (by rintro (e | e); exact h.lr e; exact h.lm e)
theorem keepQ {w w' : World} {d l r m : Nat} {T : DS} (q : DkR w r m T) (dr : d ≠ r) (dm : d ≠ m) (lr : l ≠ r) (lm : l ≠ m) (o : Only (at2 d l) w w') : DkR w' r m T := q.only o (by rintro (e | e); exact dr e.symm; exact lr e.symm) (by rintro (e | e); exact dm e.symm; exact lm e.symm)
theorem keepP {w w' : World} {d l r m : Nat} {S : DS} (p : DkP w d l S) (dr : d ≠ r) (dm : d ≠ m) (lr : l ≠ r) (lm : l ≠ m) (o : Only (at2 r m) w w') : DkP w' d l S := p.only o (by rintro (e | e); exact dr e; exact dm e) (by rintro (e | e); exact lr e; exact lm e)
theorem Only.p4 {w w' : World} {d l : Nat} (o : Only (at2 d l) w w') (r m : Nat) : Only (in4 d l r m) w w' := o.mono fun q _ hq => by rcases hq with e | e; exact .inl e; exact .inr (.inl e)
theorem Only.q4 {w w' : World} {r m : Nat} (o : Only (at2 r m) w w') (d l : Nat) : Only (in4 d l r m) w w' := o.mono fun q _ hq => by rcases hq with e | e; exact .inr (.inr (.inl e)); exact .inr (.inr (.inr e))
/-- What the law's helper keeps. -/
def Now (w : World) (d l r m : Nat) (wx : World) : Prop := ∃ S T, Bth wx d l r m S T ∧ Only (in4 d l r m) w wx
theorem conv_nil (w : World) : (convert 22 9 (.slice none 0 0)).run Tryd.prog w = .ok (.string (strOfNums [])) w := conv_row (row_nil .u8 w)
end Go.Proofs.YtaacggbfoejjhaaDoor.D
