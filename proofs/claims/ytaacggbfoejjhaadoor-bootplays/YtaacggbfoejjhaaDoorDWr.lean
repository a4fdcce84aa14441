/-
  Package disk: Write and Read, whatever they are handed.
-/
import Derived.Test.YtaacggbfoejjhaaDoorDBo0
namespace Go.Proofs.YtaacggbfoejjhaaDoor.D
open Go.ChangeShapes Go.WideShapes Go.ChangeAt Go.RowKit
set_option linter.unusedVariables false
set_option linter.unusedSimpArgs false

/-- What Write tells, and the disk behind it. -/
def wrC (S : DS) (x : Int) (len : Nat) : Int := if S.gone then 32 else if inS S x then (if len = 16 then (if S.left = 0 then 32 else 0) else 20) else 31
def wrS (S : DS) (x : Int) (len : Nat) (zs : List Int) : DS := if S.gone then S else if inS S x then (if len = 16 then (if S.left = 0 then ⟨true, S.left, S.stays, S.n, S.bs, S.done⟩ else S.put x.toNat zs) else S) else S
def rwS (T : DS) (x : Int) (len : Nat) (zs : List Int) : DS := if T.gone then T else if inS T x then (if len = 16 then (if T.left = 0 then ⟨true, -1, false, T.n, T.bs, T.done⟩ else T.put x.toNat zs) else T) else T
theorem sim_wr {S T : DS} (h : Sim S T) (x : Int) (len : Nat) (zs : List Int) : wrC T x len = wrC S x len ∧ Sim (wrS S x len zs) (rwS T x len zs) := by
  unfold wrC wrS rwS
  rw [inS_sim h, ← h.gone]
  cases hg : S.gone with
  | true => exact ⟨rfl, h⟩
  | false =>
    obtain ⟨hl, _, _⟩ := h.up hg
    rw [← hl]
    cases inS S x with
    | false => exact ⟨rfl, h⟩
    | true =>
      refine ⟨rfl, ?_⟩
      simp only [Bool.false_eq_true, if_false, if_true]
      by_cases h16 : len = 16
      · rw [if_pos h16, if_pos h16]
        by_cases h0 : S.left = 0
        · rw [if_pos h0, if_pos h0]
          exact h.fall hg
        · rw [if_neg h0, if_neg h0]
          exact h.put hg _ _
      · rw [if_neg h16, if_neg h16]
        exact h
theorem row_some {w : World} {a : Option Addr} {c : Nat} {zs : List Int} (R : Row .u8 w a 16 c zs) : ∃ b off, a = some ⟨b, off, none⟩ ∧ b < w.heap.size := by
  rcases R.mem with h | ⟨b, off, e, hb, _⟩
  · cases h
  · exact ⟨b, off, e, hb⟩
theorem write_all (d l : Nat) (S : DS) (x : Int) (a : Option Addr) (len c : Nat) (zs : List Int) (w : World) (D : DkP w d l S) (R : Row .u8 w a len c zs) (hb : ∀ b o, a = some ⟨b, o, none⟩ → b ≠ d ∧ b ≠ l) :
    Calls Tryd.prog 34 #[.pointer (some ⟨d, 0, none⟩), .int .i64 x, .slice a len c] w fun e w' => e = .returned (.int .i64 (wrC S x len)) ∧ DkP w' d l (wrS S x len zs) ∧ Only (at2 d l) w w' := by
  unfold wrC wrS
  cases hg : S.gone with
  | true => exact (write_dead d l S x _ w D hg).mono fun e w' ⟨h1, h2⟩ => ⟨h1, D.below h2, Only.of_below h2⟩
  | false =>
    simp only [Bool.false_eq_true, if_false]
    cases hi : inS S x with
    | false => exact (write_no d l S x _ w D hg hi).mono fun e w' ⟨h1, h2⟩ => ⟨h1, D.below h2, Only.of_below h2⟩
    | true =>
      simp only [if_true]
      by_cases h16 : len = 16
      · subst h16
        rw [if_pos rfl, if_pos rfl]
        by_cases h0 : S.left = 0
        · rw [if_pos h0, if_pos h0]
          exact (write_cut d l S x a c w D hg hi h0).mono fun e w' ⟨h1, h2, h3⟩ => ⟨h1, h2, h3.two l⟩
        · rw [if_neg h0, if_neg h0]
          obtain ⟨i, rfl, hin⟩ := inS_yes hi
          obtain ⟨b, off, rfl, _⟩ := row_some R
          rw [Int.toNat_natCast]
          exact write_ok d l S i b off c zs w D hg hin h0 R (hb b off rfl).1 (hb b off rfl).2
      · rw [if_neg h16, if_neg h16]
        exact (write_form d l S x a len c w D hg hi h16).mono fun e w' ⟨h1, h2⟩ => ⟨h1, D.below h2, Only.of_below h2⟩
theorem rwrite_all (d l : Nat) (S : DS) (x : Int) (a : Option Addr) (len c : Nat) (zs : List Int) (w : World) (D : DkR w d l S) (R : Row .u8 w a len c zs) (hb : ∀ b o, a = some ⟨b, o, none⟩ → b ≠ d) :
    Calls Tryd.prog 35 #[.pointer (some ⟨d, 0, none⟩), .int .i64 x, .slice a len c] w fun e w' => e = .returned (.int .i64 (wrC S x len)) ∧ DkR w' d l (rwS S x len zs) ∧ Only (at2 d l) w w' := by
  unfold wrC rwS
  cases hg : S.gone with
  | true => exact (rwrite_dead d l S x _ w D hg).mono fun e w' ⟨h1, h2⟩ => ⟨h1, D.below h2, Only.of_below h2⟩
  | false =>
    simp only [Bool.false_eq_true, if_false]
    cases hi : inS S x with
    | false => exact (rwrite_no d l S x _ w D hg hi).mono fun e w' ⟨h1, h2⟩ => ⟨h1, D.below h2, Only.of_below h2⟩
    | true =>
      simp only [if_true]
      obtain ⟨i, rfl, hin⟩ := inS_yes hi
      by_cases h16 : len = 16
      · subst h16
        rw [if_pos rfl, if_pos rfl]
        by_cases h0 : S.left = 0
        · rw [if_pos h0, if_pos h0]
          exact (rwrite_cut d l S i a c w D hg hin h0).mono fun e w' ⟨h1, h2, h3⟩ => ⟨h1, h2, h3.two l⟩
        · rw [if_neg h0, if_neg h0]
          obtain ⟨b, off, rfl, _⟩ := row_some R
          rw [Int.toNat_natCast]
          exact rwrite_ok d l S i b off c zs w D hg hin h0 R (hb b off rfl)
      · rw [if_neg h16, if_neg h16]
        exact (rwrite_form d l S i a len c w D hg hin h16).mono fun e w' ⟨h1, h2⟩ => ⟨h1, D.below h2, Only.of_below h2⟩
/-- What Read tells where it hands out nothing. -/
def rdC (S : DS) : Int := if S.gone then 32 else 31
theorem read_none (d l : Nat) (S : DS) (x : Int) (w : World) (D : DkP w d l S) (h : S.gone = true ∨ inS S x = false) : Calls Tryd.prog 41 #[.pointer (some ⟨d, 0, none⟩), .int .i64 x] w fun e w' => e = .returned (.tuple #[.slice none 0 0, .int .i64 (rdC S)]) ∧ Below w.heap.size w w' := by
  unfold rdC
  cases hg : S.gone with
  | true => exact read_dead d l S x w D hg
  | false => exact read_no d l S x w D hg (h.resolve_left (by rw [hg]; simp))
theorem sim_rd {S T : DS} (h : Sim S T) : rdC T = rdC S := by unfold rdC; rw [h.gone]
end Go.Proofs.YtaacggbfoejjhaaDoor.D
