/-
  Both disks side by side: new memory.
-/
import Derived.Test.YtoecgldpmmclgaaBoA
namespace Go.Proofs.Ytoecgldpmmclgaa
open Go.ChangeShapes Go.WideShapes Go.ChangeAt Go.RowKit
set_option linter.unusedVariables false
theorem Only.next {C E : Nat → Prop} {a b c : World} (h : Only C a b) (k : Only E b c) (hE : ∀ q, E q → a.heap.size ≤ q ∨ C q) : Only C a c :=
  ⟨k.os.trans h.os, k.tape.trans h.tape, k.output.trans h.output, Nat.le_trans h.size k.size, fun q hq hn => (k.block q (Nat.lt_of_lt_of_le hq h.size) (fun he => (hE q he).elim (fun hle => by omega) hn)).trans (h.block q hq hn)⟩
theorem Row.of_block0 {kd : IntKind} {w w' : World} {a : Option Addr} {len cap : Nat} {zs : List Int} (R : Row kd w a len cap zs) (hs : w.heap.size ≤ w'.heap.size) (hb : ∀ b o, a = some ⟨b, o, none⟩ → b < w.heap.size → 0 < len → w'.heap[b]? = w.heap[b]?) : Row kd w' a len cap zs := by
  by_cases h0 : len = 0
  · exact ⟨R.size, R.le, R.nil, R.wf, .inl h0⟩
  · exact R.of_block hs fun b o e h => hb b o e h (by omega)
theorem rwrite_all0 (d l : Nat) (S : DS) (x : Int) (a : Option Addr) (len c : Nat) (zs : List Int) (w : World) (D : DkR w d l S) (R : Row .u8 w a len c zs) (hb : ∀ b o, a = some ⟨b, o, none⟩ → 0 < len → b ≠ d) :
    Calls Try.prog 23 #[.pointer (some ⟨d, 0, none⟩), .int .i64 x, .slice a len c] w fun e w' => e = .returned (.int .i64 (wrC S x len)) ∧ DkR w' d l (rwS S x len zs) ∧ Only (at2 d l) w w' := by
  unfold wrC rwS
  cases hg : S.gone with
  | true => exact (rwrite_dead d l S x _ w D hg).mono fun e w' ⟨h1, h2⟩ => ⟨h1, D.below h2, Only.of_below h2⟩
  | false =>
    simp only [Bool.false_eq_true, if_false]
    cases hi : inS S x with
    | false => exact (rwrite_no d l S x _ w D hg hi).mono fun e w' ⟨h1, h2⟩ => ⟨h1, D.below h2, Only.of_below h2⟩
    | true =>
      simp only [if_true]
      obtain ⟨i, rfl, hin⟩ := inS_yes hi
      by_cases h16 : len = 16
      · subst h16
        rw [if_pos rfl, if_pos rfl]
        by_cases h0 : S.left = 0
        · rw [if_pos h0, if_pos h0]
          exact (rwrite_cut d l S i a c w D hg hin h0).mono fun e w' ⟨h1, h2, h3⟩ => ⟨h1, h2, h3.two l⟩
        · rw [if_neg h0, if_neg h0]
          obtain ⟨b, off, rfl, _⟩ := row_some R
          rw [Int.toNat_natCast]
          exact rwrite_ok d l S i b off c zs w D hg hin h0 R (hb b off rfl (by omega))
      · rw [if_neg h16, if_neg h16]
        exact (rwrite_form d l S i a len c w D hg hin h16).mono fun e w' ⟨h1, h2⟩ => ⟨h1, D.below h2, Only.of_below h2⟩
theorem Row.lt {kd : IntKind} {w : World} {b o len cap : Nat} {zs : List Int} (R : Row kd w (some ⟨b, o, none⟩) len cap zs) (h : 0 < len) : b < w.heap.size := by
  rcases R.mem with h0 | ⟨b', o', e, hb, _⟩
  · omega
  · cases e; exact hb
end Go.Proofs.Ytoecgldpmmclgaa
