/-
  Package topo: the chapter's examples, which every statement calls at its end.
-/
import Derived.Test.YthpdaiaakpimkaaM9
namespace Go.Proofs.Ythpdaiaakpimkaa
open Go.ChangeShapes Go.WideShapes Go.ChangeAt Go.RowKit
set_option linter.unusedVariables false
set_option linter.unusedSimpArgs false

theorem row_lit (w : World) (l : List Int) (hl : l.length ≤ 1000) : Row (w.alloc (.cells (l.map iv).toArray 3)) (some ⟨w.heap.size, 0, none⟩) l.length l.length l := by
  refine ⟨rfl, Nat.le_refl _, by unfold maxLen; omega, (fun e => by cases e), .inr ⟨w.heap.size, 0, rfl, by simp, fun k hk => ?_⟩⟩
  simp [List.getD, hk]
theorem ex_un : un [5, 1, 7] 2 5 = ([1, 7], 1, 0) := by decide +kernel
theorem ex_lnk : lnk 3 [5] 3 = ([5], 41) := by decide +kernel
theorem ex_tr : tr [5, 1, 7] 1 4 = [1, 7, 5, 1] := by decide +kernel
theorem ex_tn : tn [5, 1, 7] 4 = 4 := by decide +kernel
set_option maxRecDepth 100000 in
set_option maxHeartbeats 4000000 in
theorem awake_any (w : World) : Calls Try.prog 9 #[] w fun e w' => e = .returned (.bool true) ∧ Below w.heap.size w w' := by
  have K1 : ∀ W, Row W (some ⟨w.heap.size, 0, none⟩) 3 3 [5, 1, 7] → Calls Try.prog 18 #[.slice (some ⟨w.heap.size, 0, none⟩) 3 3, .int .i64 2] W fun e w' => e = .returned (.tuple #[.int .i64 7, .int .i64 0, .bool true]) ∧ Below W.heap.size W w' := fun W R => next_some _ 3 3 [5, 1, 7] 2 W R (by decide)
  have K2 : ∀ W b, Row W b 3 3 [5, 1, 7] → Calls Try.prog 16 #[.slice b 3 3, .int .i64 2, .int .i64 5] W fun e w' => ∃ a' c', e = .returned (.tuple #[.slice a' 2 c', .int .i64 1, .int .i64 0]) ∧ Row w' a' 2 c' [1, 7] ∧ Below W.heap.size W w' := fun W b R => by
    have h := unlink_any b 3 3 [5, 1, 7] 2 5 W R (by decide) (.inl (by decide))
    rw [ex_un] at h
    exact h
  have K3 : ∀ W b, Row W b 1 1 [5] → Calls Try.prog 11 #[.int .i64 3, .slice b 1 1, .int .i64 3] W fun e w' => ∃ a' c', e = .returned (.tuple #[.slice a' 1 c', .int .i64 41]) ∧ Below W.heap.size W w' := fun W b R => by
    have h := link_any 3 b 1 1 [5] 3 W R (by decide)
    rw [ex_lnk] at h
    refine h.mono ?_
    rintro e w' ⟨a', c', rfl, _, hb⟩
    exact ⟨a', c', rfl, hb⟩
  have K4 : ∀ W b, Row W b 3 3 [5, 1, 7] → Calls Try.prog 22 #[.slice b 3 3, .int .i64 1, .int .i64 4] W fun e w' => ∃ a' c', e = .returned (.slice a' 4 c') ∧ Row w' a' 4 c' [1, 7, 5, 1] ∧ Below W.heap.size W w' := fun W b R => by
    have h := turns_all b 3 3 [5, 1, 7] 1 4 W R (.inl (by decide))
    rw [ex_tn, ex_tr] at h
    exact h
  go_enter Try.func9, Try.ntmps9
  go_wp2_with (first
    | (go_at_call 18; refine (K1 _ (row_lit w [5, 1, 7] (by decide))).mono ?_; clear K1; rintro e w1 ⟨rfl, b1⟩; have B1 : Below w.heap.size w w1 := ((Below.refl _ w).alloc (Nat.le_refl _) _).trans (b1.mono (by simp)); clear b1)
    | (go_at_call 16; refine (K2 _ _ (row_lit w1 [5, 1, 7] (by decide))).mono ?_; clear K2; rintro e w2 ⟨a2, c2, rfl, R2, b2⟩; have B2 : Below w.heap.size w w2 := (B1.alloc B1.size _).trans (b2.mono (by have := B1.size; simp; omega)); clear b2)
    | (go_at_call 11; refine (K3 _ _ (row_lit w2 [5] (by decide))).mono ?_; clear K3; rintro e w3 ⟨a3, c3, rfl, b3⟩; have R3 := (R2.below ((Below.refl _ w2).alloc (Nat.le_refl _) _)).below b3; have B3 : Below w.heap.size w w3 := (B2.alloc B2.size _).trans (b3.mono (by have := B2.size; simp; omega)); clear b3 R2)
    | (go_at_call 13; refine (same_any a2 2 c2 _ 2 [1, 7] _ (R3.below ((Below.refl _ w3).alloc (Nat.le_refl _) _)) (row_lit w3 [1, 7] (by decide))).mono ?_; clear R3; rintro e w4 ⟨rfl, b4⟩; have B4 : Below w.heap.size w w4 := (B3.alloc B3.size _).trans (b4.mono (by have := B3.size; simp; omega)); clear b4)
    | (go_at_call 22; refine (K4 _ _ (row_lit w4 [5, 1, 7] (by decide))).mono ?_; clear K4; rintro e w5 ⟨a5, c5, rfl, R5, b5⟩; have B5 : Below w.heap.size w w5 := (B4.alloc B4.size _).trans (b5.mono (by have := B4.size; simp; omega)); clear b5)
    | (go_at_call 13; refine (same_any a5 4 c5 _ 4 [1, 7, 5, 1] _ (R5.below ((Below.refl _ w5).alloc (Nat.le_refl _) _)) (row_lit w5 [1, 7, 5, 1] (by decide))).mono ?_; clear R5; rintro e w6 ⟨rfl, b6⟩; have B6 : Below w.heap.size w w6 := (B5.alloc B5.size _).trans (b6.mono (by have := B5.size; simp; omega)); clear b6))
  go_ret
  exact ⟨rfl, B6⟩
end Go.Proofs.Ythpdaiaakpimkaa
