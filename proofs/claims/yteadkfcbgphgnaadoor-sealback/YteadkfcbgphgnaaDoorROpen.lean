/-
  What the document's own Open returns.
-/
import Derived.Test.YteadkfcbgphgnaaDoorSeal
namespace Go.Proofs.YteadkfcbgphgnaaDoor
open Go.ChangeShapes Go.WideShapes Go.ChangeAt Go.RowKit
set_option linter.unusedVariables false

theorem u8_ne {z c : Int} (h : z ≠ c) : (z != c) = true := by simp [h]

/-- Byte i of a sum is the one that stands there. -/
def SameAt (zs : List Int) (N s i : Nat) : Prop := zs.getD (4 + N + i) 0 = ((s / 2 ^ (8 * i) % 256 : Nat) : Int)
theorem same_le4 (zs : List Int) (N s : Nat) (h : 4 + N + 4 ≤ zs.length) : (zs.drop (4 + N)).take 4 = le4 s ↔ (SameAt zs N s 0 ∧ SameAt zs N s 1 ∧ SameAt zs N s 2 ∧ SameAt zs N s 3) := by
  rw [four_take zs (4 + N) h]
  unfold SameAt le4
  simp only [List.cons.injEq, and_true]
  simp only [Nat.mul_zero, Nat.pow_zero, Nat.div_one, Nat.mul_one, Nat.reduceMul, Nat.reducePow, Nat.add_zero]

set_option maxHeartbeats 4000000 in
theorem ropen_form (a : Option Addr) (len cap : Nat) (zs : List Int) (w : World) (R : Row .u8 w a len cap zs) (hcap : cap ≤ 9223372036854775807)
    (h : (0 < zs.length ∧ zs.getD 0 0 ≠ 237) ∨ (1 < zs.length ∧ zs.getD 1 0 ≠ 91)) :
    Calls Tryd.prog 17 #[.slice a len cap] w fun e w' => e = .returned (.tuple #[.slice none 0 0, .int .i64 0, .int .i64 20]) ∧ Below w.heap.size w w' := by
  have hsz := R.size
  have hle := R.le
  have hpos : 0 < len := by omega
  obtain ⟨b, off, rfl, hb, hcc⟩ := R.mem.resolve_left (by omega)
  clear hcc
  have c0 := R.at 0 (by omega)
  rw [Nat.add_zero] at c0
  by_cases h0 : zs.getD 0 0 = 237
  · have h1 : 1 < len ∧ zs.getD 1 0 ≠ 91 := by
      rcases h with h | h
      · exact absurd h0 h.2
      · exact ⟨by omega, h.2⟩
    obtain ⟨hl1, h1⟩ := h1
    have c1 := R.at 1 hl1
    rw [h0] at c0
    obtain ⟨y, hy⟩ : ∃ y, zs.getD 1 0 = y := ⟨_, rfl⟩
    rw [hy] at c1 h1
    have h1' := u8_ne h1
    clear h h0 hy R h1
    go_enter Tryd.func17, Tryd.ntmps17
    go_wp2
    go_ret3
    exact ⟨rfl, Below.refl _ _⟩
  · obtain ⟨x, hx⟩ : ∃ x, zs.getD 0 0 = x := ⟨_, rfl⟩
    rw [hx] at c0 h0
    have h0' := u8_ne h0
    clear h hx R h0
    go_enter Tryd.func17, Tryd.ntmps17
    go_wp2
    go_ret3
    exact ⟨rfl, Below.refl _ _⟩

set_option maxHeartbeats 4000000 in
theorem ropen_short (a : Option Addr) (len cap : Nat) (zs : List Int) (w : World) (R : Row .u8 w a len cap zs) (hcap : cap ≤ 9223372036854775807)
    (h : ¬ ((0 < zs.length ∧ zs.getD 0 0 ≠ 237) ∨ (1 < zs.length ∧ zs.getD 1 0 ≠ 91))) (h4 : len < 4) :
    Calls Tryd.prog 17 #[.slice a len cap] w fun e w' => e = .returned (.tuple #[.slice none 0 0, .int .i64 0, .int .i64 21]) ∧ Below w.heap.size w w' := by
  have hsz := R.size
  have hle := R.le
  rcases Nat.eq_zero_or_pos len with e | hpos
  · subst e
    clear h R
    go_enter Tryd.func17, Tryd.ntmps17
    go_wp2
    go_ret3
    exact ⟨rfl, Below.refl _ _⟩
  · obtain ⟨b, off, rfl, hb, hcc⟩ := R.mem.resolve_left (by omega)
    clear hcc
    have c0 := R.at 0 (by omega)
    rw [Nat.add_zero] at c0
    have h0 : zs.getD 0 0 = 237 := by
      apply Classical.byContradiction
      intro hn
      exact h (.inl ⟨by omega, hn⟩)
    rw [h0] at c0
    by_cases hl1 : 1 < len
    · have c1 := R.at 1 hl1
      have h1 : zs.getD 1 0 = 91 := by
        apply Classical.byContradiction
        intro hn
        exact h (.inr ⟨by omega, hn⟩)
      rw [h1] at c1
      clear h h0 h1 R
      go_enter Tryd.func17, Tryd.ntmps17
      go_wp2
      go_ret3
      exact ⟨rfl, Below.refl _ _⟩
    · have e : len = 1 := by omega
      subst e
      clear h h0 R
      go_enter Tryd.func17, Tryd.ntmps17
      go_wp2
      go_ret3
      exact ⟨rfl, Below.refl _ _⟩

theorem div256 (s : Nat) (i : Nat) : ((s / 2 ^ (8 * i) % 256 : Nat) : Int) = (s : Int) / 2 ^ (8 * i) % 256 := by
  rw [Int.natCast_emod, Int.natCast_ediv, Int.natCast_pow]
  rfl

set_option maxHeartbeats 8000000 in
theorem ropen_long (b off len cap : Nat) (zs : List Int) (w : World) (R : Row .u8 w (some ⟨b, off, none⟩) len cap zs) (hcap : cap ≤ 9223372036854775807) (hl : len ≤ 140737488355328)
    (h0 : zs.getD 0 0 = 237) (h1 : zs.getD 1 0 = 91) (h4 : 4 ≤ len) (h5 : len < lenAt zs + 8) :
    Calls Tryd.prog 17 #[.slice (some ⟨b, off, none⟩) len cap] w fun e w' => e = .returned (.tuple #[.slice none 0 0, .int .i64 0, .int .i64 21]) ∧ Below w.heap.size w w' := by
  have hsz := R.size
  have hle := R.le
  have c0 := R.at 0 (by omega)
  have c1 := R.at 1 (by omega)
  have c2 := R.at 2 (by omega)
  have c3 := R.at 3 (by omega)
  rw [Nat.add_zero, h0] at c0
  rw [h1] at c1
  have b2 := byt_at R.byte 2 (by omega)
  have b3 := byt_at R.byte 3 (by omega)
  have HL : Hid (lenAt zs = (zs.getD 2 0).toNat + 256 * (zs.getD 3 0).toNat) := rfl
  obtain ⟨N, hN⟩ : ∃ N, lenAt zs = N := ⟨_, rfl⟩
  obtain ⟨x, hx⟩ : ∃ x, zs.getD 2 0 = x := ⟨_, rfl⟩
  obtain ⟨y, hy⟩ : ∃ x, zs.getD 3 0 = x := ⟨_, rfl⟩
  rw [hN] at HL h5
  rw [hx] at HL c2 b2
  rw [hy] at HL c3 b3
  have hxy : x + 256 * y = (N : Int) := by have := HL.out; omega
  clear R HL hN hx hy h0 h1
  go_enter Tryd.func17, Tryd.ntmps17
  go_wp2
  go_quiet (fail)
  go_wp2
  go_ret3
  exact ⟨rfl, below_drewN (Below.refl _ _) _⟩

end Go.Proofs.YteadkfcbgphgnaaDoor
