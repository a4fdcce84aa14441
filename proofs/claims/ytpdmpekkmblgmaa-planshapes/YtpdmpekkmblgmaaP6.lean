/-
  Package plan: the numbers of a seed; the same by the document.
-/
import Derived.Test.YtpdmpekkmblgmaaP1
namespace Go.Proofs.Ytpdmpekkmblgmaa
open Go.ChangeShapes Go.WideShapes Go.ChangeAt Go.RowKit Go.Maps Go.Shelf
set_option linter.unusedVariables false
set_option linter.unusedSimpArgs false
attribute [local go_sem] Oper.semAt_some

theorem ret_u64 {a b : Int} (h : a = b) : Ending.returned (.int .u64 a) = .returned (.int .u64 b) := by rw [h]
/-- From a number of a seed to the next. -/
def nx (x : Int) : Int := IntKind.u64.wrap (IntKind.u64.wrap (x * 6364136223846793005) + 1442695040888963407)
def up (x : Int) : Int := x / 8589934592
def nxs : Nat → Int → Int
  | 0, x => x
  | k + 1, x => nx (nxs k x)
theorem nx_rng (x : Int) : 0 ≤ nx x ∧ nx x < 18446744073709551616 := by
  unfold nx
  simp only [IntKind.wrap_u64]
  omega
theorem step_any (x : Int) (w : World) : Calls Try.prog 35 #[.int .u64 x] w fun e w' => e = .returned (.int .u64 (nx x)) ∧ w' = w := by
  go_enter Try.func35, Try.ntmps35
  go_wp2
  go_ret
  exact ⟨rfl, rfl⟩
theorem next_any (b : Nat) (x : Int) (w : World) (h : One w b (.int .u64 x)) : Calls Try.prog 34 #[.pointer (some ⟨b, 0, none⟩)] w fun e w' => e = .returned (.int .u64 (up (nx x))) ∧ w' = w.setCell ⟨b, 0, none⟩ (.int .u64 (nx x)) := by
  obtain ⟨h0, h1, h2⟩ := h
  go_enter Try.func34, Try.ntmps34
  go_wp2
  go_ret
  exact ⟨rfl, rfl⟩
/-- The next number of a seed as one below n. -/
def bl (n x : Int) : Int := up (nx x) % n
theorem bl_rng {n x : Int} (h : 1 ≤ n) : 0 ≤ bl n x ∧ bl n x < n := by
  unfold bl
  exact ⟨Int.emod_nonneg _ (by omega), Int.emod_lt_of_pos _ (by omega)⟩
theorem up_rng (x : Int) : 0 ≤ up (nx x) ∧ up (nx x) < 2147483648 := by
  have := nx_rng x
  unfold up
  omega
theorem below_any (b : Nat) (x n : Int) (w : World) (h : One w b (.int .u64 x)) (h1 : 1 ≤ n) (h2 : n ≤ 16) : Calls Try.prog 66 #[.pointer (some ⟨b, 0, none⟩), .int .i64 n] w fun e w' => e = .returned (.int .i64 (bl n x)) ∧ w' = w.setCell ⟨b, 0, none⟩ (.int .u64 (nx x)) := by
  have K := next_any b x w h
  have hu := up_rng x
  obtain ⟨u, hue⟩ : ∃ u, up (nx x) = u := ⟨_, rfl⟩
  have HB : Hid (bl n x = u % n) := by show _ = _; unfold bl; rw [hue]
  rw [hue] at K hu
  have c1 : IntKind.u64.wrap n = n := by rw [IntKind.wrap_u64]; omega
  have hn0 : (n == 0) = false := by simp; omega
  have hn0' : n ≠ 0 := by omega
  have hm : Int.tmod u n = u % n := Int.tmod_eq_emod_of_nonneg hu.1
  have hlt : u % n < n := Int.emod_lt_of_pos _ (by omega)
  have hge : 0 ≤ u % n := Int.emod_nonneg _ (by omega)
  have c2 : IntKind.i64.wrap (u % n) = u % n := by rw [IntKind.wrap_i64]; omega
  have c3 : IntKind.u64.wrap (u % n) = u % n := by rw [IntKind.wrap_u64]; omega
  clear hue h
  go_enter Try.func66, Try.ntmps66
  go_wp2_with (go_at_call 34; refine K.mono ?_; clear K; rintro e w1 ⟨rfl, rfl⟩)
  go_ret
  exact ⟨ret_i64 (by rw [HB.out]), rfl⟩
/-- The k-th number of a seed. -/
def rnd (x k : Int) : Int := if k < 1 ∨ 100000 < k then 0 else up (nxs k.toNat x)
theorem nxs_succ (k : Nat) (x : Int) : nxs (k + 1) x = nx (nxs k x) := rfl
set_option maxRecDepth 100000 in
set_option maxHeartbeats 1000000 in
theorem rrandom_any (x k : Int) (w : World) : Calls Try.prog 12 #[.int .u64 x, .int .i64 k] w fun e w' => e = .returned (.int .u64 (rnd x k)) ∧ w' = w := by
  have KS := fun x W => step_any x W
  by_cases h1 : k < 1
  · have HR : Hid (rnd x k = 0) := by show _ = _; unfold rnd; rw [if_pos (Or.inl h1)]
    go_enter Try.func12, Try.ntmps12
    go_wp2
    go_ret
    exact ⟨ret_u64 HR.out.symm, rfl⟩
  · by_cases h2 : k > 100000
    · have HR : Hid (rnd x k = 0) := by show _ = _; unfold rnd; rw [if_pos (Or.inr h2)]
      go_enter Try.func12, Try.ntmps12
      go_wp2
      go_ret
      exact ⟨ret_u64 HR.out.symm, rfl⟩
    · have HR : Hid (rnd x k = up (nxs k.toNat x) ∧ 1 ≤ k ∧ k ≤ 100000) := by show _ ∧ _; unfold rnd; rw [if_neg (by omega)]; exact ⟨rfl, by omega, by omega⟩
      go_enter Try.func12, Try.ntmps12
      go_wp2
      go_loopg [5, 6] k.toNat (fun gk v5 v6 wr => ∃ i : Nat, v5 = .int .u64 (nxs i x) ∧ v6 = .int .i64 (i : Int) ∧ (i : Int) + gk = k ∧ wr = w)
      case atStart => exact ⟨0, rfl, by first | rfl | go_num, by have := HR.out; omega, rfl⟩
      case round =>
        obtain ⟨i, rfl, rfl, hg, rfl⟩ := hrel
        by_cases hi : (i : Int) < k
        · have hin : IntKind.i64.wrap ((i : Int) + 1) = (i : Int) + 1 := by rw [IntKind.wrap_i64]; have := HR.out; omega
          go_wp2_with (go_at_call 35; refine (KS _ _).mono ?_; rintro e w1 ⟨rfl, hw⟩; rw [hw]; clear hw w1)
          go_roundg (gk - 1)
          case measure => omega
          case rel => exact ⟨i + 1, rfl, by first | rfl | go_num, by omega, rfl⟩
        · have HI : Hid (k.toNat = i) := by show _ = _; omega
          go_wp2
          go_ret
          exact ⟨ret_u64 (by rw [HR.out.1, HI.out]; rfl), rfl⟩
set_option maxRecDepth 100000 in
set_option maxHeartbeats 1000000 in
theorem random_any (x k : Int) (w : World) : Calls Try.prog 11 #[.int .u64 x, .int .i64 k] w fun e w' => e = .returned (.int .u64 (rnd x k)) ∧ Below w.heap.size w w' := by
  have KS := fun b x W h => next_any b x W h
  by_cases h1 : k < 1
  · have HR : Hid (rnd x k = 0) := by show _ = _; unfold rnd; rw [if_pos (Or.inl h1)]
    go_enter Try.func11, Try.ntmps11
    go_wp2
    go_ret
    exact ⟨ret_u64 HR.out.symm, Below.refl _ _⟩
  · by_cases h2 : k > 100000
    · have HR : Hid (rnd x k = 0) := by show _ = _; unfold rnd; rw [if_pos (Or.inr h2)]
      go_enter Try.func11, Try.ntmps11
      go_wp2
      go_ret
      exact ⟨ret_u64 HR.out.symm, Below.refl _ _⟩
    · have HR : Hid (rnd x k = up (nxs k.toNat x) ∧ 1 ≤ k ∧ k ≤ 100000) := by show _ ∧ _; unfold rnd; rw [if_neg (by omega)]; exact ⟨rfl, by omega, by omega⟩
      have hsub : IntKind.i64.wrap (k - 1) = k - 1 := by rw [IntKind.wrap_i64]; omega
      go_enter Try.func11, Try.ntmps11
      go_wp2
      go_loopg [16] (k.toNat - 1) (fun gk v16 wr => ∃ i : Nat, v16 = .int .i64 (i : Int) ∧ (i : Int) + 1 + gk = k ∧ One wr w.heap.size (.int .u64 (nxs i x)) ∧ Below w.heap.size w wr)
      case atStart => exact ⟨0, by first | rfl | go_num, by have := HR.out; omega, One.new _ _ _, (Below.refl _ _).alloc (Nat.le_refl _) _⟩
      case round =>
        obtain ⟨i, rfl, hg, O, B⟩ := hrel
        have K := KS _ _ _ O
        by_cases hi : (i : Int) < k - 1
        · have hin : IntKind.i64.wrap ((i : Int) + 1) = (i : Int) + 1 := by rw [IntKind.wrap_i64]; have := HR.out; omega
          go_wp2_with (go_at_call 34; refine K.mono ?_; clear K; rintro e w1 ⟨rfl, rfl⟩)
          go_roundg (gk - 1)
          case measure => omega
          case rel => exact ⟨i + 1, by first | rfl | go_num, by omega, O.set _, B.setCell (p := ⟨w.heap.size, 0, none⟩) (Nat.le_refl _) _⟩
        · have HI : Hid (k.toNat = i + 1) := by show _ = _; omega
          go_wp2_with (go_at_call 34; refine K.mono ?_; clear K; rintro e w1 ⟨rfl, rfl⟩)
          go_ret
          exact ⟨ret_u64 (by rw [HR.out.1, HI.out]; rfl), B.setCell (p := ⟨w.heap.size, 0, none⟩) (Nat.le_refl _) _⟩
end Go.Proofs.Ytpdmpekkmblgmaa
