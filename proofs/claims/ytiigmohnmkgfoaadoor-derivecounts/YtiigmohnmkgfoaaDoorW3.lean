/-
  What the law DeriveCounts returns.
-/
import Derived.Test.YtiigmohnmkgfoaaDoorDJ
namespace Go.Proofs.YtiigmohnmkgfoaaDoor
open Go.ChangeShapes Go.WideShapes Go.ChangeAt Go.RowKit
set_option linter.unusedVariables false
set_option linter.unusedSimpArgs false

theorem u64_mod (x : Int) (k : Int) (hk : 0 < k) : 0 ≤ (IntKind.u64.wrap x).tmod k ∧ (IntKind.u64.wrap x).tmod k < k := by
  have h : 0 ≤ IntKind.u64.wrap x := by rw [IntKind.wrap_u64]; exact Int.emod_nonneg _ (by omega)
  rw [Int.tmod_eq_emod_of_nonneg h]
  exact ⟨Int.emod_nonneg _ (by omega), Int.emod_lt_of_pos _ hk⟩
theorem cnt_of {m z x : Int} (hm : 1 ≤ m) (hz : z ≤ 1048576) (h : 2 * m * (m + 1) ≤ z) (hx : x = z / m ∨ (x = z / m - 1 ∧ z % m = 0) ∨ (x = z / m + 1 ∧ z % m ≠ 0)) : cntV x z = m ∧ cntE x z = 0 := by
  obtain ⟨h0, h1⟩ := cnt_cut hm h hx
  have hm2 : 0 ≤ m * m := Int.mul_nonneg (by omega) (by omega)
  have hm3 : 2 * m * (m + 1) = 2 * (m * m) + 2 * m := by rw [Int.mul_add, Int.mul_assoc, Int.mul_one]
  have hz0 : 1 ≤ z := by omega
  have hq : z / m ≤ z := Int.ediv_le_self _ (by omega)
  have hc : chkE x z = 0 := by
    unfold chkE
    rw [if_pos (show scB z 1048576 = true from decide_eq_true (by omega)), if_pos (show fitB x = true from decide_eq_true (by omega))]
  have hE : cntE x z = 0 := by
    unfold cntE
    rw [if_pos hc, if_neg (by omega)]
  refine ⟨?_, hE⟩
  unfold cntV
  rw [if_pos hE]
  exact h1

set_option maxRecDepth 100000 in
set_option maxHeartbeats 4000000 in
theorem counts_far (n s off N S m z P : Int) (w : World) (ht : Tab w) (hN : (IntKind.u64.wrap n).tmod 700 = N) (hS : (IntKind.u64.wrap s).tmod 1048576 = S) (n0 : 0 ≤ N) (n1 : N < 700) (s0 : 0 ≤ S) (s1 : S < 1048576) (hm : 1 + N = m) (m0 : 1 ≤ m) (m1 : m ≤ 700) (hz : 1 + S = z) (z0 : 1 ≤ z) (z1 : z ≤ 1048576) (hP : 2 * m * (m + 1) = P) (p0 : 0 ≤ P) (p1 : P ≤ 1000000) (h : z < P) :
    Calls Tryd.prog 5 #[.int .i64 n, .int .i64 s, .int .i64 off] w fun en w' => en = .returned (.bool true) ∧ Below w.heap.size w w' := by
  go_enter Tryd.func5, Tryd.ntmps5
  go_wp2_with (go_at_call 16; refine (awake_any _ ht).mono ?_; rintro en w3 ⟨rfl, b3⟩)
  go_ret
  exact ⟨rfl, b3⟩

set_option maxRecDepth 100000 in
set_option maxHeartbeats 4000000 in
theorem counts_neg (n s off N S m z P : Int) (w : World) (ht : Tab w) (hN : (IntKind.u64.wrap n).tmod 700 = N) (hS : (IntKind.u64.wrap s).tmod 1048576 = S) (n0 : 0 ≤ N) (n1 : N < 700) (s0 : 0 ≤ S) (s1 : S < 1048576) (hm : 1 + N = m) (m0 : 1 ≤ m) (m1 : m ≤ 700) (hz : 1 + S = z) (z0 : 1 ≤ z) (z1 : z ≤ 1048576) (hP : 2 * m * (m + 1) = P) (p0 : 0 ≤ P) (p1 : P ≤ 1000000) (h : P ≤ z) (q r : Int) (hq : z / m = q) (hr : z % m = r) (q0 : 0 ≤ q) (q1 : q ≤ 1048576) (o : off < 0) (e : (r == 0) = true)
    (KI : ∀ W, Calls Tryd.prog 12 #[.int .i64 2, .int .i64 1, .int .i64 z] W fun en w' => en = .returned (.tuple #[.int .i64 z, .int .i64 0]) ∧ Below W.heap.size W w')
    (KC : ∀ W, Calls Tryd.prog 10 #[.int .i64 (q - 1), .int .i64 z] W fun en w' => en = .returned (.tuple #[.int .i64 m, .int .i64 0]) ∧ Below W.heap.size W w') :
    Calls Tryd.prog 5 #[.int .i64 n, .int .i64 s, .int .i64 off] w fun en w' => en = .returned (.bool true) ∧ Below w.heap.size w w' := by
  go_enter Tryd.func5, Tryd.ntmps5
  go_wp2_with (first
    | (go_at_call 12; refine (KI _).mono ?_; clear KI; rintro en w1 ⟨rfl, b1⟩)
    | (go_at_call 10; refine (KC _).mono ?_; clear KC; rintro en w2 ⟨rfl, b2⟩; have B2 : Below w.heap.size w w2 := b1.trans (b2.mono b1.size))
    | (go_at_call 16; refine (awake_any _ (ht.below B2)).mono ?_; rintro en w3 ⟨rfl, b3⟩; have B3 : Below w.heap.size w w3 := B2.trans (b3.mono B2.size)))
  go_ret
  exact ⟨rfl, B3⟩

set_option maxRecDepth 100000 in
set_option maxHeartbeats 4000000 in
theorem counts_negN (n s off N S m z P : Int) (w : World) (ht : Tab w) (hN : (IntKind.u64.wrap n).tmod 700 = N) (hS : (IntKind.u64.wrap s).tmod 1048576 = S) (n0 : 0 ≤ N) (n1 : N < 700) (s0 : 0 ≤ S) (s1 : S < 1048576) (hm : 1 + N = m) (m0 : 1 ≤ m) (m1 : m ≤ 700) (hz : 1 + S = z) (z0 : 1 ≤ z) (z1 : z ≤ 1048576) (hP : 2 * m * (m + 1) = P) (p0 : 0 ≤ P) (p1 : P ≤ 1000000) (h : P ≤ z) (q r : Int) (hq : z / m = q) (hr : z % m = r) (q0 : 0 ≤ q) (q1 : q ≤ 1048576) (o : off < 0) (e : (r == 0) = false)
    (KI : ∀ W, Calls Tryd.prog 12 #[.int .i64 2, .int .i64 1, .int .i64 z] W fun en w' => en = .returned (.tuple #[.int .i64 z, .int .i64 0]) ∧ Below W.heap.size W w')
    (KC : ∀ W, Calls Tryd.prog 10 #[.int .i64 (q), .int .i64 z] W fun en w' => en = .returned (.tuple #[.int .i64 m, .int .i64 0]) ∧ Below W.heap.size W w') :
    Calls Tryd.prog 5 #[.int .i64 n, .int .i64 s, .int .i64 off] w fun en w' => en = .returned (.bool true) ∧ Below w.heap.size w w' := by
  go_enter Tryd.func5, Tryd.ntmps5
  go_wp2_with (first
    | (go_at_call 12; refine (KI _).mono ?_; clear KI; rintro en w1 ⟨rfl, b1⟩)
    | (go_at_call 10; refine (KC _).mono ?_; clear KC; rintro en w2 ⟨rfl, b2⟩; have B2 : Below w.heap.size w w2 := b1.trans (b2.mono b1.size))
    | (go_at_call 16; refine (awake_any _ (ht.below B2)).mono ?_; rintro en w3 ⟨rfl, b3⟩; have B3 : Below w.heap.size w w3 := B2.trans (b3.mono B2.size)))
  go_ret
  exact ⟨rfl, B3⟩

set_option maxRecDepth 100000 in
set_option maxHeartbeats 4000000 in
theorem counts_posN (n s off N S m z P : Int) (w : World) (ht : Tab w) (hN : (IntKind.u64.wrap n).tmod 700 = N) (hS : (IntKind.u64.wrap s).tmod 1048576 = S) (n0 : 0 ≤ N) (n1 : N < 700) (s0 : 0 ≤ S) (s1 : S < 1048576) (hm : 1 + N = m) (m0 : 1 ≤ m) (m1 : m ≤ 700) (hz : 1 + S = z) (z0 : 1 ≤ z) (z1 : z ≤ 1048576) (hP : 2 * m * (m + 1) = P) (p0 : 0 ≤ P) (p1 : P ≤ 1000000) (h : P ≤ z) (q r : Int) (hq : z / m = q) (hr : z % m = r) (q0 : 0 ≤ q) (q1 : q ≤ 1048576) (o : 0 < off) (e : (r != 0) = true)
    (KI : ∀ W, Calls Tryd.prog 12 #[.int .i64 2, .int .i64 1, .int .i64 z] W fun en w' => en = .returned (.tuple #[.int .i64 z, .int .i64 0]) ∧ Below W.heap.size W w')
    (KC : ∀ W, Calls Tryd.prog 10 #[.int .i64 (q + 1), .int .i64 z] W fun en w' => en = .returned (.tuple #[.int .i64 m, .int .i64 0]) ∧ Below W.heap.size W w') :
    Calls Tryd.prog 5 #[.int .i64 n, .int .i64 s, .int .i64 off] w fun en w' => en = .returned (.bool true) ∧ Below w.heap.size w w' := by
  go_enter Tryd.func5, Tryd.ntmps5
  go_wp2_with (first
    | (go_at_call 12; refine (KI _).mono ?_; clear KI; rintro en w1 ⟨rfl, b1⟩)
    | (go_at_call 10; refine (KC _).mono ?_; clear KC; rintro en w2 ⟨rfl, b2⟩; have B2 : Below w.heap.size w w2 := b1.trans (b2.mono b1.size))
    | (go_at_call 16; refine (awake_any _ (ht.below B2)).mono ?_; rintro en w3 ⟨rfl, b3⟩; have B3 : Below w.heap.size w w3 := B2.trans (b3.mono B2.size)))
  go_ret
  exact ⟨rfl, B3⟩

set_option maxRecDepth 100000 in
set_option maxHeartbeats 4000000 in
theorem counts_pos (n s off N S m z P : Int) (w : World) (ht : Tab w) (hN : (IntKind.u64.wrap n).tmod 700 = N) (hS : (IntKind.u64.wrap s).tmod 1048576 = S) (n0 : 0 ≤ N) (n1 : N < 700) (s0 : 0 ≤ S) (s1 : S < 1048576) (hm : 1 + N = m) (m0 : 1 ≤ m) (m1 : m ≤ 700) (hz : 1 + S = z) (z0 : 1 ≤ z) (z1 : z ≤ 1048576) (hP : 2 * m * (m + 1) = P) (p0 : 0 ≤ P) (p1 : P ≤ 1000000) (h : P ≤ z) (q r : Int) (hq : z / m = q) (hr : z % m = r) (q0 : 0 ≤ q) (q1 : q ≤ 1048576) (o : 0 < off) (e : (r != 0) = false)
    (KI : ∀ W, Calls Tryd.prog 12 #[.int .i64 2, .int .i64 1, .int .i64 z] W fun en w' => en = .returned (.tuple #[.int .i64 z, .int .i64 0]) ∧ Below W.heap.size W w')
    (KC : ∀ W, Calls Tryd.prog 10 #[.int .i64 (q), .int .i64 z] W fun en w' => en = .returned (.tuple #[.int .i64 m, .int .i64 0]) ∧ Below W.heap.size W w') :
    Calls Tryd.prog 5 #[.int .i64 n, .int .i64 s, .int .i64 off] w fun en w' => en = .returned (.bool true) ∧ Below w.heap.size w w' := by
  go_enter Tryd.func5, Tryd.ntmps5
  go_wp2_with (first
    | (go_at_call 12; refine (KI _).mono ?_; clear KI; rintro en w1 ⟨rfl, b1⟩)
    | (go_at_call 10; refine (KC _).mono ?_; clear KC; rintro en w2 ⟨rfl, b2⟩; have B2 : Below w.heap.size w w2 := b1.trans (b2.mono b1.size))
    | (go_at_call 16; refine (awake_any _ (ht.below B2)).mono ?_; rintro en w3 ⟨rfl, b3⟩; have B3 : Below w.heap.size w w3 := B2.trans (b3.mono B2.size)))
  go_ret
  exact ⟨rfl, B3⟩

set_option maxRecDepth 100000 in
set_option maxHeartbeats 4000000 in
theorem counts_nul (n s off N S m z P : Int) (w : World) (ht : Tab w) (hN : (IntKind.u64.wrap n).tmod 700 = N) (hS : (IntKind.u64.wrap s).tmod 1048576 = S) (n0 : 0 ≤ N) (n1 : N < 700) (s0 : 0 ≤ S) (s1 : S < 1048576) (hm : 1 + N = m) (m0 : 1 ≤ m) (m1 : m ≤ 700) (hz : 1 + S = z) (z0 : 1 ≤ z) (z1 : z ≤ 1048576) (hP : 2 * m * (m + 1) = P) (p0 : 0 ≤ P) (p1 : P ≤ 1000000) (h : P ≤ z) (q r : Int) (hq : z / m = q) (hr : z % m = r) (q0 : 0 ≤ q) (q1 : q ≤ 1048576) (o : ¬ off < 0) (o2 : ¬ 0 < off)
    (KI : ∀ W, Calls Tryd.prog 12 #[.int .i64 2, .int .i64 1, .int .i64 z] W fun en w' => en = .returned (.tuple #[.int .i64 z, .int .i64 0]) ∧ Below W.heap.size W w')
    (KC : ∀ W, Calls Tryd.prog 10 #[.int .i64 (q), .int .i64 z] W fun en w' => en = .returned (.tuple #[.int .i64 m, .int .i64 0]) ∧ Below W.heap.size W w') :
    Calls Tryd.prog 5 #[.int .i64 n, .int .i64 s, .int .i64 off] w fun en w' => en = .returned (.bool true) ∧ Below w.heap.size w w' := by
  go_enter Tryd.func5, Tryd.ntmps5
  go_wp2_with (first
    | (go_at_call 12; refine (KI _).mono ?_; clear KI; rintro en w1 ⟨rfl, b1⟩)
    | (go_at_call 10; refine (KC _).mono ?_; clear KC; rintro en w2 ⟨rfl, b2⟩; have B2 : Below w.heap.size w w2 := b1.trans (b2.mono b1.size))
    | (go_at_call 16; refine (awake_any _ (ht.below B2)).mono ?_; rintro en w3 ⟨rfl, b3⟩; have B3 : Below w.heap.size w w3 := B2.trans (b3.mono B2.size)))
  go_ret
  exact ⟨rfl, B3⟩

theorem counts_walk (n s off : Int) (w : World) (ht : Tab w) : Calls Tryd.prog 5 #[.int .i64 n, .int .i64 s, .int .i64 off] w fun en w' => en = .returned (.bool true) ∧ Below w.heap.size w w' := by
  obtain ⟨N, hN⟩ : ∃ N, (IntKind.u64.wrap n).tmod 700 = N := ⟨_, rfl⟩
  obtain ⟨S, hS⟩ : ∃ S, (IntKind.u64.wrap s).tmod 1048576 = S := ⟨_, rfl⟩
  obtain ⟨n0, n1⟩ := u64_mod n 700 (by omega)
  obtain ⟨s0, s1⟩ := u64_mod s 1048576 (by omega)
  rw [hN] at n0 n1
  rw [hS] at s0 s1
  obtain ⟨m, hm⟩ : ∃ m, 1 + N = m := ⟨_, rfl⟩
  obtain ⟨z, hz⟩ : ∃ z, 1 + S = z := ⟨_, rfl⟩
  have m0 : 1 ≤ m := by omega
  have m1 : m ≤ 700 := by omega
  have z0 : 1 ≤ z := by omega
  have z1 : z ≤ 1048576 := by omega
  obtain ⟨P, hP⟩ : ∃ P, 2 * m * (m + 1) = P := ⟨_, rfl⟩
  have p0 : 0 ≤ P := by rw [← hP]; exact Int.mul_nonneg (by omega) (by omega)
  have p1 : P ≤ 1000000 := by
    have : 2 * m * (m + 1) ≤ 1400 * 701 := Int.mul_le_mul (by omega) (by omega) (by omega) (by omega)
    omega
  by_cases h : z < P
  · exact counts_far n s off N S m z P w ht hN hS n0 n1 s0 s1 hm m0 m1 hz z0 z1 hP p0 p1 h
  have h' : P ≤ z := by omega
  have KI := fun W => input2_any 1 z W
  have hs : scB z 1048576 = true := decide_eq_true (by omega)
  have hu : uniE 1 z = 0 := by
    unfold uniE mulE
    rw [if_neg (by simp), if_pos]
    exact ⟨by decide, decide_eq_true (by omega), decide_eq_true (by omega)⟩
  have hv : uniV 1 z = z := by unfold uniV; rw [if_pos hu, Int.one_mul]
  simp only [hs, hu, hv, if_true] at KI
  obtain ⟨q, hq⟩ : ∃ q, z / m = q := ⟨_, rfl⟩
  obtain ⟨r, hr⟩ : ∃ r, z % m = r := ⟨_, rfl⟩
  have q0 : 0 ≤ q := by rw [← hq]; exact Int.ediv_nonneg (by omega) (by omega)
  have q1 : q ≤ 1048576 := by have : z / m ≤ z := Int.ediv_le_self _ (by omega); omega
  have KC := fun (x : Int) (hx : x = z / m ∨ (x = z / m - 1 ∧ z % m = 0) ∨ (x = z / m + 1 ∧ z % m ≠ 0)) (W : World) => count_any x z W
  have KD : ∀ x : Int, (x = q ∨ (x = q - 1 ∧ r = 0) ∨ (x = q + 1 ∧ r ≠ 0)) → ∀ W, Calls Tryd.prog 10 #[.int .i64 x, .int .i64 z] W fun en w' => en = .returned (.tuple #[.int .i64 m, .int .i64 0]) ∧ Below W.heap.size W w' := fun x hx W => by
    obtain ⟨c1, c2⟩ := cnt_of (x := x) m0 z1 (by omega) (by rw [hq, hr]; exact hx)
    have c := count_any x z W
    simp only [cntT, c1, c2] at c
    exact c
  by_cases o : off < 0
  · by_cases e : r = 0
    · exact counts_neg n s off N S m z P w ht hN hS n0 n1 s0 s1 hm m0 m1 hz z0 z1 hP p0 p1 h' q r hq hr q0 q1 o (by simp [e]) KI (KD _ (.inr (.inl ⟨rfl, e⟩)))
    · exact counts_negN n s off N S m z P w ht hN hS n0 n1 s0 s1 hm m0 m1 hz z0 z1 hP p0 p1 h' q r hq hr q0 q1 o (by simp [e]) KI (KD _ (.inl rfl))
  · by_cases o2 : 0 < off
    · by_cases e : r = 0
      · exact counts_pos n s off N S m z P w ht hN hS n0 n1 s0 s1 hm m0 m1 hz z0 z1 hP p0 p1 h' q r hq hr q0 q1 o2 (by simp [e]) KI (KD _ (.inl rfl))
      · exact counts_posN n s off N S m z P w ht hN hS n0 n1 s0 s1 hm m0 m1 hz z0 z1 hP p0 p1 h' q r hq hr q0 q1 o2 (by simp [e]) KI (KD _ (.inr (.inr ⟨rfl, e⟩)))
    · exact counts_nul n s off N S m z P w ht hN hS n0 n1 s0 s1 hm m0 m1 hz z0 z1 hP p0 p1 h' q r hq hr q0 q1 o o2 KI (KD _ (.inl rfl))
end Go.Proofs.YtiigmohnmkgfoaaDoor
