/-
  Package trade: the walk of TradePlays.
-/
import Derived.Test.YtcjdfnfaiocdjaaT10
import Derived.Deep.RegionHeld
namespace Go.Proofs.Ytcjdfnfaiocdjaa
open Go.ChangeShapes Go.WideShapes Go.ChangeAt Go.RowKit
set_option linter.unusedVariables false
set_option linter.unusedSimpArgs false

theorem play_rest (v p f a b ra rb n : Int) (i : Nat) (h : 0 < i) : (play v p f a b ra rb n).l.getD i 0 = 0 := by
  unfold play
  split
  · simp
  · split
    · simp
    · split
      · simp
      · obtain ⟨j, rfl⟩ : ∃ j, i = j + 1 := ⟨i - 1, by omega⟩
        rw [List.getD_cons_succ, List.getD_eq_getElem?_getD, List.getElem?_replicate]
        split <;> rfl
theorem play_len (v p f a b ra rb n : Int) : (play v p f a b ra rb n).l.length ≤ 100 := by
  have : asks n ≤ 100 := by unfold asks; split <;> omega
  unfold play
  split
  · simp
  · split
    · simp
    · split
      · simp
      · simp; omega
theorem Row.below {W W' : World} {a : Option Addr} {n : Nat} {zs : List Int} (h : Row W a n zs) (b : Below W.heap.size W W') : Row W' a n zs := by
  refine ⟨h.size, h.max, h.bd, ?_⟩
  rcases h.mem with h0 | ⟨g, off, e, hg, hc⟩
  · exact .inl h0
  · exact .inr ⟨g, off, e, Nat.lt_of_lt_of_le hg b.size, fun k hk => (b.cell (p := ⟨g, off + k, none⟩) hg).trans (hc k hk)⟩
theorem Row.drew {W : World} {a : Option Addr} {n : Nat} {zs : List Int} (h : Row W a n zs) : Row W.drew a n zs := ⟨h.size, h.max, h.bd, h.mem⟩
set_option maxRecDepth 100000 in
set_option maxHeartbeats 8000000 in
theorem plays_walk (a b v p f ra rb n : Int) (w : World) : Calls Try.prog 5 #[.int .i64 a, .int .i64 b, rg v p f, .int .i64 ra, .int .i64 rb, .int .i64 n] w fun e w' => e = .returned (.bool true) ∧ Below w.heap.size w w' := by
  have K1 := fun w => play_any v p f a b ra rb n w
  have K2 := fun w => rplay_any v p f a b ra rb n w
  have KA := awake_any
  have HR : Hid (∀ i : Nat, 0 < i → (play v p f a b ra rb n).l.getD i 0 = 0) := fun i hi => play_rest _ _ _ _ _ _ _ _ i hi
  have HL : Hid ((play v p f a b ra rb n).l.length ≤ 100) := play_len _ _ _ _ _ _ _ _
  generalize play v p f a b ra rb n = S at *
  go_enter Try.func5, Try.ntmps5
  go_wp2_with (first
    | (go_at_call 15; refine (K1 _).mono ?_; clear K1; rintro e w1 ⟨sl1, cap1, rfl, R1, b1⟩; have T1 := (Tri.new w (.int .i64 v) (.int .i64 p) (.int .i64 f) 23).below b1; have B1 : Below w.heap.size w w1 := Below.trans (by go_grown) (b1.mono (by simp)); clear b1; obtain ⟨a0, a1, a2, a3, a4, a5, a6⟩ := _root_.id T1)
    | (go_at_call 16; refine (K2 _).mono ?_; clear K2; rintro e w2 ⟨sl2, cap2, rfl, R2, b2⟩; have RR1 := (R1.below ((Below.refl _ _).alloc (Nat.le_refl _) (.cells #[.int .i64 S.v, .int .i64 S.p, .int .i64 S.f] 23))).below b2; obtain ⟨c0, c1, c2, c3, c4, c5, c6⟩ := (Tri.new w1 (.int .i64 S.v) (.int .i64 S.p) (.int .i64 S.f) 23).below b2; have B2 : Below w.heap.size w w2 := (B1.alloc B1.size _).trans (b2.mono (by have := B1.size; simp; omega)); clear b2 a0 a1 a2 a3 a4 a5 a6 R1))
  have RA := RR1.below ((Below.refl _ _).alloc (Nat.le_refl _) (.cells #[.int .i64 S.v, .int .i64 S.p, .int .i64 S.f] 23))
  have RB := R2.below ((Below.refl _ _).alloc (Nat.le_refl _) (.cells #[.int .i64 S.v, .int .i64 S.p, .int .i64 S.f] 23))
  have BB := B2.alloc B2.size (.cells #[.int .i64 S.v, .int .i64 S.p, .int .i64 S.f] 23)
  clear RR1 R2 B2 B1 T1 c0 c1 c2 c3 c4 c5 c6
  go_loopg [19] S.l.length (fun gk v19 wr => ∃ k : Nat, v19 = .int .i64 (k : Int) ∧ k + gk = S.l.length ∧ Row wr sl1 S.l.length S.l ∧ Row wr sl2 S.l.length S.l ∧ Below w.heap.size w wr)
  case atStart => exact ⟨0, by first | rfl | go_num, by omega, RA, RB, BB⟩
  case round =>
    clear RA RB BB
    obtain ⟨k, rfl, hgk, R1, R2, B⟩ := hrel
    by_cases hk : k < S.l.length
    case pos =>
      have hkI : (k : Int) < (S.l.length : Int) := by omega
      have hwr : IntKind.i64.wrap ((k : Int) + 1) = (k : Int) + 1 := by rw [IntKind.wrap_i64]; have := HL.out; omega
      obtain ⟨g1, o1, rfl, l1, m1⟩ := R1.mem.resolve_left (by omega)
      obtain ⟨g2, o2, rfl, l2, m2⟩ := R2.mem.resolve_left (by omega)
      have e1 := m1 k hk
      have e2 := m2 k hk
      have HGK : Hid (k + gk = S.l.length) := hgk
      have HK : Hid (k < S.l.length) := hk
      by_cases h0 : 0 < k
      · have hz := HR.out k h0
        rw [hz] at e1 e2
        obtain ⟨z, hz'⟩ : ∃ z : Int, 0 = z := ⟨_, rfl⟩
        rw [hz'] at e1 e2
        have zz : (z != 0) = false := by rw [← hz']; rfl
        have h0I : (0 : Int) < (k : Int) := by omega
        have H0 : Hid (0 < k) := h0
        clear hgk hk h0 m1 m2 hz hz'
        go_wp2
        refine wp_region_any (by kernel_rfl) ?_
        change wpAny _ _ _ _ _ _ _ (World.drew _)
        refine wpAny_narrow (fun W' => W'.cell? ⟨g1, o1 + k, none⟩ = some (.int .i64 z) ∧ W'.cell? ⟨g2, o2 + k, none⟩ = some (.int .i64 z)) _ _ _ _ ?_
        refine anyH_take 0 63 (.slice (some ⟨g1, o1, none⟩) S.l.length cap1) rfl rfl (by kernel_rfl) (by kernel_rfl) (by kernel_rfl) (fun _ _ _ h => h) (Or.inl ⟨by rfl, by intro w hSw; go_simp⟩) (⟨e1, e2⟩) ?_
        try simp only [Act.put, List.setIfInBounds_toArray, List.set_cons_zero, List.set_cons_succ]
        refine anyH_take 1 64 (.int .i64 (k : Int)) rfl rfl (by kernel_rfl) (by kernel_rfl) (by kernel_rfl) (fun _ _ _ h => h) (Or.inl ⟨by rfl, by intro w hSw; go_simp⟩) (⟨e1, e2⟩) ?_
        try simp only [Act.put, List.setIfInBounds_toArray, List.set_cons_zero, List.set_cons_succ]
        refine anyH_take 2 65 (.pointer (some ⟨g1, o1 + k, none⟩)) rfl rfl (by kernel_rfl) (by kernel_rfl) (by kernel_rfl) (fun _ _ _ h => h) (Or.inl ⟨by rfl, by intro w hSw; go_simp⟩) (⟨e1, e2⟩) ?_
        try simp only [Act.put, List.setIfInBounds_toArray, List.set_cons_zero, List.set_cons_succ]
        refine anyH_take 3 66 (.int .i64 z) rfl rfl (by kernel_rfl) (by kernel_rfl) (by kernel_rfl) (fun _ _ _ h => h) (Or.inl ⟨by rfl, by intro w hSw; have s1 := hSw.1; go_simp⟩) (⟨e1, e2⟩) ?_
        try simp only [Act.put, List.setIfInBounds_toArray, List.set_cons_zero, List.set_cons_succ]
        refine anyH_take 4 67 (.slice (some ⟨g2, o2, none⟩) S.l.length cap2) rfl rfl (by kernel_rfl) (by kernel_rfl) (by kernel_rfl) (fun _ _ _ h => h) (Or.inl ⟨by rfl, by intro w hSw; go_simp⟩) (⟨e1, e2⟩) ?_
        try simp only [Act.put, List.setIfInBounds_toArray, List.set_cons_zero, List.set_cons_succ]
        refine anyH_take 5 68 (.int .i64 (k : Int)) rfl rfl (by kernel_rfl) (by kernel_rfl) (by kernel_rfl) (fun _ _ _ h => h) (Or.inl ⟨by rfl, by intro w hSw; go_simp⟩) (⟨e1, e2⟩) ?_
        try simp only [Act.put, List.setIfInBounds_toArray, List.set_cons_zero, List.set_cons_succ]
        refine anyH_take 6 69 (.pointer (some ⟨g2, o2 + k, none⟩)) rfl rfl (by kernel_rfl) (by kernel_rfl) (by kernel_rfl) (fun _ _ _ h => h) (Or.inl ⟨by rfl, by intro w hSw; go_simp⟩) (⟨e1, e2⟩) ?_
        try simp only [Act.put, List.setIfInBounds_toArray, List.set_cons_zero, List.set_cons_succ]
        refine anyH_take 7 70 (.int .i64 z) rfl rfl (by kernel_rfl) (by kernel_rfl) (by kernel_rfl) (fun _ _ _ h => h) (Or.inl ⟨by rfl, by intro w hSw; have s1 := hSw.2; go_simp⟩) (⟨e1, e2⟩) ?_
        try simp only [Act.put, List.setIfInBounds_toArray, List.set_cons_zero, List.set_cons_succ]
        refine anyH_take 8 71 (.bool false) rfl rfl (by kernel_rfl) (by kernel_rfl) (by kernel_rfl) (fun _ _ _ h => h) (Or.inl ⟨by rfl, by intro w hSw; go_simp⟩) (⟨e1, e2⟩) ?_
        try simp only [Act.put, List.setIfInBounds_toArray, List.set_cons_zero, List.set_cons_succ]
        refine anyH_take 9 72 (.bool false) rfl rfl (by kernel_rfl) (by kernel_rfl) (by kernel_rfl) (fun _ _ _ h => h) (Or.inl ⟨by rfl, by intro w hSw; go_simp⟩) (⟨e1, e2⟩) ?_
        try simp only [Act.put, List.setIfInBounds_toArray, List.set_cons_zero, List.set_cons_succ]
        refine anyH_take 10 73 (.int .i64 (k : Int)) rfl rfl (by kernel_rfl) (by kernel_rfl) (by kernel_rfl) (fun _ _ _ h => h) (Or.inl ⟨by rfl, by intro w hSw; go_simp⟩) (⟨e1, e2⟩) ?_
        try simp only [Act.put, List.setIfInBounds_toArray, List.set_cons_zero, List.set_cons_succ]
        refine anyH_take 11 74 (.bool true) rfl rfl (by kernel_rfl) (by kernel_rfl) (by kernel_rfl) (fun _ _ _ h => h) (Or.inl ⟨by rfl, by intro w hSw; go_simp; have := H0.out; omega⟩) (⟨e1, e2⟩) ?_
        try simp only [Act.put, List.setIfInBounds_toArray, List.set_cons_zero, List.set_cons_succ]
        refine anyH_take 12 75 (.bool true) rfl rfl (by kernel_rfl) (by kernel_rfl) (by kernel_rfl) (fun _ _ _ h => h) (Or.inl ⟨by rfl, by intro w hSw; go_simp⟩) (⟨e1, e2⟩) ?_
        try simp only [Act.put, List.setIfInBounds_toArray, List.set_cons_zero, List.set_cons_succ]
        refine anyH_take 13 76 (.slice (some ⟨g1, o1, none⟩) S.l.length cap1) rfl rfl (by kernel_rfl) (by kernel_rfl) (by kernel_rfl) (fun _ _ _ h => h) (Or.inl ⟨by rfl, by intro w hSw; go_simp⟩) (⟨e1, e2⟩) ?_
        try simp only [Act.put, List.setIfInBounds_toArray, List.set_cons_zero, List.set_cons_succ]
        refine anyH_take 14 77 (.int .i64 (k : Int)) rfl rfl (by kernel_rfl) (by kernel_rfl) (by kernel_rfl) (fun _ _ _ h => h) (Or.inl ⟨by rfl, by intro w hSw; go_simp⟩) (⟨e1, e2⟩) ?_
        try simp only [Act.put, List.setIfInBounds_toArray, List.set_cons_zero, List.set_cons_succ]
        refine anyH_take 15 78 (.pointer (some ⟨g1, o1 + k, none⟩)) rfl rfl (by kernel_rfl) (by kernel_rfl) (by kernel_rfl) (fun _ _ _ h => h) (Or.inl ⟨by rfl, by intro w hSw; go_simp⟩) (⟨e1, e2⟩) ?_
        try simp only [Act.put, List.setIfInBounds_toArray, List.set_cons_zero, List.set_cons_succ]
        refine anyH_take 16 79 (.int .i64 z) rfl rfl (by kernel_rfl) (by kernel_rfl) (by kernel_rfl) (fun _ _ _ h => h) (Or.inl ⟨by rfl, by intro w hSw; have s1 := hSw.1; go_simp⟩) (⟨e1, e2⟩) ?_
        try simp only [Act.put, List.setIfInBounds_toArray, List.set_cons_zero, List.set_cons_succ]
        refine anyH_take 17 80 (.bool false) rfl rfl (by kernel_rfl) (by kernel_rfl) (by kernel_rfl) (fun _ _ _ h => h) (Or.inl ⟨by rfl, by intro w hSw; go_simp⟩) (⟨e1, e2⟩) ?_
        try simp only [Act.put, List.setIfInBounds_toArray, List.set_cons_zero, List.set_cons_succ]
        refine anyH_take 18 81 (.bool false) rfl rfl (by kernel_rfl) (by kernel_rfl) (by kernel_rfl) (fun _ _ _ h => h) (Or.inl ⟨by rfl, by intro w hSw; go_simp⟩) (⟨e1, e2⟩) ?_
        try simp only [Act.put, List.setIfInBounds_toArray, List.set_cons_zero, List.set_cons_succ]
        refine anyH_take 19 82 (.bool false) rfl rfl (by kernel_rfl) (by kernel_rfl) (by kernel_rfl) (fun _ _ _ h => h) (Or.inl ⟨by rfl, by intro w hSw; go_simp⟩) (⟨e1, e2⟩) ?_
        try simp only [Act.put, List.setIfInBounds_toArray, List.set_cons_zero, List.set_cons_succ]
        refine wpAnyH_done (by kernel_rfl) ?_ _
        go_wp2
        go_roundg (gk - 1)
        case measure => have := HGK.out; have := HK.out; omega
        case rel => exact ⟨k + 1, by first | rfl | go_num, by have := HGK.out; have := HK.out; omega, R1.drew, R2.drew, B.drew⟩
      · have h0I : ¬ (0 : Int) < (k : Int) := by omega
        generalize S.l.getD k 0 = z at e1 e2
        have H0 : Hid (¬ 0 < k) := h0
        clear hgk hk h0 m1 m2
        go_wp2
        refine wp_region_any (by kernel_rfl) ?_
        change wpAny _ _ _ _ _ _ _ (World.drew _)
        refine wpAny_narrow (fun W' => W'.cell? ⟨g1, o1 + k, none⟩ = some (.int .i64 z) ∧ W'.cell? ⟨g2, o2 + k, none⟩ = some (.int .i64 z)) _ _ _ _ ?_
        refine anyH_take 0 63 (.slice (some ⟨g1, o1, none⟩) S.l.length cap1) rfl rfl (by kernel_rfl) (by kernel_rfl) (by kernel_rfl) (fun _ _ _ h => h) (Or.inl ⟨by rfl, by intro w hSw; go_simp⟩) (⟨e1, e2⟩) ?_
        try simp only [Act.put, List.setIfInBounds_toArray, List.set_cons_zero, List.set_cons_succ]
        refine anyH_take 1 64 (.int .i64 (k : Int)) rfl rfl (by kernel_rfl) (by kernel_rfl) (by kernel_rfl) (fun _ _ _ h => h) (Or.inl ⟨by rfl, by intro w hSw; go_simp⟩) (⟨e1, e2⟩) ?_
        try simp only [Act.put, List.setIfInBounds_toArray, List.set_cons_zero, List.set_cons_succ]
        refine anyH_take 2 65 (.pointer (some ⟨g1, o1 + k, none⟩)) rfl rfl (by kernel_rfl) (by kernel_rfl) (by kernel_rfl) (fun _ _ _ h => h) (Or.inl ⟨by rfl, by intro w hSw; go_simp⟩) (⟨e1, e2⟩) ?_
        try simp only [Act.put, List.setIfInBounds_toArray, List.set_cons_zero, List.set_cons_succ]
        refine anyH_take 3 66 (.int .i64 z) rfl rfl (by kernel_rfl) (by kernel_rfl) (by kernel_rfl) (fun _ _ _ h => h) (Or.inl ⟨by rfl, by intro w hSw; have s1 := hSw.1; go_simp⟩) (⟨e1, e2⟩) ?_
        try simp only [Act.put, List.setIfInBounds_toArray, List.set_cons_zero, List.set_cons_succ]
        refine anyH_take 4 67 (.slice (some ⟨g2, o2, none⟩) S.l.length cap2) rfl rfl (by kernel_rfl) (by kernel_rfl) (by kernel_rfl) (fun _ _ _ h => h) (Or.inl ⟨by rfl, by intro w hSw; go_simp⟩) (⟨e1, e2⟩) ?_
        try simp only [Act.put, List.setIfInBounds_toArray, List.set_cons_zero, List.set_cons_succ]
        refine anyH_take 5 68 (.int .i64 (k : Int)) rfl rfl (by kernel_rfl) (by kernel_rfl) (by kernel_rfl) (fun _ _ _ h => h) (Or.inl ⟨by rfl, by intro w hSw; go_simp⟩) (⟨e1, e2⟩) ?_
        try simp only [Act.put, List.setIfInBounds_toArray, List.set_cons_zero, List.set_cons_succ]
        refine anyH_take 6 69 (.pointer (some ⟨g2, o2 + k, none⟩)) rfl rfl (by kernel_rfl) (by kernel_rfl) (by kernel_rfl) (fun _ _ _ h => h) (Or.inl ⟨by rfl, by intro w hSw; go_simp⟩) (⟨e1, e2⟩) ?_
        try simp only [Act.put, List.setIfInBounds_toArray, List.set_cons_zero, List.set_cons_succ]
        refine anyH_take 7 70 (.int .i64 z) rfl rfl (by kernel_rfl) (by kernel_rfl) (by kernel_rfl) (fun _ _ _ h => h) (Or.inl ⟨by rfl, by intro w hSw; have s1 := hSw.2; go_simp⟩) (⟨e1, e2⟩) ?_
        try simp only [Act.put, List.setIfInBounds_toArray, List.set_cons_zero, List.set_cons_succ]
        refine anyH_take 8 71 (.bool false) rfl rfl (by kernel_rfl) (by kernel_rfl) (by kernel_rfl) (fun _ _ _ h => h) (Or.inl ⟨by rfl, by intro w hSw; go_simp⟩) (⟨e1, e2⟩) ?_
        try simp only [Act.put, List.setIfInBounds_toArray, List.set_cons_zero, List.set_cons_succ]
        refine anyH_take 9 72 (.bool false) rfl rfl (by kernel_rfl) (by kernel_rfl) (by kernel_rfl) (fun _ _ _ h => h) (Or.inl ⟨by rfl, by intro w hSw; go_simp⟩) (⟨e1, e2⟩) ?_
        try simp only [Act.put, List.setIfInBounds_toArray, List.set_cons_zero, List.set_cons_succ]
        refine anyH_take 10 73 (.int .i64 (k : Int)) rfl rfl (by kernel_rfl) (by kernel_rfl) (by kernel_rfl) (fun _ _ _ h => h) (Or.inl ⟨by rfl, by intro w hSw; go_simp⟩) (⟨e1, e2⟩) ?_
        try simp only [Act.put, List.setIfInBounds_toArray, List.set_cons_zero, List.set_cons_succ]
        refine anyH_take 11 74 (.bool false) rfl rfl (by kernel_rfl) (by kernel_rfl) (by kernel_rfl) (fun _ _ _ h => h) (Or.inl ⟨by rfl, by intro w hSw; go_simp; have := H0.out; omega⟩) (⟨e1, e2⟩) ?_
        try simp only [Act.put, List.setIfInBounds_toArray, List.set_cons_zero, List.set_cons_succ]
        refine anyH_take 12 75 (.bool false) rfl rfl (by kernel_rfl) (by kernel_rfl) (by kernel_rfl) (fun _ _ _ h => h) (Or.inl ⟨by rfl, by intro w hSw; go_simp⟩) (⟨e1, e2⟩) ?_
        try simp only [Act.put, List.setIfInBounds_toArray, List.set_cons_zero, List.set_cons_succ]
        refine anyH_take 13 76 (undef) rfl rfl (by kernel_rfl) (by kernel_rfl) (by kernel_rfl) (fun _ _ _ h => h) (Or.inr ⟨by rfl, rfl⟩) (⟨e1, e2⟩) ?_
        try simp only [Act.put, List.setIfInBounds_toArray, List.set_cons_zero, List.set_cons_succ]
        refine anyH_take 14 77 (undef) rfl rfl (by kernel_rfl) (by kernel_rfl) (by kernel_rfl) (fun _ _ _ h => h) (Or.inr ⟨by rfl, rfl⟩) (⟨e1, e2⟩) ?_
        try simp only [Act.put, List.setIfInBounds_toArray, List.set_cons_zero, List.set_cons_succ]
        refine anyH_take 15 78 (undef) rfl rfl (by kernel_rfl) (by kernel_rfl) (by kernel_rfl) (fun _ _ _ h => h) (Or.inr ⟨by rfl, rfl⟩) (⟨e1, e2⟩) ?_
        try simp only [Act.put, List.setIfInBounds_toArray, List.set_cons_zero, List.set_cons_succ]
        refine anyH_take 16 79 (undef) rfl rfl (by kernel_rfl) (by kernel_rfl) (by kernel_rfl) (fun _ _ _ h => h) (Or.inr ⟨by rfl, rfl⟩) (⟨e1, e2⟩) ?_
        try simp only [Act.put, List.setIfInBounds_toArray, List.set_cons_zero, List.set_cons_succ]
        refine anyH_take 17 80 (undef) rfl rfl (by kernel_rfl) (by kernel_rfl) (by kernel_rfl) (fun _ _ _ h => h) (Or.inr ⟨by rfl, rfl⟩) (⟨e1, e2⟩) ?_
        try simp only [Act.put, List.setIfInBounds_toArray, List.set_cons_zero, List.set_cons_succ]
        refine anyH_take 18 81 (.bool false) rfl rfl (by kernel_rfl) (by kernel_rfl) (by kernel_rfl) (fun _ _ _ h => h) (Or.inl ⟨by rfl, by intro w hSw; go_simp⟩) (⟨e1, e2⟩) ?_
        try simp only [Act.put, List.setIfInBounds_toArray, List.set_cons_zero, List.set_cons_succ]
        refine anyH_take 19 82 (.bool false) rfl rfl (by kernel_rfl) (by kernel_rfl) (by kernel_rfl) (fun _ _ _ h => h) (Or.inl ⟨by rfl, by intro w hSw; go_simp⟩) (⟨e1, e2⟩) ?_
        try simp only [Act.put, List.setIfInBounds_toArray, List.set_cons_zero, List.set_cons_succ]
        refine wpAnyH_done (by kernel_rfl) ?_ _
        go_wp2
        go_roundg (gk - 1)
        case measure => have := HGK.out; have := HK.out; omega
        case rel => exact ⟨k + 1, by first | rfl | go_num, by have := HGK.out; have := HK.out; omega, R1.drew, R2.drew, B.drew⟩
    case neg =>
      have hkI : ¬ (k : Int) < (S.l.length : Int) := by omega
      clear hgk hk
      go_wp2_with (first | (go_at_call 12; refine (KA _).mono ?_; clear KA; rintro e w5 ⟨rfl, b5⟩; have B5 : Below w.heap.size w w5 := B.trans (b5.mono B.size); clear b5))
      go_ret
      exact ⟨rfl, B5⟩
end Go.Proofs.Ytcjdfnfaiocdjaa
