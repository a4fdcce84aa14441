/-
  What the document's own From returns: the same.
-/
import Derived.Test.YtonndlhppihdiaaDoorFold
namespace Go.Proofs.YtonndlhppihdiaaDoor
open Go.ChangeShapes Go.WideShapes Go.ChangeAt Go.RowKit
set_option linter.unusedVariables false
set_option linter.unusedSimpArgs false

/-- What the loop holds behind the terms from m on. -/
def St (zs : List Int) (m : Nat) (N D : Int) : Prop := (m = zs.length ∧ N = 1 ∧ D = 0) ∨ (m < zs.length ∧ fromL (zs.drop m) = (N, D, 0))

theorem St.bd {zs : List Int} {m : Nat} {N D : Int} (h : St zs m N D) (hm : 0 < m) (hb : badT zs = false) : 1 ≤ N ∧ N ≤ 2147483647 ∧ 0 ≤ D ∧ D ≤ 2147483647 := by
  rcases h with ⟨_, rfl, rfl⟩ | ⟨h1, h2⟩
  · omega
  · have hne : zs.drop m ≠ [] := by intro e; have := congrArg List.length e; simp at this; omega
    have hx : ∀ x ∈ zs.drop m, 1 ≤ x := fun x hx => by
      unfold badT at hb
      rw [List.any_eq_false] at hb
      have := hb x (by
        rw [List.mem_iff_getElem?] at hx ⊢
        obtain ⟨i, hi⟩ := hx
        rw [List.getElem?_drop] at hi
        exact ⟨m + i - 1, by rw [List.getElem?_drop, show 1 + (m + i - 1) = m + i by omega]; exact hi⟩)
      simp at this
      omega
    have P := fromL_pos _ hne hx (by rw [h2])
    rw [h2] at P
    obtain ⟨v1, v2, v3, v4⟩ := valid_parts P.1
    have := P.2
    unfold Sm at v1
    simp only at *
    omega
theorem St.step {zs : List Int} {j : Nat} {N D : Int} (h : St zs (j + 1) N D) (hb : badT zs = false) :
    fromL (zs.drop j) = (mkN (zs.getD j 0 * N + D) N, mkD (zs.getD j 0 * N + D) N, mkE (zs.getD j 0 * N + D) N) ∧ (2147483648 < sz (zs.getD j 0) → fromL (zs.drop j) = (0, 0, 10)) := by
  rcases h with ⟨h1, rfl, rfl⟩ | ⟨h1, h2⟩
  · have F := fromL_last zs (by intro e; subst e; simp at h1)
    rw [show zs.length - 1 = j by omega] at F
    rw [F, Int.mul_one, Int.add_zero]
    refine ⟨rfl, fun hs => ?_⟩
    have hT : 2147483647 < mkT (zs.getD j 0) 1 := by
      unfold mkT
      rw [show mkG (zs.getD j 0) 1 = 1 by simp [mkG, sz], Nat.div_one]
      omega
    have hE : mkE (zs.getD j 0) 1 = 10 := by unfold mkE bigB; simp only [hT, true_or, decide_true]; simp
    have hN : mkN (zs.getD j 0) 1 = 0 := by rw [mkN, hE]; rfl
    have hD : mkD (zs.getD j 0) 1 = 0 := by rw [mkD, hE]; rfl
    rw [hE, hN, hD]
  · have hne : zs.drop (j + 1) ≠ [] := by intro e; have := congrArg List.length e; simp at this; omega
    have hx : ∀ x ∈ zs.drop (j + 1), 1 ≤ x := fun x hx => by
      unfold badT at hb
      rw [List.any_eq_false] at hb
      have := hb x (by
        rw [List.mem_iff_getElem?] at hx ⊢
        obtain ⟨i, hi⟩ := hx
        rw [List.getElem?_drop] at hi
        exact ⟨j + 1 + i - 1, by rw [List.getElem?_drop, show 1 + (j + 1 + i - 1) = j + 1 + i by omega]; exact hi⟩)
      simp at this
      omega
    have P := fromL_pos _ hne hx (by rw [h2])
    rw [h2] at P
    obtain ⟨v1, v2, v3, v4⟩ := valid_parts P.1
    have P2 := P.2
    simp only at v2 v4 P2
    rw [fromL_drop zs j h1, h2, if_pos rfl, on_eq v2 P2 v4]
    refine ⟨rfl, fun hs => ?_⟩
    obtain ⟨b1, b2, b3⟩ := on_big v2 P2 v4 hs
    rw [b1, b2, b3]
theorem prod_bd {y N : Int} (h1 : -4294967296 ≤ y) (h2 : y ≤ 4294967296) (h3 : 1 ≤ N) (h4 : N ≤ 2147483647) : -9223372032559808512 ≤ y * N ∧ y * N ≤ 9223372032559808512 := by
  rcases Int.le_total 0 y with p | p
  · have a := Int.mul_nonneg p (by omega : 0 ≤ N)
    have b := Int.mul_le_mul h2 h4 (by omega) (by omega : (0 : Int) ≤ 4294967296)
    omega
  · have a := Int.mul_nonneg (by omega : 0 ≤ -y) (by omega : 0 ≤ N)
    have b := Int.mul_le_mul (by omega : -y ≤ 4294967296) h4 (by omega) (by omega : (0 : Int) ≤ 4294967296)
    rw [Int.neg_mul] at a b
    omega

set_option maxRecDepth 100000 in
set_option maxHeartbeats 2000000 in
theorem rfrom_any (a : Option Addr) (len cap : Nat) (zs : List Int) (w : World) (R : Row w a len zs) :
    Calls Tryd.prog 31 #[.slice a len cap] w fun e w' => e = .returned (fromV (fromA zs)) ∧ Below w.heap.size w w' := by
  have hm := R.max
  unfold maxLen at hm
  have hsz := R.size
  by_cases h0 : len = 0
  · have : zs = [] := List.eq_nil_of_length_eq_zero (by omega)
    subst this
    subst h0
    rw [show fromA [] = (0, 0, 11) from rfl]
    go_enter Tryd.func31, Tryd.ntmps31
    go_wp2
    go_returns
    exact ⟨rfl, by go_grown⟩
  · obtain ⟨b, off, rfl, hb, hc⟩ := R.mem.resolve_left h0
    have hne : zs ≠ [] := fun e => by subst e; simp at hsz; omega
    have hlz : ((len : Int) == 0) = false := by simp; omega
    have HC : Hid _ := hc
    clear hc
    go_enter Tryd.func31, Tryd.ntmps31
    go_wp2
    go_loopg [4] (len - 1) (fun g i wr => ∃ k : Nat, k + g = len - 1 ∧ i = .int .i64 ((k : Int) + 1) ∧ Hid (∀ j, j < k → 1 ≤ zs.getD (j + 1) 0) ∧ wr = w.alloc (.cells #[.int .i64 0, .int .i64 0] 23))
    case atStart => exact ⟨0, by omega, rfl, fun j h => absurd h (by omega), rfl⟩
    case round =>
      obtain ⟨k, hk, rfl, HK, rfl⟩ := hrel
      by_cases hlt : k < len - 1
      · have c0 : w.cell? ⟨b, off + (k + 1), none⟩ = some (.int .i64 (zs.getD (k + 1) 0)) := HC.out (k + 1) (by omega)
        have bd := R.bd (k + 1)
        have hI : (k : Int) + 1 < (len : Int) := by omega
        have hI0 : (0 : Int) ≤ (k : Int) + 1 := by omega
        have hIt : ((k : Int) + 1).toNat = k + 1 := by omega
        have HBT : Hid (zs.getD (k + 1) 0 < 1 → badT zs = true) := fun h => badT_of (by omega) h
        obtain ⟨x, hx⟩ : ∃ x, zs.getD (k + 1) 0 = x := ⟨_, rfl⟩
        rw [hx] at c0 bd HBT
        have HX : Hid (zs.getD (k + 1) 0 = x) := hx
        have HKG : Hid (k + gk = len - 1) := hk
        clear hx hk
        by_cases hx1 : x < 1
        · have HZ : Hid (fromA zs = (0, 0, 11)) := by show fromA zs = (0, 0, 11); rw [fromA, if_neg hne, if_pos (HBT.out hx1)]
          go_wp2
          go_returns
          exact ⟨by rw [HZ.out], by go_grown⟩
        · go_wp2
          go_roundg (gk - 1)
          case measure => have := HKG.out; omega
          case rel => exact ⟨k + 1, by have := HKG.out; omega, by simp, fun j hj => by
            by_cases e : j = k
            · subst e; rw [HX.out]; omega
            · exact HK.out j (by omega), rfl⟩
      · have hk1 : k = len - 1 := by omega
        have HB2 : Hid (badT zs = false) := not_badT (fun j hj => HK.out j (by omega))
        have hkn : ¬ ((k : Int) + 1 < (len : Int)) := by omega
        have HA : Hid (fromA zs = fromL zs) := by show fromA zs = fromL zs; rw [fromA, if_neg hne, HB2.out]; rfl
        clear hk hlt HK
        go_wp2
        go_loopg [5, 6, 7] len (fun g n d i wr => ∃ (m : Nat) (N D : Int), i = .int .i64 ((m : Int) - 1) ∧ n = .int .i64 N ∧ d = .int .i64 D ∧ m = g ∧ 0 < m ∧ m ≤ len ∧ Hid (St zs m N D) ∧ Two wr w.heap.size (.int .i64 0) (.int .i64 0) ∧ Below w.heap.size w wr)
        case atStart => exact ⟨len, 1, 0, rfl, rfl, rfl, rfl, by omega, Nat.le_refl _, .inl ⟨by omega, rfl, rfl⟩, Two.new _ _ _ _, (Below.refl _ w).alloc (Nat.le_refl _) _⟩
        case round =>
          obtain ⟨m, N, D, rfl, rfl, rfl, rfl, hm0, hml, HS, T0, hB⟩ := hrel
          obtain ⟨p2, p3, g2, g3, z2⟩ := id T0
          obtain ⟨j, rfl⟩ : ∃ j, m = j + 1 := ⟨m - 1, by omega⟩
          have hj : ((j + 1 : Nat) : Int) - 1 = (j : Int) := by omega
          obtain ⟨n1, n2, d1, d2⟩ := HS.out.bd (by omega) HB2.out
          obtain ⟨s1, s2⟩ := HS.out.step HB2.out
          have cj : wr.cell? ⟨b, off + j, none⟩ = some (.int .i64 (zs.getD j 0)) := (hB.cell (p := ⟨b, off + j, none⟩) hb).trans (HC.out j (by omega))
          have bdj := R.bd j
          obtain ⟨y, hy⟩ : ∃ y, zs.getD j 0 = y := ⟨_, rfl⟩
          rw [hy] at cj bdj s1 s2
          clear hy
          have hjl : (j : Int) < (len : Int) := by omega
          have hj0 : (0 : Int) ≤ (j : Int) := by omega
          have HS1 : Hid _ := s1
          have HS2 : Hid _ := s2
          have HER : Hid ((fromL (zs.drop j)).2.2 ≠ 0 → fromL zs = fromL (zs.drop j)) := fun h => fromL_err zs j (by omega) h
          clear s1 s2
          rw [hj]
          have hBs := hB.size
          by_cases y1 : 4294967296 < y
          · have HQ : Hid (fromA zs = (0, 0, 10)) := by
              show fromA zs = (0, 0, 10)
              have := HS2.out (by unfold sz; omega)
              rw [HA.out, HER.out (by rw [this]; simp), this]
            go_wp2
            all_goals exact bodyPost_ret (v := fromV (0, 0, 10)) (by simp [results, Tryd.results31, go_sem, p2, p3]) rfl ⟨by rw [HQ.out], by go_grown⟩
          · by_cases y2 : y < -4294967296
            · have HQ : Hid (fromA zs = (0, 0, 10)) := by
                show fromA zs = (0, 0, 10)
                have := HS2.out (by unfold sz; omega)
                rw [HA.out, HER.out (by rw [this]; simp), this]
              go_wp2
              all_goals exact bodyPost_ret (v := fromV (0, 0, 10)) (by simp [results, Tryd.results31, go_sem, p2, p3]) rfl ⟨by rw [HQ.out], by go_grown⟩
            · obtain ⟨m0, m1⟩ := prod_bd (y := y) (N := N) (by omega) (by omega) n1 n2
              obtain ⟨E, hE⟩ : ∃ E, mkE (y * N + D) N = E := ⟨_, rfl⟩
              obtain ⟨N', hN⟩ : ∃ N', mkN (y * N + D) N = N' := ⟨_, rfl⟩
              obtain ⟨D', hD⟩ : ∃ D', mkD (y * N + D) N = D' := ⟨_, rfl⟩
              have HS3 : Hid (fromL (zs.drop j) = (N', D', E)) := by show _ = _; rw [HS1.out, hE, hN, hD]
              have M := fun W => rmake_any (y * N + D) N W (by omega) (by omega) (by omega) (by omega)
              rw [hE, hN, hD] at M
              clear hE hN hD HS1 HS2
              by_cases e0 : E = 0
              · have e1 : (E != 0) = false := by simpa using e0
                by_cases j0 : j = 0
                · subst j0
                  have c00 : wr.cell? ⟨b, off, none⟩ = some (.int .i64 y) := cj
                  have HQ : Hid (fromA zs = (N', D', 0)) := by
                    show fromA zs = (N', D', 0)
                    have := HS3.out
                    rw [List.drop_zero, e0] at this
                    rw [HA.out, this]
                  go_wp2_with (go_at_call 10; refine (M _).mono ?_; rintro e w1 ⟨rfl, hb1⟩; have T1 : Two w1 w.heap.size (.int .i64 0) (.int .i64 0) := Two.below T0 hb1; have hB1 : Below w.heap.size w w1 := hB.trans (hb1.mono hB.size); have sz1 : w.heap.size < w1.heap.size := T1.2.2.2.2; obtain ⟨u0, u1, u2, u3, u4⟩ := id T1; clear hb1)
                  all_goals have Tz := (T1.alloc (.cells #[.int .i64 N', .int .i64 D'] 23)).store (.int .i64 N') (.int .i64 D')
                  all_goals have Ty := (T1.store (.int .i64 N') (.int .i64 D')).alloc (.cells #[.int .i64 N', .int .i64 D'] 23)
                  all_goals exact bodyPost_ret (v := fromV (N', D', 0)) (by simp [results, Tryd.results31, go_sem, Ty.1, Ty.2.1, Tz.1, Tz.2.1]) rfl ⟨by rw [HQ.out], by go_grown⟩
                · have j1 : ((j : Int) == 0) = false := by simpa using j0
                  go_wp2_with (go_at_call 10; refine (M _).mono ?_; rintro e w1 ⟨rfl, hb1⟩; have T1 : Two w1 w.heap.size (.int .i64 0) (.int .i64 0) := Two.below T0 hb1; have hB1 : Below w.heap.size w w1 := hB.trans (hb1.mono hB.size); have sz1 : w.heap.size < w1.heap.size := T1.2.2.2.2; obtain ⟨u0, u1, u2, u3, u4⟩ := id T1; clear hb1)
                  go_roundg j
                  case measure => omega
                  case rel => exact ⟨j, N', D', rfl, rfl, rfl, rfl, by omega, by omega, .inr ⟨by omega, by rw [HS3.out, e0]⟩, T1.alloc _, hB1.alloc hB1.size _⟩
              · have e1 : (E != 0) = true := by simpa using e0
                have HQ : Hid (fromA zs = (0, 0, E)) := by
                  show fromA zs = (0, 0, E)
                  have h3 := HS3.out
                  have hz := fromL_zero (zs.drop j) (by rw [h3]; exact e0)
                  rw [h3] at hz
                  simp only at hz
                  rw [HA.out, HER.out (by rw [h3]; exact e0), h3, hz.1, hz.2]
                go_wp2_with (go_at_call 10; refine (M _).mono ?_; rintro e w1 ⟨rfl, hb1⟩; have T1 : Two w1 w.heap.size (.int .i64 0) (.int .i64 0) := Two.below T0 hb1; have hB1 : Below w.heap.size w w1 := hB.trans (hb1.mono hB.size); have sz1 : w.heap.size < w1.heap.size := T1.2.2.2.2; obtain ⟨u0, u1, u2, u3, u4⟩ := id T1; clear hb1)
                all_goals have Ty := (T1.store (.int .i64 0) (.int .i64 0)).alloc (.cells #[.int .i64 N', .int .i64 D'] 23)
                all_goals exact bodyPost_ret (v := fromV (0, 0, E)) (by simp [results, Tryd.results31, go_sem, Ty.1, Ty.2.1]) rfl ⟨by rw [HQ.out], by go_grown⟩

end Go.Proofs.YtonndlhppihdiaaDoor
