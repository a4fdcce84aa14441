/-
  What From returns: the fraction of which a list is the continued fraction.
-/
import Derived.Test.YtkdaefaggbmbnaaDoorOps
import Derived.Test.YtkdaefaggbmbnaaDoorRowIn
import Derived.Test.YtkdaefaggbmbnaaDoorNext
import Derived.Deep.DeepCutAuto
namespace Go.Proofs.YtkdaefaggbmbnaaDoor
open Go.ChangeShapes Go.WideShapes Go.ChangeAt Go.RowKit
set_option linter.unusedVariables false
set_option linter.unusedSimpArgs false

def onN (t n d : Int) : Int := if 2147483648 < sz t then 0 else mkN (t * n + d) n
def onD (t n d : Int) : Int := if 2147483648 < sz t then 0 else mkD (t * n + d) n
def onE (t n d : Int) : Int := if 2147483648 < sz t then 10 else mkE (t * n + d) n
theorem on_sm (t n d : Int) : Sm (onN t n d) ∧ Sm (onD t n d) := by
  unfold onN onD
  split
  · exact ⟨Sm.zero, Sm.zero⟩
  · exact mk_sm _ _

theorem mul_bd2 {a b : Int} (ha : -2147483648 ≤ a) (ha' : a ≤ 2147483648) (hb : Sm b) : -4611686016279904256 ≤ a * b ∧ a * b ≤ 4611686016279904256 := by
  obtain ⟨b1, b2⟩ := hb
  have key : ∀ x y : Int, 0 ≤ x → x ≤ 2147483648 → 0 ≤ y → y ≤ 2147483647 → 0 ≤ x * y ∧ x * y ≤ 4611686016279904256 := fun x y h1 h2 h3 h4 =>
    ⟨Int.mul_nonneg h1 h3, by have := Int.mul_le_mul h2 h4 h3 (by omega : (0 : Int) ≤ 2147483648); omega⟩
  rcases Int.le_total 0 a with p | p <;> rcases Int.le_total 0 b with q | q
  · have := key a b p ha' q b2; omega
  · have := key a (-b) p ha' (by omega) (by omega); rw [Int.mul_neg] at this; omega
  · have := key (-a) b (by omega) (by omega) q b2; rw [Int.neg_mul] at this; omega
  · have := key (-a) (-b) (by omega) (by omega) (by omega) (by omega); rw [Int.neg_mul_neg] at this; omega

abbrev onV (t n d : Int) : Value := .tuple #[fr (onN t n d) (onD t n d), .int .i64 (onE t n d)]

set_option maxRecDepth 100000 in
set_option maxHeartbeats 1000000 in
theorem onto_any (t n d : Int) (w : World) (ht : -9223372036854775808 ≤ t) (ht' : t ≤ 9223372036854775807) (h1 : Sm n) (h2 : Sm d) :
    Calls Tryd.prog 64 #[.int .i64 t, fr n d] w fun e w' => e = .returned (onV t n d) ∧ Below w.heap.size w w' := by
  by_cases c : 2147483648 < sz t
  · rw [show onV t n d = .tuple #[fr 0 0, .int .i64 10] by simp [onV, onN, onD, onE, c]]
    have c' : (2147483648 : Int) < ((sz t : Nat) : Int) := by omega
    go_enter Tryd.func64, Tryd.ntmps64
    go_wp2_with (go_at_call 32; refine (size_any _ _ (by omega) (by omega)).mono ?_; rintro e w' ⟨rfl, rfl⟩)
    go_returns
    exact ⟨rfl, by go_grown⟩
  · rw [show onV t n d = mkV (t * n + d) n by simp [onV, onN, onD, onE, c, mkV]]
    have c' : ((sz t : Nat) : Int) ≤ 2147483648 := by omega
    have t1 : -2147483648 ≤ t ∧ t ≤ 2147483648 := by unfold sz at c; omega
    obtain ⟨m0, m1⟩ := mul_bd2 t1.1 t1.2 h1
    obtain ⟨v1, v2⟩ := id h1
    obtain ⟨v3, v4⟩ := id h2
    clear c
    go_enter Tryd.func64, Tryd.ntmps64
    go_wp2_with (first | (go_at_call 32; refine (size_any _ _ (by omega) (by omega)).mono ?_; rintro e w' ⟨rfl, rfl⟩) | (go_at_call 23; refine (make_any _ _ _ (by omega) (by omega) (by omega) (by omega)).mono ?_; rintro e w1 ⟨rfl, hb⟩; obtain ⟨q0, q1, f0, f1, z⟩ := ((Two.new _ _ _ _).below hb).at (k' := w.heap.size + 1) (by simp); have hB : Below w.heap.size w w1 := Below.trans (by go_grown) (hb.mono (by simp; omega)); clear hb))
    exact bodyPost_ret (v := mkV (t * n + d) n) (by simp [results, Tryd.results64, go_sem, q0, q1, z]) rfl ⟨rfl, by go_grown⟩

/-- Numerator, denominator, error. -/
def fromL : List Int → Int × Int × Int
  | [] => (0, 0, 11)
  | [x] => (mkN x 1, mkD x 1, mkE x 1)
  | x :: y :: r => if (fromL (y :: r)).2.2 = 0 then (onN x (fromL (y :: r)).1 (fromL (y :: r)).2.1, onD x (fromL (y :: r)).1 (fromL (y :: r)).2.1, onE x (fromL (y :: r)).1 (fromL (y :: r)).2.1) else fromL (y :: r)
def badT (l : List Int) : Bool := (l.drop 1).any (fun x => decide (x < 1))
def fromA (l : List Int) : Int × Int × Int := if l = [] then (0, 0, 11) else if badT l then (0, 0, 11) else fromL l

theorem fromL_sm : ∀ l : List Int, Sm (fromL l).1 ∧ Sm (fromL l).2.1
  | [] => ⟨Sm.zero, Sm.zero⟩
  | [x] => mk_sm x 1
  | x :: y :: r => by
    unfold fromL
    split
    · exact on_sm _ _ _
    · exact fromL_sm (y :: r)
theorem fromL_drop (zs : List Int) (i : Nat) (h : i + 1 < zs.length) :
    fromL (zs.drop i) = if (fromL (zs.drop (i + 1))).2.2 = 0 then (onN (zs.getD i 0) (fromL (zs.drop (i + 1))).1 (fromL (zs.drop (i + 1))).2.1, onD (zs.getD i 0) (fromL (zs.drop (i + 1))).1 (fromL (zs.drop (i + 1))).2.1, onE (zs.getD i 0) (fromL (zs.drop (i + 1))).1 (fromL (zs.drop (i + 1))).2.1) else fromL (zs.drop (i + 1)) := by
  have e1 : zs.drop i = zs.getD i 0 :: zs.drop (i + 1) := by
    rw [List.drop_eq_getElem_cons (by omega)]; simp [List.getD, show i < zs.length by omega]
  have e2 : ∃ y r, zs.drop (i + 1) = y :: r := ⟨_, _, List.drop_eq_getElem_cons h⟩
  obtain ⟨y, r, e2⟩ := e2
  rw [e1, e2, fromL]
theorem fromL_last (zs : List Int) (h : zs ≠ []) : fromL (zs.drop (zs.length - 1)) = (mkN (zs.getD (zs.length - 1) 0) 1, mkD (zs.getD (zs.length - 1) 0) 1, mkE (zs.getD (zs.length - 1) 0) 1) := by
  have hp : 0 < zs.length := List.length_pos_iff.2 h
  have e1 : zs.drop (zs.length - 1) = [zs.getD (zs.length - 1) 0] := by
    rw [List.drop_eq_getElem_cons (by omega), List.drop_eq_nil_of_le (by omega)]
    simp [List.getD, show zs.length - 1 < zs.length by omega]
  rw [e1, fromL]
theorem badT_of {zs : List Int} {k : Nat} (h : k + 1 < zs.length) (hx : zs.getD (k + 1) 0 < 1) : badT zs = true := by
  unfold badT
  rw [List.any_eq_true]
  refine ⟨zs.getD (k + 1) 0, ?_, by simpa using hx⟩
  rw [List.mem_iff_getElem?]
  refine ⟨k, ?_⟩
  rw [List.getElem?_drop, Nat.add_comm, List.getD_eq_getElem?_getD, List.getElem?_eq_getElem h]
  rfl
theorem not_badT {zs : List Int} (h : ∀ j, j + 1 < zs.length → 1 ≤ zs.getD (j + 1) 0) : badT zs = false := by
  unfold badT
  rw [List.any_eq_false]
  intro x hx
  rw [List.mem_iff_getElem?] at hx
  obtain ⟨j, hj⟩ := hx
  rw [List.getElem?_drop, Nat.add_comm] at hj
  have hl := (List.getElem?_eq_some_iff.1 hj).1
  have := h j hl
  rw [List.getD_eq_getElem?_getD, hj] at this
  simpa using this

theorem fromL_err (zs : List Int) : ∀ k, k < zs.length → (fromL (zs.drop k)).2.2 ≠ 0 → fromL zs = fromL (zs.drop k)
  | 0, _, _ => by simp
  | k + 1, h, he => by
    have e := fromL_drop zs k h
    rw [if_neg he] at e
    rw [← e]
    exact fromL_err zs k (by omega) (by rw [e]; exact he)

abbrev fromV (p : Int × Int × Int) : Value := .tuple #[fr p.1 p.2.1, .int .i64 p.2.2]

set_option maxRecDepth 100000 in
set_option maxHeartbeats 2000000 in
theorem from_any (a : Option Addr) (len cap : Nat) (zs : List Int) (w : World) (R : Row w a len zs) (hcap : len ≤ cap) (hcap' : cap ≤ 9223372036854775807) :
    Calls Tryd.prog 46 #[.slice a len cap] w fun e w' => e = .returned (fromV (fromA zs)) ∧ Below w.heap.size w w' := by
  have hm := R.max
  unfold maxLen at hm
  have hsz := R.size
  by_cases h0 : len = 0
  · have : zs = [] := List.eq_nil_of_length_eq_zero (by omega)
    subst this
    subst h0
    rw [show fromA [] = (0, 0, 11) from rfl]
    go_enter Tryd.func46, Tryd.ntmps46
    go_wp2
    go_returns
    exact ⟨rfl, by go_grown⟩
  · obtain ⟨b, off, rfl, hb, hc⟩ := R.mem.resolve_left h0
    have hne : zs ≠ [] := fun e => by subst e; simp at hsz; omega
    have hl1 : (1 : Int) ≤ (len : Int) := by omega
    have hl2 : (len : Int) ≤ (cap : Int) := by omega
    have hl3 : ¬ ((len : Int) = 0) := by omega
    have HC : Hid _ := hc
    clear hc
    have hlz : ((len : Int) == 0) = false := by simp; omega
    by_cases hc1 : cap = 1
    · subst hc1
      go_enter Tryd.func46, Tryd.ntmps46
      go_wp2
      go_loopg [16] (len - 1) (fun g i wr => ∃ k : Nat, k + g = len - 1 ∧ i = .int .i64 k ∧ Hid (∀ j, j < k → 1 ≤ zs.getD (j + 1) 0) ∧ wr = w.alloc (.cells #[.int .i64 0, .int .i64 0] 23))
      case atStart => exact ⟨0, by omega, rfl, fun j h => absurd h (by omega), rfl⟩
      case round =>
        obtain ⟨k, hk, rfl, HK, rfl⟩ := hrel
        by_cases hlt : k < len - 1
        · exact absurd hlt (by omega)
        · have hk1 : k = len - 1 := by omega
          have HB2 : Hid (badT zs = false) := not_badT (fun j hj => HK.out j (by omega))
          have hge : (0 : Int) ≤ (k : Int) := by omega
          have hkn : ¬ ((k : Int) < 0) := by omega
          clear hk hlt HK
          have cl : w.cell? ⟨b, off + (len - 1), none⟩ = some (.int .i64 (zs.getD (len - 1) 0)) := HC.out (len - 1) (by omega)
          have HF : Hid _ := fromL_last zs hne
          have bdl := R.bd (len - 1)
          rw [hsz] at HF
          obtain ⟨x, hx⟩ : ∃ x, zs.getD (len - 1) 0 = x := ⟨_, rfl⟩
          rw [hx] at cl bdl HF
          clear hx
          have cl2 : len = 1 → w.cell? ⟨b, off, none⟩ = some (.int .i64 x) := fun e => by subst e; exact cl
          have HA : Hid (fromA zs = fromL zs) := by show fromA zs = fromL zs; rw [fromA, if_neg hne, HB2.out]; rfl
          have cl3 := cl2 (by omega)
          have hlA : (0 : Int) ≤ (len : Int) - 1 := by omega
          have hlB : (len : Int) - 1 < (len : Int) := by omega
          go_wp2_with (go_at_call 23; refine (make_any _ _ _ (by omega) (by omega) (by omega) (by omega)).mono ?_; rintro e w1 ⟨rfl, hb1⟩)
          have Tr : Two w1 w.heap.size (.int .i64 0) (.int .i64 0) := (Two.new w _ _ _).below hb1
          have hB1 : Below w.heap.size w w1 := ((Below.refl _ w).alloc (Nat.le_refl _) _).trans (hb1.mono (by simp))
          have sz1 : w.heap.size < w1.heap.size := Tr.2.2.2.2
          clear hb1 cl cl2
          go_loopg [7, 8] (len - 1) (fun g e i wr => ∃ (m : Nat) (N D E : Int), i = .int .i64 ((m : Int) - 1) ∧ e = .int .i64 E ∧ m = g ∧ m < len ∧ Hid ((N, D, E) = fromL (zs.drop m)) ∧ Two wr w1.heap.size (.int .i64 N) (.int .i64 D) ∧ Two wr w.heap.size (.int .i64 0) (.int .i64 0) ∧ Below w.heap.size w wr)
          case atStart => exact ⟨len - 1, mkN x 1, mkD x 1, mkE x 1, by rw [show ((len : Int) - 2) = ((len - 1 : Nat) : Int) - 1 by omega], rfl, rfl, by omega, HF.out.symm, Two.new _ _ _ _, Tr.alloc _, hB1.alloc hB1.size _⟩
          case round =>
            obtain ⟨m, N, D, E, rfl, rfl, rfl, hml, HN, T1, T0, hB⟩ := hrel
            obtain ⟨p0, p1, g0, g1, z1⟩ := id T1
            obtain ⟨p2, p3, g2, g3, z2⟩ := id T0
            by_cases hE : E = 0
            · have hE1 : (E == 0) = true := by simpa using hE
              by_cases hm0 : m = 0
              · have hmI : ¬ ((0 : Int) ≤ (m : Int) - 1) := by omega
                have hmD : decide ((0 : Int) ≤ (m : Int) - 1) = false := by simpa using hmI
                go_wp2
                all_goals exact bodyPost_ret (v := fromV (N, D, E)) (by simp [results, Tryd.results46, go_sem, p2, p3, hE]) rfl ⟨by rw [HA.out, HN.out, hm0, List.drop_zero], by go_grown⟩
              · obtain ⟨j, rfl⟩ : ∃ j, m = j + 1 := ⟨m - 1, by omega⟩
                have hj : ((j + 1 : Nat) : Int) - 1 = (j : Int) := by omega
                have sm := fromL_sm (zs.drop (j + 1))
                rw [← HN.out] at sm
                obtain ⟨s1, s2⟩ := sm
                have cj : wr.cell? ⟨b, off + j, none⟩ = some (.int .i64 (zs.getD j 0)) := (hB.cell (p := ⟨b, off + j, none⟩) hb).trans (HC.out j (by omega))
                have bdj := R.bd j
                have HNX : Hid ((onN (zs.getD j 0) N D, onD (zs.getD j 0) N D, onE (zs.getD j 0) N D) = fromL (zs.drop j)) := by
                  show _ = fromL (zs.drop j)
                  rw [fromL_drop zs j (by omega), ← HN.out, if_pos hE]
                obtain ⟨y, hy⟩ : ∃ y, zs.getD j 0 = y := ⟨_, rfl⟩
                rw [hy] at cj bdj HNX
                clear hy
                have hjl : (j : Int) < (len : Int) := by omega
                have hj0 : (0 : Int) ≤ (j : Int) := by omega
                rw [hj]
                have hBs := hB.size
                go_wp2
                all_goals go_region_with (go_at_call 64; refine (onto_any _ _ _ _ bdj.1 bdj.2 s1 s2).mono ?_; rintro e w2 ⟨rfl, hb2⟩; have U1 : Two w2 w1.heap.size (.int .i64 N) (.int .i64 D) := Two.below (by exact T1.drew) hb2; have U0 : Two w2 w.heap.size (.int .i64 0) (.int .i64 0) := Two.below (by exact T0.drew) hb2; obtain ⟨v0, v1, y0, y1, yz⟩ := id U1; have hB2 : Below w.heap.size w w2 := (Below.drew hB).trans (hb2.mono (by simp; omega)))
                all_goals go_wp2
                all_goals go_roundg j
                all_goals first
                  | omega
                  | exact ⟨j, onN y N D, onD y N D, onE y N D, rfl, rfl, rfl, by omega, HNX, Two.store U1 _ _, (U0.far _ _ _ (by omega)).far _ _ _ (by omega), (hB2.setCell (p := ⟨w1.heap.size, 0, none⟩) (by show w.heap.size ≤ w1.heap.size; omega) _).setCell (p := ⟨w1.heap.size, 1, none⟩) (by show w.heap.size ≤ w1.heap.size; omega) _⟩
            · have hE1 : (E == 0) = false := by simpa using hE
              have HEE : Hid (fromL zs = (N, D, E)) := by
                show fromL zs = (N, D, E)
                rw [HN.out]; exact fromL_err zs m (by omega) (by rw [← HN.out]; exact hE)
              by_cases hm0 : m = 0
              · have hmD : decide ((0 : Int) ≤ (m : Int) - 1) = false := by simp; omega
                go_wp2
                all_goals exact bodyPost_ret (v := fromV (N, D, E)) (by simp [results, Tryd.results46, go_sem, p2, p3]) rfl ⟨by rw [HA.out, HEE.out], by go_grown⟩
              · have hmD : decide ((0 : Int) ≤ (m : Int) - 1) = true := by simp; omega
                go_wp2
                all_goals exact bodyPost_ret (v := fromV (N, D, E)) (by simp [results, Tryd.results46, go_sem, p2, p3]) rfl ⟨by rw [HA.out, HEE.out], by go_grown⟩
    · have hcn : ¬ ((cap : Int) = 1) := by omega
      go_enter Tryd.func46, Tryd.ntmps46
      go_wp2
      go_loopg [16] (len - 1) (fun g i wr => ∃ k : Nat, k + g = len - 1 ∧ i = .int .i64 k ∧ Hid (∀ j, j < k → 1 ≤ zs.getD (j + 1) 0) ∧ wr = w.alloc (.cells #[.int .i64 0, .int .i64 0] 23))
      case atStart => exact ⟨0, by omega, rfl, fun j h => absurd h (by omega), rfl⟩
      case round =>
        obtain ⟨k, hk, rfl, HK, rfl⟩ := hrel
        by_cases hlt : k < len - 1
        · have c0 : w.cell? ⟨b, off + 1 + k, none⟩ = some (.int .i64 (zs.getD (k + 1) 0)) := by have := HC.out (k + 1) (by omega); rw [show off + (k + 1) = off + 1 + k by omega] at this; exact this
          have bd := R.bd (k + 1)
          have hI : (k : Int) < (len : Int) - 1 := by omega
          have HBT : Hid (zs.getD (k + 1) 0 < 1 → badT zs = true) := fun h => badT_of (by omega) h
          obtain ⟨x, hx⟩ : ∃ x, zs.getD (k + 1) 0 = x := ⟨_, rfl⟩
          rw [hx] at c0 bd HBT
          have HX : Hid (zs.getD (k + 1) 0 = x) := hx
          have HKG : Hid (k + gk = len - 1) := hk
          clear hx hk
          by_cases hx1 : x < 1
          · have HZ : Hid (fromA zs = (0, 0, 11)) := by show fromA zs = (0, 0, 11); rw [fromA, if_neg hne, if_pos (HBT.out hx1)]
            go_wp2
            go_returns
            exact ⟨by rw [HZ.out], by go_grown⟩
          · go_wp2
            go_roundg (gk - 1)
            case measure => have := HKG.out; omega
            case rel => exact ⟨k + 1, by have := HKG.out; omega, rfl, fun j hj => by
              by_cases e : j = k
              · subst e; rw [HX.out]; omega
              · exact HK.out j (by omega), rfl⟩
        · have hk1 : k = len - 1 := by omega
          have HB2 : Hid (badT zs = false) := not_badT (fun j hj => HK.out j (by omega))
          have hge : ((len : Int) - 1) ≤ (k : Int) := by omega
          have hkn : ¬ ((k : Int) < (len : Int) - 1) := by omega
          clear hk hlt HK
          have cl : w.cell? ⟨b, off + (len - 1), none⟩ = some (.int .i64 (zs.getD (len - 1) 0)) := HC.out (len - 1) (by omega)
          have HF : Hid _ := fromL_last zs hne
          have bdl := R.bd (len - 1)
          rw [hsz] at HF
          obtain ⟨x, hx⟩ : ∃ x, zs.getD (len - 1) 0 = x := ⟨_, rfl⟩
          rw [hx] at cl bdl HF
          clear hx
          have cl2 : len = 1 → w.cell? ⟨b, off, none⟩ = some (.int .i64 x) := fun e => by subst e; exact cl
          have HA : Hid (fromA zs = fromL zs) := by show fromA zs = fromL zs; rw [fromA, if_neg hne, HB2.out]; rfl
          have hlA : (0 : Int) ≤ (len : Int) - 1 := by omega
          have hlB : (len : Int) - 1 < (len : Int) := by omega
          go_wp2_with (go_at_call 23; refine (make_any _ _ _ (by omega) (by omega) (by omega) (by omega)).mono ?_; rintro e w1 ⟨rfl, hb1⟩)
          have Tr : Two w1 w.heap.size (.int .i64 0) (.int .i64 0) := (Two.new w _ _ _).below hb1
          have hB1 : Below w.heap.size w w1 := ((Below.refl _ w).alloc (Nat.le_refl _) _).trans (hb1.mono (by simp))
          have sz1 : w.heap.size < w1.heap.size := Tr.2.2.2.2
          clear hb1 cl cl2
          go_loopg [7, 8] (len - 1) (fun g e i wr => ∃ (m : Nat) (N D E : Int), i = .int .i64 ((m : Int) - 1) ∧ e = .int .i64 E ∧ m = g ∧ m < len ∧ Hid ((N, D, E) = fromL (zs.drop m)) ∧ Two wr w1.heap.size (.int .i64 N) (.int .i64 D) ∧ Two wr w.heap.size (.int .i64 0) (.int .i64 0) ∧ Below w.heap.size w wr)
          case atStart => exact ⟨len - 1, mkN x 1, mkD x 1, mkE x 1, by rw [show ((len : Int) - 2) = ((len - 1 : Nat) : Int) - 1 by omega], rfl, rfl, by omega, HF.out.symm, Two.new _ _ _ _, Tr.alloc _, hB1.alloc hB1.size _⟩
          case round =>
            obtain ⟨m, N, D, E, rfl, rfl, rfl, hml, HN, T1, T0, hB⟩ := hrel
            obtain ⟨p0, p1, g0, g1, z1⟩ := id T1
            obtain ⟨p2, p3, g2, g3, z2⟩ := id T0
            by_cases hE : E = 0
            · have hE1 : (E == 0) = true := by simpa using hE
              by_cases hm0 : m = 0
              · have hmI : ¬ ((0 : Int) ≤ (m : Int) - 1) := by omega
                have hmD : decide ((0 : Int) ≤ (m : Int) - 1) = false := by simpa using hmI
                go_wp2
                all_goals exact bodyPost_ret (v := fromV (N, D, E)) (by simp [results, Tryd.results46, go_sem, p2, p3, hE]) rfl ⟨by rw [HA.out, HN.out, hm0, List.drop_zero], by go_grown⟩
              · obtain ⟨j, rfl⟩ : ∃ j, m = j + 1 := ⟨m - 1, by omega⟩
                have hj : ((j + 1 : Nat) : Int) - 1 = (j : Int) := by omega
                have sm := fromL_sm (zs.drop (j + 1))
                rw [← HN.out] at sm
                obtain ⟨s1, s2⟩ := sm
                have cj : wr.cell? ⟨b, off + j, none⟩ = some (.int .i64 (zs.getD j 0)) := (hB.cell (p := ⟨b, off + j, none⟩) hb).trans (HC.out j (by omega))
                have bdj := R.bd j
                have HNX : Hid ((onN (zs.getD j 0) N D, onD (zs.getD j 0) N D, onE (zs.getD j 0) N D) = fromL (zs.drop j)) := by
                  show _ = fromL (zs.drop j)
                  rw [fromL_drop zs j (by omega), ← HN.out, if_pos hE]
                obtain ⟨y, hy⟩ : ∃ y, zs.getD j 0 = y := ⟨_, rfl⟩
                rw [hy] at cj bdj HNX
                clear hy
                have hjl : (j : Int) < (len : Int) := by omega
                have hj0 : (0 : Int) ≤ (j : Int) := by omega
                rw [hj]
                have hBs := hB.size
                go_wp2
                all_goals go_region_with (go_at_call 64; refine (onto_any _ _ _ _ bdj.1 bdj.2 s1 s2).mono ?_; rintro e w2 ⟨rfl, hb2⟩; have U1 : Two w2 w1.heap.size (.int .i64 N) (.int .i64 D) := Two.below (by exact T1.drew) hb2; have U0 : Two w2 w.heap.size (.int .i64 0) (.int .i64 0) := Two.below (by exact T0.drew) hb2; obtain ⟨v0, v1, y0, y1, yz⟩ := id U1; have hB2 : Below w.heap.size w w2 := (Below.drew hB).trans (hb2.mono (by simp; omega)))
                all_goals go_wp2
                all_goals go_roundg j
                all_goals first
                  | omega
                  | exact ⟨j, onN y N D, onD y N D, onE y N D, rfl, rfl, rfl, by omega, HNX, Two.store U1 _ _, (U0.far _ _ _ (by omega)).far _ _ _ (by omega), (hB2.setCell (p := ⟨w1.heap.size, 0, none⟩) (by show w.heap.size ≤ w1.heap.size; omega) _).setCell (p := ⟨w1.heap.size, 1, none⟩) (by show w.heap.size ≤ w1.heap.size; omega) _⟩
            · have hE1 : (E == 0) = false := by simpa using hE
              have HEE : Hid (fromL zs = (N, D, E)) := by
                show fromL zs = (N, D, E)
                rw [HN.out]; exact fromL_err zs m (by omega) (by rw [← HN.out]; exact hE)
              by_cases hm0 : m = 0
              · have hmD : decide ((0 : Int) ≤ (m : Int) - 1) = false := by simp; omega
                go_wp2
                all_goals exact bodyPost_ret (v := fromV (N, D, E)) (by simp [results, Tryd.results46, go_sem, p2, p3]) rfl ⟨by rw [HA.out, HEE.out], by go_grown⟩
              · have hmD : decide ((0 : Int) ≤ (m : Int) - 1) = true := by simp; omega
                go_wp2
                all_goals exact bodyPost_ret (v := fromV (N, D, E)) (by simp [results, Tryd.results46, go_sem, p2, p3]) rfl ⟨by rw [HA.out, HEE.out], by go_grown⟩

end Go.Proofs.YtkdaefaggbmbnaaDoor
