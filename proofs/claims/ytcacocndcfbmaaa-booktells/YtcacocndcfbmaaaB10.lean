/-
  What the law BookTells returns.
-/
import Derived.Test.YtcacocndcfbmaaaB9
import Derived.Test.YtcacocndcfbmaaaH15
namespace Go.Proofs.Ytcacocndcfbmaaa
open Go.ChangeShapes Go.WideShapes Go.ChangeAt Go.RowKit
set_option linter.unusedVariables false
set_option linter.unusedSimpArgs false

theorem sum_neg (l : List (Int × Int)) (f g : Int × Int → Int) (h : ∀ p ∈ l, f p = -g p) : (l.map f).sum = -(l.map g).sum := by
  induction l with
  | nil => rfl
  | cons p r ih =>
    have h0 := h p (by simp)
    have hr := ih (fun q hq => h q (by simp [hq]))
    simp only [List.map_cons, List.sum_cons, h0, hr]
    omega
theorem sum_same (l : List (Int × Int)) (f g : Int × Int → Int) (h : ∀ p ∈ l, f p = g p) : (l.map f).sum = (l.map g).sum := by
  rw [List.map_congr_left h]
theorem ents_peer {id : Int} {name : ByteArray} {hs : List HS} {p : Int × Int} (hf : fitsB id hs = true) (h : p ∈ ents id name hs) : 0 ≤ p.1 := by
  obtain ⟨x, hx, e⟩ := List.mem_filterMap.1 h
  obtain ⟨n, hn, e2⟩ := List.getElem_of_mem hx
  have := (fit_top (fits_each hf n hn)).1
  rw [List.getD_eq_getElem?_getD, List.getElem?_eq_getElem hn, e2] at this
  unfold ent1 at e
  split at e
  · cases e
  · cases e
    exact this
/-- Entries' peers rise with the half-edges'. -/
theorem back_sum {peer : Int} : ∀ {hs : List HS} {id : Int} {name : ByteArray}, Rise hs → ((ents id name hs).map (cntB peer)).sum = backD peer (ents id name hs)
  | [], _, _, _ => rfl
  | x :: r, id, name, h => by
    obtain ⟨hr, hx⟩ := rise_cons h
    have ih := back_sum (peer := peer) (id := id) (name := name) hr
    have e : ents id name (x :: r) = (ent1 id name x).toList ++ ents id name r := by
      unfold ents
      rw [List.filterMap_cons]
      cases ent1 id name x <;> rfl
    cases he : ent1 id name x with
    | none => rw [e, he]; exact ih
    | some p =>
      have hp : p.1 = x.peer := by
        unfold ent1 at he
        split at he
        · cases he
        · cases he; rfl
      rw [e, he]
      show (cntB peer p :: (ents id name r).map (cntB peer)).sum = (if p.1 = peer then p.2 else backD peer (ents id name r))
      rw [List.sum_cons]
      by_cases c : p.1 = peer
      · rw [if_pos c]
        have z : ((ents id name r).map (cntB peer)).sum = 0 := by
          have : ∀ q ∈ ents id name r, cntB peer q = 0 := fun q hq => by
            obtain ⟨y, hy, ey⟩ := List.mem_filterMap.1 hq
            have := hx y hy
            have hq1 : q.1 = y.peer := by
              unfold ent1 at ey
              split at ey
              · cases ey
              · cases ey; rfl
            unfold cntB
            rw [if_neg (by omega)]
          rw [sum_same _ _ (fun _ => 0) this]
          clear this
          induction ents id name r with
          | nil => rfl
          | cons q s ihs => rw [List.map_cons, List.sum_cons, ihs]; rfl
        rw [z]
        unfold cntB
        rw [if_pos c]
        omega
      · rw [if_neg c, ← ih]
        unfold cntB
        rw [if_neg c]
        omega
theorem backD_rng {peer : Int} {l : List (Int × Int)} (h : ∀ p ∈ l, -2147483647 ≤ p.2 ∧ p.2 ≤ 2147483647) : -2147483647 ≤ backD peer l ∧ backD peer l ≤ 2147483647 := by
  induction l with
  | nil => exact ⟨by show (-2147483647 : Int) ≤ 0; decide, by show (0 : Int) ≤ 2147483647; decide⟩
  | cons p r ih =>
    unfold backD
    split
    · exact h p (by simp)
    · exact ih (fun q hq => h q (by simp [hq]))
theorem chk_in {x : Int} (h : -2147483647 ≤ x ∧ x ≤ 2147483647) : chkV x = x ∧ chkE x = 0 := by
  have : okI x = true := decide_eq_true h
  unfold chkV chkE
  rw [this]
  exact ⟨rfl, rfl⟩
set_option maxRecDepth 100000 in
set_option maxHeartbeats 8000000 in
theorem tells_walk (id input : Int) (A : Option Addr) (c : Nat) (hs : List HS) (name : ByteArray) (peer : Int) (w : World) (P : Hs w A hs.length c hs) : Calls Try.prog 3 #[.int .i64 id, .int .i64 input, .slice A hs.length c, .string name, .int .i64 peer] w fun e w' => e = .returned (.bool true) ∧ Below w.heap.size w w' := by
  have K6 := bfit_any id input A c hs w P
  cases hfit : (inI input && fitsB id hs) with
  | false =>
    rw [hfit] at K6
    clear hfit
    go_enter Try.func3, Try.ntmps3
    go_wp2_with (first
      | (go_at_call 6; refine K6.mono ?_; rintro e w1 ⟨rfl, b1⟩; clear K6)
      | (go_at_call 7; refine (awake_any _).mono ?_; rintro e w2 ⟨rfl, b2⟩))
    go_ret
    exact ⟨rfl, b1.trans (b2.mono b1.size)⟩
  | true =>
    rw [hfit] at K6
    rw [Bool.and_eq_true] at hfit
    obtain ⟨hi, hf⟩ := hfit
    have hin : -2147483647 ≤ input ∧ input ≤ 2147483647 := of_decide_eq_true hi
    have h16 := fits_few hf
    have hfe := fits_each hf
    have h8 := fun j hj => fit_lines (hfe j hj)
    have de := doc_eq (name := name) hfe
    have hle := ents_len id name hs
    have K9 := fun W (b : Below w.heap.size w W) => page_any id A c hs name W (P.below b)
    have K10 := fun W (b : Below w.heap.size w W) => rpage_any id A c hs name W (P.below b) h16 h8
    have K11 := fun W (b : Below w.heap.size w W) => taken_any id A c hs name W (P.below b) (by omega)
    have K12 := fun W (b : Below w.heap.size w W) => rTaken_any id A c hs name W (P.below b) h16 h8
    have K13 := fun W (b : Below w.heap.size w W) => estimate_any id input A c hs name W (P.below b) (by omega) hin
    have K14 := fun W (b : Below w.heap.size w W) => restimate_any id input A c hs name W (P.below b) h16 h8 hin
    have K15 := fun W (b : Below w.heap.size w W) => rest_any id input peer A c hs name W (P.below b) (by omega) hin
    have K16 := fun W (b : Below w.heap.size w W) => rrest_any id input peer A c hs name W (P.below b) h16 h8 hin
    have K17 := fun W (b : Below w.heap.size w W) => back_any id peer A c hs name W (P.below b) (by omega)
    have K18 := fun W (b : Below w.heap.size w W) => rback_any id A c hs name peer W (P.below b) h16 h8
    have e1 : (0 :: (ents id name hs).map cntT).sum = ((ents id name hs).map (cntN (-1))).sum := by
      rw [List.sum_cons, Int.zero_add]
      exact sum_same _ _ _ (fun p hp => by have := ents_peer hf hp; unfold cntT cntN; rw [if_neg (by omega)])
    have e2 : (input :: (ents id name hs).map cntE).sum = input - ((ents id name hs).map (cntN (-1))).sum := by
      rw [List.sum_cons, sum_neg _ cntE (cntN (-1)) (fun p hp => by have := ents_peer hf hp; unfold cntE cntN; rw [if_neg (by omega)])]
      omega
    have e3 : (input :: (ents id name hs).map (cntR peer)).sum = input - ((ents id name hs).map (cntN peer)).sum := by
      rw [List.sum_cons, sum_neg _ (cntR peer) (cntN peer) (fun p hp => by unfold cntR cntN; split <;> omega)]
      omega
    have e4 : (0 :: (ents id name hs).map (cntB peer)).sum = backD peer (ents id name hs) := by
      rw [List.sum_cons, Int.zero_add]
      exact back_sum (fits_rise hf)
    have e5 := chk_in (backD_rng (peer := peer) (l := ents id name hs) (fun p hp => ents_rng hp))
    simp only [de] at K10 K12 K14 K16 K18
    simp only [e1] at K11
    simp only [e2] at K13
    simp only [e3] at K15
    simp only [e4, e5.1, e5.2] at K17
    obtain ⟨l, el⟩ : ∃ l, ents id name hs = l := ⟨_, rfl⟩
    rw [el] at hle
    have HL : Hid (l.length ≤ 1000) := by show _ ≤ _; omega
    simp only [el] at K9 K10 K12 K14 K16 K18 K11 K13 K15 K17
    obtain ⟨s1, hs1⟩ : ∃ s, (l.map (cntN (-1))).sum = s := ⟨_, rfl⟩
    obtain ⟨s3, hs3⟩ : ∃ s, (l.map (cntN peer)).sum = s := ⟨_, rfl⟩
    obtain ⟨s4, hs4⟩ : ∃ s, backD peer l = s := ⟨_, rfl⟩
    simp only [hs1] at K11 K12 K13 K14
    simp only [hs3] at K15 K16
    simp only [hs4] at K17 K18
    clear hs1 hs3 hs4 el e1 e2 e3 e4 e5 de hle h8 hfe h16 hin hf hi
    go_enter Try.func3, Try.ntmps3
    go_wp2_with (first
      | (go_at_call 6; refine K6.mono ?_; rintro e w1 ⟨rfl, B1⟩; clear K6)
      | (go_at_call 9; refine (K9 _ B1).mono ?_; rintro e w2 ⟨v2, rfl, O2, b2⟩; clear K9; have B2 := B1.trans (b2.mono B1.size))
      | (go_at_call 10; refine (K10 _ B2).mono ?_; rintro e w3 ⟨v3, rfl, O3, b3⟩; clear K10; have B3 := B2.trans (b3.mono B2.size); obtain ⟨a3, c3, rfl, R3⟩ := ent_row O3 HL.out; obtain ⟨a2, c2, rfl, R2'⟩ := ent_row O2 HL.out; have R2 := R2'.below b3; clear O2 O3 R2')
      | (go_at_call 8; refine (same_self a2 a3 c2 c3 l _ R2 R3 HL.out).mono ?_; rintro e w4 ⟨rfl, b4⟩; clear R2 R3; have B4 := B3.trans (b4.mono B3.size))
      | (go_at_call 11; refine (K11 _ B4).mono ?_; rintro e w5 ⟨rfl, b5⟩; clear K11; have B5 := B4.trans (b5.mono B4.size))
      | (go_at_call 12; refine (K12 _ B5).mono ?_; rintro e w6 ⟨rfl, b6⟩; clear K12; have B6 := B5.trans (b6.mono B5.size))
      | (go_at_call 13; refine (K13 _ B6).mono ?_; rintro e w7 ⟨rfl, b7⟩; clear K13; have B7 := B6.trans (b7.mono B6.size))
      | (go_at_call 14; refine (K14 _ B7).mono ?_; rintro e w8 ⟨rfl, b8⟩; clear K14; have B8 := B7.trans (b8.mono B7.size))
      | (go_at_call 15; refine (K15 _ B8).mono ?_; rintro e w9 ⟨rfl, b9⟩; clear K15; have B9 := B8.trans (b9.mono B8.size))
      | (go_at_call 16; refine (K16 _ B9).mono ?_; rintro e w10 ⟨rfl, b10⟩; clear K16; have B10 := B9.trans (b10.mono B9.size))
      | (go_at_call 17; refine (K17 _ B10).mono ?_; rintro e w11 ⟨rfl, b11⟩; clear K17; have B11 := B10.trans (b11.mono B10.size))
      | (go_at_call 18; refine (K18 _ B11).mono ?_; rintro e w12 ⟨rfl, b12⟩; clear K18; have B12 := B11.trans (b12.mono B11.size))
      | (go_at_call 7; refine (awake_any _).mono ?_; rintro e w13 ⟨rfl, b13⟩; have B13 := B12.trans (b13.mono B12.size)))
    go_ret
    exact ⟨rfl, B13⟩
end Go.Proofs.Ytcacocndcfbmaaa
