/-
  What the half-edge to a peer takes is what the rest is more than the estimate, and without the half-edge the estimate is the rest (P11.6, P11.8): the law BookBack returns true for every input.
-/
import Derived.Test.YtcacocndcfbmaaaB9
import Derived.Test.YtcacocndcfbmaaaH15
import Derived.Test.YtcacocndcfbmaaaIH
import Derived.Test.YtcacocndcfbmaaaF40
import Derived.Deep.Slices
import Derived.ChangeSame
import Derived.OpenShut
import Derived.SizedLaws
import Derived.Test.YtcacocndcfbmaaaH1
import Derived.Test.YtcacocndcfbmaaaRows
import Derived.WalkKit
import Derived.ProofKit
import Derived.ChangeOld
import Derived.Below
import Derived.ShutString
namespace Go.Proofs.Ytcacocndcfbmaaa
open Go.ChangeShapes Go.WideShapes Go.ChangeAt Go.RowKit
set_option linter.unusedVariables false
set_option linter.unusedSimpArgs false

theorem sum_neg (l : List (Int × Int)) (f g : Int × Int → Int) (h : ∀ p ∈ l, f p = -g p) : (l.map f).sum = -(l.map g).sum := by
  induction l with
  | nil => rfl
  | cons p r ih =>
    have h0 := h p (by simp)
    have hr := ih (fun q hq => h q (by simp [hq]))
    simp only [List.map_cons, List.sum_cons, h0, hr]
    omega
theorem sum_same (l : List (Int × Int)) (f g : Int × Int → Int) (h : ∀ p ∈ l, f p = g p) : (l.map f).sum = (l.map g).sum := by
  rw [List.map_congr_left h]
theorem ents_peer {id : Int} {name : ByteArray} {hs : List HS} {p : Int × Int} (hf : fitsB id hs = true) (h : p ∈ ents id name hs) : 0 ≤ p.1 := by
  obtain ⟨x, hx, e⟩ := List.mem_filterMap.1 h
  obtain ⟨n, hn, e2⟩ := List.getElem_of_mem hx
  have := (fit_top (fits_each hf n hn)).1
  rw [List.getD_eq_getElem?_getD, List.getElem?_eq_getElem hn, e2] at this
  unfold ent1 at e
  split at e
  · cases e
  · cases e
    exact this
/-- Entries' peers rise with the half-edges'. -/
theorem back_sum {peer : Int} : ∀ {hs : List HS} {id : Int} {name : ByteArray}, Rise hs → ((ents id name hs).map (cntB peer)).sum = backD peer (ents id name hs)
  | [], _, _, _ => rfl
  | x :: r, id, name, h => by
    obtain ⟨hr, hx⟩ := rise_cons h
    have ih := back_sum (peer := peer) (id := id) (name := name) hr
    have e : ents id name (x :: r) = (ent1 id name x).toList ++ ents id name r := by
      unfold ents
      rw [List.filterMap_cons]
      cases ent1 id name x <;> rfl
    cases he : ent1 id name x with
    | none => rw [e, he]; exact ih
    | some p =>
      have hp : p.1 = x.peer := by
        unfold ent1 at he
        split at he
        · cases he
        · cases he; rfl
      rw [e, he]
      show (cntB peer p :: (ents id name r).map (cntB peer)).sum = (if p.1 = peer then p.2 else backD peer (ents id name r))
      rw [List.sum_cons]
      by_cases c : p.1 = peer
      · rw [if_pos c]
        have z : ((ents id name r).map (cntB peer)).sum = 0 := by
          have : ∀ q ∈ ents id name r, cntB peer q = 0 := fun q hq => by
            obtain ⟨y, hy, ey⟩ := List.mem_filterMap.1 hq
            have := hx y hy
            have hq1 : q.1 = y.peer := by
              unfold ent1 at ey
              split at ey
              · cases ey
              · cases ey; rfl
            unfold cntB
            rw [if_neg (by omega)]
          rw [sum_same _ _ (fun _ => 0) this]
          clear this
          induction ents id name r with
          | nil => rfl
          | cons q s ihs => rw [List.map_cons, List.sum_cons, ihs]; rfl
        rw [z]
        unfold cntB
        rw [if_pos c]
        omega
      · rw [if_neg c, ← ih]
        unfold cntB
        rw [if_neg c]
        omega
theorem backD_rng {peer : Int} {l : List (Int × Int)} (h : ∀ p ∈ l, -2147483647 ≤ p.2 ∧ p.2 ≤ 2147483647) : -2147483647 ≤ backD peer l ∧ backD peer l ≤ 2147483647 := by
  induction l with
  | nil => exact ⟨by show (-2147483647 : Int) ≤ 0; decide, by show (0 : Int) ≤ 2147483647; decide⟩
  | cons p r ih =>
    unfold backD
    split
    · exact h p (by simp)
    · exact ih (fun q hq => h q (by simp [hq]))
theorem chk_in {x : Int} (h : -2147483647 ≤ x ∧ x ≤ 2147483647) : chkV x = x ∧ chkE x = 0 := by
  have : okI x = true := decide_eq_true h
  unfold chkV chkE
  rw [this]
  exact ⟨rfl, rfl⟩
set_option maxRecDepth 100000 in
set_option maxHeartbeats 8000000 in
theorem tells_walk (id input : Int) (A : Option Addr) (c : Nat) (hs : List HS) (name : ByteArray) (peer : Int) (w : World) (P : Hs w A hs.length c hs) : Calls Try.prog 3 #[.int .i64 id, .int .i64 input, .slice A hs.length c, .string name, .int .i64 peer] w fun e w' => e = .returned (.bool true) ∧ Below w.heap.size w w' := by
  have K6 := bfit_any id input A c hs w P
  cases hfit : (inI input && fitsB id hs) with
  | false =>
    rw [hfit] at K6
    clear hfit
    go_enter Try.func3, Try.ntmps3
    go_wp2_with (first
      | (go_at_call 6; refine K6.mono ?_; rintro e w1 ⟨rfl, b1⟩; clear K6)
      | (go_at_call 7; refine (awake_any _).mono ?_; rintro e w2 ⟨rfl, b2⟩))
    go_ret
    exact ⟨rfl, b1.trans (b2.mono b1.size)⟩
  | true =>
    rw [hfit] at K6
    rw [Bool.and_eq_true] at hfit
    obtain ⟨hi, hf⟩ := hfit
    have hin : -2147483647 ≤ input ∧ input ≤ 2147483647 := of_decide_eq_true hi
    have h16 := fits_few hf
    have hfe := fits_each hf
    have h8 := fun j hj => fit_lines (hfe j hj)
    have de := doc_eq (name := name) hfe
    have hle := ents_len id name hs
    have K9 := fun W (b : Below w.heap.size w W) => page_any id A c hs name W (P.below b)
    have K10 := fun W (b : Below w.heap.size w W) => rpage_any id A c hs name W (P.below b) h16 h8
    have K11 := fun W (b : Below w.heap.size w W) => taken_any id A c hs name W (P.below b) (by omega)
    have K12 := fun W (b : Below w.heap.size w W) => rTaken_any id A c hs name W (P.below b) h16 h8
    have K13 := fun W (b : Below w.heap.size w W) => estimate_any id input A c hs name W (P.below b) (by omega) hin
    have K14 := fun W (b : Below w.heap.size w W) => restimate_any id input A c hs name W (P.below b) h16 h8 hin
    have K15 := fun W (b : Below w.heap.size w W) => rest_any id input peer A c hs name W (P.below b) (by omega) hin
    have K16 := fun W (b : Below w.heap.size w W) => rrest_any id input peer A c hs name W (P.below b) h16 h8 hin
    have K17 := fun W (b : Below w.heap.size w W) => back_any id peer A c hs name W (P.below b) (by omega)
    have K18 := fun W (b : Below w.heap.size w W) => rback_any id A c hs name peer W (P.below b) h16 h8
    have e1 : (0 :: (ents id name hs).map cntT).sum = ((ents id name hs).map (cntN (-1))).sum := by
      rw [List.sum_cons, Int.zero_add]
      exact sum_same _ _ _ (fun p hp => by have := ents_peer hf hp; unfold cntT cntN; rw [if_neg (by omega)])
    have e2 : (input :: (ents id name hs).map cntE).sum = input - ((ents id name hs).map (cntN (-1))).sum := by
      rw [List.sum_cons, sum_neg _ cntE (cntN (-1)) (fun p hp => by have := ents_peer hf hp; unfold cntE cntN; rw [if_neg (by omega)])]
      omega
    have e3 : (input :: (ents id name hs).map (cntR peer)).sum = input - ((ents id name hs).map (cntN peer)).sum := by
      rw [List.sum_cons, sum_neg _ (cntR peer) (cntN peer) (fun p hp => by unfold cntR cntN; split <;> omega)]
      omega
    have e4 : (0 :: (ents id name hs).map (cntB peer)).sum = backD peer (ents id name hs) := by
      rw [List.sum_cons, Int.zero_add]
      exact back_sum (fits_rise hf)
    have e5 := chk_in (backD_rng (peer := peer) (l := ents id name hs) (fun p hp => ents_rng hp))
    simp only [de] at K10 K12 K14 K16 K18
    simp only [e1] at K11
    simp only [e2] at K13
    simp only [e3] at K15
    simp only [e4, e5.1, e5.2] at K17
    obtain ⟨l, el⟩ : ∃ l, ents id name hs = l := ⟨_, rfl⟩
    rw [el] at hle
    have HL : Hid (l.length ≤ 1000) := by show _ ≤ _; omega
    simp only [el] at K9 K10 K12 K14 K16 K18 K11 K13 K15 K17
    obtain ⟨s1, hs1⟩ : ∃ s, (l.map (cntN (-1))).sum = s := ⟨_, rfl⟩
    obtain ⟨s3, hs3⟩ : ∃ s, (l.map (cntN peer)).sum = s := ⟨_, rfl⟩
    obtain ⟨s4, hs4⟩ : ∃ s, backD peer l = s := ⟨_, rfl⟩
    simp only [hs1] at K11 K12 K13 K14
    simp only [hs3] at K15 K16
    simp only [hs4] at K17 K18
    clear hs1 hs3 hs4 el e1 e2 e3 e4 e5 de hle h8 hfe h16 hin hf hi
    go_enter Try.func3, Try.ntmps3
    go_wp2_with (first
      | (go_at_call 6; refine K6.mono ?_; rintro e w1 ⟨rfl, B1⟩; clear K6)
      | (go_at_call 9; refine (K9 _ B1).mono ?_; rintro e w2 ⟨v2, rfl, O2, b2⟩; clear K9; have B2 := B1.trans (b2.mono B1.size))
      | (go_at_call 10; refine (K10 _ B2).mono ?_; rintro e w3 ⟨v3, rfl, O3, b3⟩; clear K10; have B3 := B2.trans (b3.mono B2.size); obtain ⟨a3, c3, rfl, R3⟩ := ent_row O3 HL.out; obtain ⟨a2, c2, rfl, R2'⟩ := ent_row O2 HL.out; have R2 := R2'.below b3; clear O2 O3 R2')
      | (go_at_call 8; refine (same_self a2 a3 c2 c3 l _ R2 R3 HL.out).mono ?_; rintro e w4 ⟨rfl, b4⟩; clear R2 R3; have B4 := B3.trans (b4.mono B3.size))
      | (go_at_call 11; refine (K11 _ B4).mono ?_; rintro e w5 ⟨rfl, b5⟩; clear K11; have B5 := B4.trans (b5.mono B4.size))
      | (go_at_call 12; refine (K12 _ B5).mono ?_; rintro e w6 ⟨rfl, b6⟩; clear K12; have B6 := B5.trans (b6.mono B5.size))
      | (go_at_call 13; refine (K13 _ B6).mono ?_; rintro e w7 ⟨rfl, b7⟩; clear K13; have B7 := B6.trans (b7.mono B6.size))
      | (go_at_call 14; refine (K14 _ B7).mono ?_; rintro e w8 ⟨rfl, b8⟩; clear K14; have B8 := B7.trans (b8.mono B7.size))
      | (go_at_call 15; refine (K15 _ B8).mono ?_; rintro e w9 ⟨rfl, b9⟩; clear K15; have B9 := B8.trans (b9.mono B8.size))
      | (go_at_call 16; refine (K16 _ B9).mono ?_; rintro e w10 ⟨rfl, b10⟩; clear K16; have B10 := B9.trans (b10.mono B9.size))
      | (go_at_call 17; refine (K17 _ B10).mono ?_; rintro e w11 ⟨rfl, b11⟩; clear K17; have B11 := B10.trans (b11.mono B10.size))
      | (go_at_call 18; refine (K18 _ B11).mono ?_; rintro e w12 ⟨rfl, b12⟩; clear K18; have B12 := B11.trans (b12.mono B11.size))
      | (go_at_call 7; refine (awake_any _).mono ?_; rintro e w13 ⟨rfl, b13⟩; have B13 := B12.trans (b13.mono B12.size)))
    go_ret
    exact ⟨rfl, B13⟩
end Go.Proofs.Ytcacocndcfbmaaa

namespace Go.Proofs.Ytcacocndcfbmaaa
open Go.ChangeShapes Go.WideShapes Go.ChangeAt Go.RowKit
set_option linter.unusedVariables false
set_option linter.unusedSimpArgs false

theorem ents_app (id : Int) (name : ByteArray) (a b : List HS) : ents id name (a ++ b) = ents id name a ++ ents id name b := by unfold ents; rw [List.filterMap_append]
theorem ents_mem {id : Int} {name : ByteArray} {l : List HS} {p : Int × Int} (h : p ∈ ents id name l) : ∃ y ∈ l, p.1 = y.peer := by
  obtain ⟨y, hy, e⟩ := List.mem_filterMap.1 h
  refine ⟨y, hy, ?_⟩
  unfold ent1 at e
  split at e
  · cases e
  · cases e; rfl
/-- Without a half-edge the estimate is the rest. -/
theorem ents_erase {id : Int} {name : ByteArray} {hs : List HS} (hr : Rise hs) {k : Nat} (hk : k < hs.length) : ((ents id name (hs.take k ++ hs.drop (k + 1))).map cntE).sum = ((ents id name hs).map (cntR (hs.getD k HS.z).peer)).sum := by
  have e : hs = hs.take k ++ (hs.getD k HS.z :: hs.drop (k + 1)) := by
    conv => lhs; rw [← List.take_append_drop k hs]
    rw [List.drop_eq_getElem_cons hk, List.getD_eq_getElem?_getD, List.getElem?_eq_getElem hk]
    rfl
  have h1 : ∀ p ∈ ents id name (hs.take k), cntE p = cntR (hs.getD k HS.z).peer p := fun p hp => by
    obtain ⟨y, hy, ey⟩ := ents_mem hp
    obtain ⟨n, hn, e2⟩ := List.getElem_of_mem hy
    have hn' : n < k := by rw [List.length_take] at hn; omega
    have := hr n k hn' hk
    rw [List.getElem_take] at e2
    rw [List.getD_eq_getElem?_getD, List.getElem?_eq_getElem (by omega), e2] at this
    have h9 : y.peer < (hs.getD k HS.z).peer := this
    unfold cntE cntR
    rw [if_neg (by omega)]
  have h2 : ∀ p ∈ ents id name (hs.drop (k + 1)), cntE p = cntR (hs.getD k HS.z).peer p := fun p hp => by
    obtain ⟨y, hy, ey⟩ := ents_mem hp
    obtain ⟨n, hn, e2⟩ := List.getElem_of_mem hy
    have hn' : k + 1 + n < hs.length := by rw [List.length_drop] at hn; omega
    have := hr k (k + 1 + n) (by omega) hn'
    rw [List.getElem_drop] at e2
    have e4 : hs.getD (k + 1 + n) HS.z = y := by rw [List.getD_eq_getElem?_getD, List.getElem?_eq_getElem hn', e2]; rfl
    rw [e4] at this
    have h9 : (hs.getD k HS.z).peer < y.peer := this
    unfold cntE cntR
    rw [if_neg (by omega)]
  have h3 : ((ents id name [hs.getD k HS.z]).map (cntR (hs.getD k HS.z).peer)).sum = 0 := by
    unfold ents
    rw [List.filterMap_cons]
    cases he : ent1 id name (hs.getD k HS.z) with
    | none => rfl
    | some p =>
      have hp : p.1 = (hs.getD k HS.z).peer := by
        unfold ent1 at he
        split at he
        · cases he
        · cases he; rfl
      show (cntR _ p :: _).sum = 0
      unfold cntR
      rw [if_pos hp]
      rfl
  have e3 : ents id name hs = ents id name (hs.take k) ++ (ents id name [hs.getD k HS.z] ++ ents id name (hs.drop (k + 1))) := by
    conv => lhs; rw [e]
    rw [show hs.take k ++ hs.getD k HS.z :: hs.drop (k + 1) = hs.take k ++ ([hs.getD k HS.z] ++ hs.drop (k + 1)) from rfl, ents_app, ents_app]
  rw [e3, ents_app, List.map_append, List.map_append, List.map_append, List.sum_append, List.sum_append, List.sum_append, h3, sum_same _ _ _ h1, sum_same _ _ _ h2]
  omega
theorem sum_split (l : List (Int × Int)) (peer : Int) : (l.map cntE).sum = (l.map (cntR peer)).sum - (l.map (cntB peer)).sum := by
  induction l with
  | nil => rfl
  | cons p r ih =>
    simp only [List.map_cons, List.sum_cons, ih]
    have : cntE p = cntR peer p - cntB peer p := by unfold cntE cntR cntB; split <;> omega
    omega
theorem chk_out {x : Int} (h : okI x = false) : chkV x = 0 ∧ chkE x = 10 := by
  unfold chkV chkE
  rw [h]
  exact ⟨rfl, rfl⟩
theorem hs_part {W : World} {A : Option Addr} {c : Nat} {hs : List HS} {rs : List HR} (k : Nat) (hk : k < hs.length) (hl : rs.length = hs.length) (each : ∀ i, i < hs.length → ∃ a c, rs.getD i HR.z = (hs.getD i HS.z).on a c ∧ RdO W (hs.getD i HS.z) a c)
    {n : Nat} (R : RdH W A n c (rs.take k ++ rs.drop (k + 1))) : n = (hs.take k ++ hs.drop (k + 1)).length ∧ Hs W A (hs.take k ++ hs.drop (k + 1)).length c (hs.take k ++ hs.drop (k + 1)) := by
  have e1 : (hs.take k ++ hs.drop (k + 1)).length = hs.length - 1 := by rw [List.length_append, List.length_take, List.length_drop]; omega
  have e2 : n = hs.length - 1 := by have := R.size; rw [List.length_append, List.length_take, List.length_drop] at this; omega
  refine ⟨by rw [e1, e2], ?_⟩
  rw [e1, ← e2]
  have g1 : ∀ i, (rs.take k ++ rs.drop (k + 1)).getD i HR.z = if i < k then rs.getD i HR.z else rs.getD (i + 1) HR.z := fun i => by rw [← List.eraseIdx_eq_take_drop_succ, getD_erase]
  have g2 : ∀ i, (hs.take k ++ hs.drop (k + 1)).getD i HS.z = if i < k then hs.getD i HS.z else hs.getD (i + 1) HS.z := fun i => by rw [← List.eraseIdx_eq_take_drop_succ, getD_erase]
  refine ⟨by rw [e1, e2], rs.take k ++ rs.drop (k + 1), R, fun i hi => ?_⟩
  have g2' := g2 i
  rw [show (⟨0, 0, 0, [], false, 0⟩ : HS) = HS.z from rfl, g1, g2']
  split
  · exact each i (by omega)
  · exact each (i + 1) (by omega)
set_option maxRecDepth 100000 in
set_option maxHeartbeats 8000000 in
theorem back_none (id input : Int) (A : Option Addr) (c : Nat) (hs : List HS) (name : ByteArray) (which : Int) (w : World) (P : Hs w A hs.length c hs) (h : (inI input && fitsB id hs) = false ∨ hs.length = 0) : Calls Try.prog 4 #[.int .i64 id, .int .i64 input, .slice A hs.length c, .string name, .int .i64 which] w fun e w' => e = .returned (.bool true) ∧ Below w.heap.size w w' := by
  have K6 := bfit_any id input A c hs w P
  cases hfit : (inI input && fitsB id hs) with
  | false =>
    rw [hfit] at K6
    clear hfit h
    go_enter Try.func4, Try.ntmps4
    go_wp2_with (first
      | (go_at_call 6; refine K6.mono ?_; rintro e w1 ⟨rfl, b1⟩; clear K6)
      | (go_at_call 7; refine (awake_any _).mono ?_; rintro e w2 ⟨rfl, b2⟩))
    go_ret
    exact ⟨rfl, b1.trans (b2.mono b1.size)⟩
  | true =>
    have h0 : hs.length = 0 := h.resolve_left (by rw [hfit]; decide)
    rw [hfit] at K6
    rw [h0] at K6 ⊢
    clear hfit h P
    go_enter Try.func4, Try.ntmps4
    go_wp2_with (first
      | (go_at_call 6; refine K6.mono ?_; rintro e w1 ⟨rfl, b1⟩; clear K6)
      | (go_at_call 7; refine (awake_any _).mono ?_; rintro e w2 ⟨rfl, b2⟩))
    go_ret
    exact ⟨rfl, b1.trans (b2.mono b1.size)⟩
end Go.Proofs.Ytcacocndcfbmaaa

namespace Go.Proofs.Ytcacocndcfbmaaa
open Go.ChangeShapes Go.WideShapes Go.ChangeAt Go.RowKit
set_option linter.unusedVariables false
set_option linter.unusedSimpArgs false

set_option maxRecDepth 100000 in
set_option maxHeartbeats 8000000 in
theorem back_a (id input : Int) (A : Option Addr) (c : Nat) (hs : List HS) (name : ByteArray) (which : Int) (w : World) (P : Hs w A hs.length c hs) (hfit : (inI input && fitsB id hs) = true) (k : Nat) (hk : k < hs.length) (hkk : IntKind.i64.wrap ((IntKind.u64.wrap which).tmod (IntKind.u64.wrap (hs.length : Int))) = (k : Int)) (hnz : IntKind.u64.wrap (hs.length : Int) ≠ 0) (xv xe yv ye zv : Int)
    (eX : chkV (input :: (ents id name hs).map cntE).sum = xv ∧ chkE (input :: (ents id name hs).map cntE).sum = xe) (eY : chkV (input :: (ents id name hs).map (cntR (hs.getD k HS.z).peer)).sum = yv ∧ chkE (input :: (ents id name hs).map (cntR (hs.getD k HS.z).peer)).sum = ye) (eZ : chkV (0 :: (ents id name hs).map (cntB (hs.getD k HS.z).peer)).sum = zv ∧ chkE (0 :: (ents id name hs).map (cntB (hs.getD k HS.z).peer)).sum = 0) (hx : (xe != 0) = true) : Calls Try.prog 4 #[.int .i64 id, .int .i64 input, .slice A hs.length c, .string name, .int .i64 which] w fun e w' => e = .returned (.bool true) ∧ Below w.heap.size w w' := by
  have K6 := bfit_any id input A c hs w P
  rw [hfit] at K6
  rw [Bool.and_eq_true] at hfit
  obtain ⟨hi, hf⟩ := hfit
  have hin : -2147483647 ≤ input ∧ input ≤ 2147483647 := of_decide_eq_true hi
  have h16 := fits_few hf
  have hln : (hs.take k ++ hs.drop (k + 1)).length ≤ 16 := by rw [List.length_append, List.length_take, List.length_drop]; omega
  have hz : ((hs.length : Int) == 0) = false := by simp; intro e; rw [e] at hk; simp at hk
  have K13 := fun W (b : Below w.heap.size w W) => estimate_any id input A c hs name W (P.below b) (by omega) hin
  have K15 := fun W (b : Below w.heap.size w W) => rest_any id input (hs.getD k HS.z).peer A c hs name W (P.below b) (by omega) hin
  have K17 := fun W (b : Below w.heap.size w W) => back_any id (hs.getD k HS.z).peer A c hs name W (P.below b) (by omega)
  have K13b := fun W a' c' (H : Hs W a' (hs.take k ++ hs.drop (k + 1)).length c' (hs.take k ++ hs.drop (k + 1))) => estimate_any id input a' c' (hs.take k ++ hs.drop (k + 1)) name W H (by omega) hin
  have er := ents_erase (id := id) (name := name) (fits_rise hf) hk
  have er2 : (input :: (ents id name (hs.take k ++ hs.drop (k + 1))).map cntE).sum = (input :: (ents id name hs).map (cntR (hs.getD k HS.z).peer)).sum := by rw [List.sum_cons, List.sum_cons, er]
  simp only [er2, eY.1, eY.2] at K13b
  simp only [eX.1, eX.2] at K13
  simp only [eY.1, eY.2] at K15
  simp only [eZ.1, eZ.2] at K17
  obtain ⟨rs, R0, PK⟩ := P.mem
  have HPK : Hid (∀ i, i < hs.length → ∃ a c, rs.getD i HR.z = (hs.getD i HS.z).on a c ∧ RdO w (hs.getD i HS.z) a c) := PK
  have HRL : Hid (rs.length = hs.length) := R0.size
  obtain ⟨g, o, a1, c1, eA, k10, r10, R10⟩ := P.at k hk
  obtain ⟨peer, ep⟩ : ∃ p, (hs.getD k HS.z).peer = p := ⟨_, rfl⟩
  have kc : ∀ X, Below w.heap.size w X → X.cell? ⟨g, o + k * 6, none⟩ = some (.int .i64 peer) := fun X b => by rw [← ep]; exact peer_cell (range_later r10 k10 b)
  rw [ep] at K15 K17
  have HK : Hid (k < hs.length) := hk
  have HLC : Hid (hs.length ≤ c) := R0.le
  have H16 : Hid (hs.length ≤ 16) := h16
  have hkI : (k : Int) < (hs.length : Int) := by omega
  have hwk : IntKind.i64.wrap ((k : Int) + 1) = ((k + 1 : Nat) : Int) := by rw [IntKind.wrap_i64]; omega
  have hyy : (yv != yv) = false := by simp
  have hee : (ye != ye) = false := by simp
  subst eA
  clear eX eY eZ er er2 PK hf hi hin h16 hln hk r10 R10 ep
  go_enter Try.func4, Try.ntmps4
  go_wp2_with (first
    | (go_at_call 6; refine K6.mono ?_; rintro e w1 ⟨rfl, B1⟩; clear K6; have kc1 := kc _ B1)
    | fail)
  have R1 := R0.below B1
  refine wp_region_any (by kernel_rfl) ?_
  change wpAny _ _ _ _ _ _ _ (World.drew _)
  refine wpAny_narrow (fun W' => Below w1.heap.size w1 W') _ _ _ _ ?_
  refine anyH_take 0 45 (.slice none 0 0) rfl rfl (by kernel_rfl) (by kernel_rfl) (by kernel_rfl) (fun _ _ _ h => h) (Or.inl ⟨by rfl, by intro w hSw; go_simp⟩) ((Below.refl _ _).drew) ?_
  try simp only [Act.put, List.setIfInBounds_toArray, List.set_cons_zero, List.set_cons_succ]
  refine anyH_take 1 46 (.slice (some ⟨g, o, none⟩) hs.length c) rfl rfl (by kernel_rfl) (by kernel_rfl) (by kernel_rfl) (fun _ _ _ h => h) (Or.inl ⟨by rfl, by intro w hSw; go_simp⟩) ((Below.refl _ _).drew) ?_
  try simp only [Act.put, List.setIfInBounds_toArray, List.set_cons_zero, List.set_cons_succ]
  refine anyH_take 2 47 (.int .i64 (k : Int)) rfl rfl (by kernel_rfl) (by kernel_rfl) (by kernel_rfl) (fun _ _ _ h => h) (Or.inl ⟨by rfl, by intro w hSw; go_simp⟩) ((Below.refl _ _).drew) ?_
  try simp only [Act.put, List.setIfInBounds_toArray, List.set_cons_zero, List.set_cons_succ]
  refine anyH_take 3 48 (.slice (some ⟨g, o, none⟩) k c) rfl rfl (by kernel_rfl) (by kernel_rfl) (by kernel_rfl) (fun _ _ _ h => h) (Or.inl ⟨by rfl, fun X hSw => exec_toH rfl rfl rfl (by have := HK.out; have := HLC.out; omega)⟩) ((Below.refl _ _).drew) ?_
  try simp only [Act.put, List.setIfInBounds_toArray, List.set_cons_zero, List.set_cons_succ]
  refine anyH_take 5 50 (.slice (some ⟨g, o, none⟩) hs.length c) rfl rfl (by kernel_rfl) (by kernel_rfl) (by kernel_rfl) (fun _ _ _ h => h) (Or.inl ⟨by rfl, by intro w hSw; go_simp⟩) ((Below.refl _ _).drew) ?_
  try simp only [Act.put, List.setIfInBounds_toArray, List.set_cons_zero, List.set_cons_succ]
  refine anyH_take 6 51 (.int .i64 (k : Int)) rfl rfl (by kernel_rfl) (by kernel_rfl) (by kernel_rfl) (fun _ _ _ h => h) (Or.inl ⟨by rfl, by intro w hSw; go_simp⟩) ((Below.refl _ _).drew) ?_
  try simp only [Act.put, List.setIfInBounds_toArray, List.set_cons_zero, List.set_cons_succ]
  refine anyH_take 7 52 (.int .i64 ((k + 1 : Nat) : Int)) rfl rfl (by kernel_rfl) (by kernel_rfl) (by kernel_rfl) (fun _ _ _ h => h) (Or.inl ⟨by rfl, by intro w hSw; have s1 := hwk; go_simp⟩) ((Below.refl _ _).drew) ?_
  try simp only [Act.put, List.setIfInBounds_toArray, List.set_cons_zero, List.set_cons_succ]
  obtain ⟨a9, h9⟩ : ∃ a9, (if c = k + 1 then some ⟨g, o, none⟩ else (some (⟨g, o, none⟩ : Addr)).map (·.add ((k + 1) * 6))) = a9 := ⟨_, rfl⟩
  have R9 := R1.from (k + 1) HK.out
  rw [h9] at R9
  have H9 : Hid ((if c = k + 1 then some ⟨g, o, none⟩ else (some (⟨g, o, none⟩ : Addr)).map (·.add ((k + 1) * 6))) = a9) := h9
  clear h9
  refine anyH_take 8 53 (.slice a9 (hs.length - (k + 1)) (c - (k + 1))) rfl rfl (by kernel_rfl) (by kernel_rfl) (by kernel_rfl) (fun _ _ _ h => h) (Or.inl ⟨by rfl, fun X hSw => (by rw [← H9.out]; exact exec_fromH rfl rfl rfl HK.out)⟩) ((Below.refl _ _).drew) ?_
  try simp only [Act.put, List.setIfInBounds_toArray, List.set_cons_zero, List.set_cons_succ]
  refine wpAnyH_ready (rs := [4]) (by kernel_rfl) (by simp) ?_
  refine AllReadyH.cons rfl (fun K hK => ?_) AllReadyH.nil
  refine wp_grow_lstH (base := w1.heap.size) (v := .slice none 0 0) (k := 0) (es := []) (ds := rs.take k) _ _ rfl rfl rfl (World.ownsRow_nil _ _ 43 6) ((R1.below (Below.refl _ _).drew).to k (Nat.le_of_lt HK.out)) (by have := H16.out; have := HK.out; omega) (Nat.le_refl _) ?_
  intro v2 w2 O2 g2 b2
  rw [Nat.zero_add, List.nil_append] at O2
  have b2' : Below w1.heap.size w1 w2 := (Below.refl _ _).drew.trans b2
  obtain ⟨a2, c2, e2, _, _⟩ := own_lstH O2 (by rw [List.length_take, HRL.out]; have := HK.out; omega)
  subst e2
  refine hK.out _ _ (b2') (fun hS => ?_)
  clear hK
  try simp only [Act.put, List.setIfInBounds_toArray, List.set_cons_zero, List.set_cons_succ]
  refine wpAnyH_ready (rs := [9]) (by kernel_rfl) (by simp) ?_
  refine AllReadyH.cons rfl (fun K hK => ?_) AllReadyH.nil
  refine wp_grow_lstH (base := w1.heap.size) (v := .slice a2 k c2) (k := k) (es := rs.take k) (ds := rs.drop (k + 1)) _ _ rfl rfl rfl O2 (R9.below b2') (by have := H16.out; have := HK.out; omega) b2'.size ?_
  intro v3 w3 O3 g3 b3
  obtain ⟨a3, c3, e3, LL, _⟩ := own_lstH O3 (by rw [List.length_append, List.length_take, List.length_drop, HRL.out]; have := HK.out; omega)
  subst e3
  refine hK.out _ _ (b2'.trans b3) (fun hS => ?_)
  clear hK
  try simp only [Act.put, List.setIfInBounds_toArray, List.set_cons_zero, List.set_cons_succ]
  refine anyH_take 10 13 (.slice a3 (k + (hs.length - (k + 1))) c3) rfl rfl (by kernel_rfl) (by kernel_rfl) (by kernel_rfl) (fun _ _ _ h => h) (Or.inl ⟨by rfl, by intro w hSw; go_simp⟩) (hS) ?_
  try simp only [Act.put, List.setIfInBounds_toArray, List.set_cons_zero, List.set_cons_succ]
  refine wpAnyH_done (by kernel_rfl) ?_ _
  have B3 : Below w.heap.size w w3 := B1.trans (hS.mono B1.size)
  obtain ⟨en, HL⟩ := hs_part k HK.out HRL.out (fun i hi => by obtain ⟨a, c, e, r⟩ := HPK.out i hi; exact ⟨a, c, e, RdL.below r B3⟩) (LL.rd (by have := H16.out; omega))
  simp only [en]
  clear hS O3 O2 LL en R1 R0 R9 kc kc1
  obtain ⟨nL, hnL⟩ : ∃ n : Nat, (hs.take k ++ hs.drop (k + 1)).length = n := ⟨_, rfl⟩
  rw [hnL] at HL
  simp only [hnL] at K13b ⊢
  clear hnL
  go_wp2_with (first
    | (go_at_call 13; refine (K13 _ B3).mono ?_; rintro e w4 ⟨rfl, b4⟩; clear K13; have B4 := B3.trans (b4.mono B3.size))
    | (go_at_call 15; refine (K15 _ B4).mono ?_; rintro e w5 ⟨rfl, b5⟩; clear K15; have B5 := B4.trans (b5.mono B4.size))
    | (go_at_call 17; refine (K17 _ B5).mono ?_; rintro e w6 ⟨rfl, b6⟩; clear K17; have B6 := B5.trans (b6.mono B5.size); have HL6 := ((HL.below b4).below b5).below b6)
    | (go_at_call 13; refine (K13b _ _ _ HL6).mono ?_; rintro e w7 ⟨rfl, b7⟩; clear K13b; have B7 := B6.trans (b7.mono B6.size))
    | (go_at_call 7; refine (awake_any _).mono ?_; rintro e w8 ⟨rfl, b8⟩; have B8 := B7.trans (b8.mono B7.size)))
  go_ret
  exact ⟨rfl, B8⟩
set_option maxRecDepth 100000 in
set_option maxHeartbeats 8000000 in
theorem back_b (id input : Int) (A : Option Addr) (c : Nat) (hs : List HS) (name : ByteArray) (which : Int) (w : World) (P : Hs w A hs.length c hs) (hfit : (inI input && fitsB id hs) = true) (k : Nat) (hk : k < hs.length) (hkk : IntKind.i64.wrap ((IntKind.u64.wrap which).tmod (IntKind.u64.wrap (hs.length : Int))) = (k : Int)) (hnz : IntKind.u64.wrap (hs.length : Int) ≠ 0) (xv xe yv ye zv : Int)
    (eX : chkV (input :: (ents id name hs).map cntE).sum = xv ∧ chkE (input :: (ents id name hs).map cntE).sum = xe) (eY : chkV (input :: (ents id name hs).map (cntR (hs.getD k HS.z).peer)).sum = yv ∧ chkE (input :: (ents id name hs).map (cntR (hs.getD k HS.z).peer)).sum = ye) (eZ : chkV (0 :: (ents id name hs).map (cntB (hs.getD k HS.z).peer)).sum = zv ∧ chkE (0 :: (ents id name hs).map (cntB (hs.getD k HS.z).peer)).sum = 0) (hx : (xe != 0) = false) (hy : (ye != 0) = true) : Calls Try.prog 4 #[.int .i64 id, .int .i64 input, .slice A hs.length c, .string name, .int .i64 which] w fun e w' => e = .returned (.bool true) ∧ Below w.heap.size w w' := by
  have K6 := bfit_any id input A c hs w P
  rw [hfit] at K6
  rw [Bool.and_eq_true] at hfit
  obtain ⟨hi, hf⟩ := hfit
  have hin : -2147483647 ≤ input ∧ input ≤ 2147483647 := of_decide_eq_true hi
  have h16 := fits_few hf
  have hln : (hs.take k ++ hs.drop (k + 1)).length ≤ 16 := by rw [List.length_append, List.length_take, List.length_drop]; omega
  have hz : ((hs.length : Int) == 0) = false := by simp; intro e; rw [e] at hk; simp at hk
  have K13 := fun W (b : Below w.heap.size w W) => estimate_any id input A c hs name W (P.below b) (by omega) hin
  have K15 := fun W (b : Below w.heap.size w W) => rest_any id input (hs.getD k HS.z).peer A c hs name W (P.below b) (by omega) hin
  have K17 := fun W (b : Below w.heap.size w W) => back_any id (hs.getD k HS.z).peer A c hs name W (P.below b) (by omega)
  have K13b := fun W a' c' (H : Hs W a' (hs.take k ++ hs.drop (k + 1)).length c' (hs.take k ++ hs.drop (k + 1))) => estimate_any id input a' c' (hs.take k ++ hs.drop (k + 1)) name W H (by omega) hin
  have er := ents_erase (id := id) (name := name) (fits_rise hf) hk
  have er2 : (input :: (ents id name (hs.take k ++ hs.drop (k + 1))).map cntE).sum = (input :: (ents id name hs).map (cntR (hs.getD k HS.z).peer)).sum := by rw [List.sum_cons, List.sum_cons, er]
  simp only [er2, eY.1, eY.2] at K13b
  simp only [eX.1, eX.2] at K13
  simp only [eY.1, eY.2] at K15
  simp only [eZ.1, eZ.2] at K17
  obtain ⟨rs, R0, PK⟩ := P.mem
  have HPK : Hid (∀ i, i < hs.length → ∃ a c, rs.getD i HR.z = (hs.getD i HS.z).on a c ∧ RdO w (hs.getD i HS.z) a c) := PK
  have HRL : Hid (rs.length = hs.length) := R0.size
  obtain ⟨g, o, a1, c1, eA, k10, r10, R10⟩ := P.at k hk
  obtain ⟨peer, ep⟩ : ∃ p, (hs.getD k HS.z).peer = p := ⟨_, rfl⟩
  have kc : ∀ X, Below w.heap.size w X → X.cell? ⟨g, o + k * 6, none⟩ = some (.int .i64 peer) := fun X b => by rw [← ep]; exact peer_cell (range_later r10 k10 b)
  rw [ep] at K15 K17
  have HK : Hid (k < hs.length) := hk
  have HLC : Hid (hs.length ≤ c) := R0.le
  have H16 : Hid (hs.length ≤ 16) := h16
  have hkI : (k : Int) < (hs.length : Int) := by omega
  have hwk : IntKind.i64.wrap ((k : Int) + 1) = ((k + 1 : Nat) : Int) := by rw [IntKind.wrap_i64]; omega
  have hyy : (yv != yv) = false := by simp
  have hee : (ye != ye) = false := by simp
  subst eA
  clear eX eY eZ er er2 PK hf hi hin h16 hln hk r10 R10 ep
  go_enter Try.func4, Try.ntmps4
  go_wp2_with (first
    | (go_at_call 6; refine K6.mono ?_; rintro e w1 ⟨rfl, B1⟩; clear K6; have kc1 := kc _ B1)
    | fail)
  have R1 := R0.below B1
  refine wp_region_any (by kernel_rfl) ?_
  change wpAny _ _ _ _ _ _ _ (World.drew _)
  refine wpAny_narrow (fun W' => Below w1.heap.size w1 W') _ _ _ _ ?_
  refine anyH_take 0 45 (.slice none 0 0) rfl rfl (by kernel_rfl) (by kernel_rfl) (by kernel_rfl) (fun _ _ _ h => h) (Or.inl ⟨by rfl, by intro w hSw; go_simp⟩) ((Below.refl _ _).drew) ?_
  try simp only [Act.put, List.setIfInBounds_toArray, List.set_cons_zero, List.set_cons_succ]
  refine anyH_take 1 46 (.slice (some ⟨g, o, none⟩) hs.length c) rfl rfl (by kernel_rfl) (by kernel_rfl) (by kernel_rfl) (fun _ _ _ h => h) (Or.inl ⟨by rfl, by intro w hSw; go_simp⟩) ((Below.refl _ _).drew) ?_
  try simp only [Act.put, List.setIfInBounds_toArray, List.set_cons_zero, List.set_cons_succ]
  refine anyH_take 2 47 (.int .i64 (k : Int)) rfl rfl (by kernel_rfl) (by kernel_rfl) (by kernel_rfl) (fun _ _ _ h => h) (Or.inl ⟨by rfl, by intro w hSw; go_simp⟩) ((Below.refl _ _).drew) ?_
  try simp only [Act.put, List.setIfInBounds_toArray, List.set_cons_zero, List.set_cons_succ]
  refine anyH_take 3 48 (.slice (some ⟨g, o, none⟩) k c) rfl rfl (by kernel_rfl) (by kernel_rfl) (by kernel_rfl) (fun _ _ _ h => h) (Or.inl ⟨by rfl, fun X hSw => exec_toH rfl rfl rfl (by have := HK.out; have := HLC.out; omega)⟩) ((Below.refl _ _).drew) ?_
  try simp only [Act.put, List.setIfInBounds_toArray, List.set_cons_zero, List.set_cons_succ]
  refine anyH_take 5 50 (.slice (some ⟨g, o, none⟩) hs.length c) rfl rfl (by kernel_rfl) (by kernel_rfl) (by kernel_rfl) (fun _ _ _ h => h) (Or.inl ⟨by rfl, by intro w hSw; go_simp⟩) ((Below.refl _ _).drew) ?_
  try simp only [Act.put, List.setIfInBounds_toArray, List.set_cons_zero, List.set_cons_succ]
  refine anyH_take 6 51 (.int .i64 (k : Int)) rfl rfl (by kernel_rfl) (by kernel_rfl) (by kernel_rfl) (fun _ _ _ h => h) (Or.inl ⟨by rfl, by intro w hSw; go_simp⟩) ((Below.refl _ _).drew) ?_
  try simp only [Act.put, List.setIfInBounds_toArray, List.set_cons_zero, List.set_cons_succ]
  refine anyH_take 7 52 (.int .i64 ((k + 1 : Nat) : Int)) rfl rfl (by kernel_rfl) (by kernel_rfl) (by kernel_rfl) (fun _ _ _ h => h) (Or.inl ⟨by rfl, by intro w hSw; have s1 := hwk; go_simp⟩) ((Below.refl _ _).drew) ?_
  try simp only [Act.put, List.setIfInBounds_toArray, List.set_cons_zero, List.set_cons_succ]
  obtain ⟨a9, h9⟩ : ∃ a9, (if c = k + 1 then some ⟨g, o, none⟩ else (some (⟨g, o, none⟩ : Addr)).map (·.add ((k + 1) * 6))) = a9 := ⟨_, rfl⟩
  have R9 := R1.from (k + 1) HK.out
  rw [h9] at R9
  have H9 : Hid ((if c = k + 1 then some ⟨g, o, none⟩ else (some (⟨g, o, none⟩ : Addr)).map (·.add ((k + 1) * 6))) = a9) := h9
  clear h9
  refine anyH_take 8 53 (.slice a9 (hs.length - (k + 1)) (c - (k + 1))) rfl rfl (by kernel_rfl) (by kernel_rfl) (by kernel_rfl) (fun _ _ _ h => h) (Or.inl ⟨by rfl, fun X hSw => (by rw [← H9.out]; exact exec_fromH rfl rfl rfl HK.out)⟩) ((Below.refl _ _).drew) ?_
  try simp only [Act.put, List.setIfInBounds_toArray, List.set_cons_zero, List.set_cons_succ]
  refine wpAnyH_ready (rs := [4]) (by kernel_rfl) (by simp) ?_
  refine AllReadyH.cons rfl (fun K hK => ?_) AllReadyH.nil
  refine wp_grow_lstH (base := w1.heap.size) (v := .slice none 0 0) (k := 0) (es := []) (ds := rs.take k) _ _ rfl rfl rfl (World.ownsRow_nil _ _ 43 6) ((R1.below (Below.refl _ _).drew).to k (Nat.le_of_lt HK.out)) (by have := H16.out; have := HK.out; omega) (Nat.le_refl _) ?_
  intro v2 w2 O2 g2 b2
  rw [Nat.zero_add, List.nil_append] at O2
  have b2' : Below w1.heap.size w1 w2 := (Below.refl _ _).drew.trans b2
  obtain ⟨a2, c2, e2, _, _⟩ := own_lstH O2 (by rw [List.length_take, HRL.out]; have := HK.out; omega)
  subst e2
  refine hK.out _ _ (b2') (fun hS => ?_)
  clear hK
  try simp only [Act.put, List.setIfInBounds_toArray, List.set_cons_zero, List.set_cons_succ]
  refine wpAnyH_ready (rs := [9]) (by kernel_rfl) (by simp) ?_
  refine AllReadyH.cons rfl (fun K hK => ?_) AllReadyH.nil
  refine wp_grow_lstH (base := w1.heap.size) (v := .slice a2 k c2) (k := k) (es := rs.take k) (ds := rs.drop (k + 1)) _ _ rfl rfl rfl O2 (R9.below b2') (by have := H16.out; have := HK.out; omega) b2'.size ?_
  intro v3 w3 O3 g3 b3
  obtain ⟨a3, c3, e3, LL, _⟩ := own_lstH O3 (by rw [List.length_append, List.length_take, List.length_drop, HRL.out]; have := HK.out; omega)
  subst e3
  refine hK.out _ _ (b2'.trans b3) (fun hS => ?_)
  clear hK
  try simp only [Act.put, List.setIfInBounds_toArray, List.set_cons_zero, List.set_cons_succ]
  refine anyH_take 10 13 (.slice a3 (k + (hs.length - (k + 1))) c3) rfl rfl (by kernel_rfl) (by kernel_rfl) (by kernel_rfl) (fun _ _ _ h => h) (Or.inl ⟨by rfl, by intro w hSw; go_simp⟩) (hS) ?_
  try simp only [Act.put, List.setIfInBounds_toArray, List.set_cons_zero, List.set_cons_succ]
  refine wpAnyH_done (by kernel_rfl) ?_ _
  have B3 : Below w.heap.size w w3 := B1.trans (hS.mono B1.size)
  obtain ⟨en, HL⟩ := hs_part k HK.out HRL.out (fun i hi => by obtain ⟨a, c, e, r⟩ := HPK.out i hi; exact ⟨a, c, e, RdL.below r B3⟩) (LL.rd (by have := H16.out; omega))
  simp only [en]
  clear hS O3 O2 LL en R1 R0 R9 kc kc1
  obtain ⟨nL, hnL⟩ : ∃ n : Nat, (hs.take k ++ hs.drop (k + 1)).length = n := ⟨_, rfl⟩
  rw [hnL] at HL
  simp only [hnL] at K13b ⊢
  clear hnL
  go_wp2_with (first
    | (go_at_call 13; refine (K13 _ B3).mono ?_; rintro e w4 ⟨rfl, b4⟩; clear K13; have B4 := B3.trans (b4.mono B3.size))
    | (go_at_call 15; refine (K15 _ B4).mono ?_; rintro e w5 ⟨rfl, b5⟩; clear K15; have B5 := B4.trans (b5.mono B4.size))
    | (go_at_call 17; refine (K17 _ B5).mono ?_; rintro e w6 ⟨rfl, b6⟩; clear K17; have B6 := B5.trans (b6.mono B5.size); have HL6 := ((HL.below b4).below b5).below b6)
    | (go_at_call 13; refine (K13b _ _ _ HL6).mono ?_; rintro e w7 ⟨rfl, b7⟩; clear K13b; have B7 := B6.trans (b7.mono B6.size))
    | (go_at_call 7; refine (awake_any _).mono ?_; rintro e w8 ⟨rfl, b8⟩; have B8 := B7.trans (b8.mono B7.size)))
  go_ret
  exact ⟨rfl, B8⟩
set_option maxRecDepth 100000 in
set_option maxHeartbeats 8000000 in
theorem back_c (id input : Int) (A : Option Addr) (c : Nat) (hs : List HS) (name : ByteArray) (which : Int) (w : World) (P : Hs w A hs.length c hs) (hfit : (inI input && fitsB id hs) = true) (k : Nat) (hk : k < hs.length) (hkk : IntKind.i64.wrap ((IntKind.u64.wrap which).tmod (IntKind.u64.wrap (hs.length : Int))) = (k : Int)) (hnz : IntKind.u64.wrap (hs.length : Int) ≠ 0) (xv xe yv ye zv : Int)
    (eX : chkV (input :: (ents id name hs).map cntE).sum = xv ∧ chkE (input :: (ents id name hs).map cntE).sum = xe) (eY : chkV (input :: (ents id name hs).map (cntR (hs.getD k HS.z).peer)).sum = yv ∧ chkE (input :: (ents id name hs).map (cntR (hs.getD k HS.z).peer)).sum = ye) (eZ : chkV (0 :: (ents id name hs).map (cntB (hs.getD k HS.z).peer)).sum = zv ∧ chkE (0 :: (ents id name hs).map (cntB (hs.getD k HS.z).peer)).sum = 0) (hx : (xe != 0) = false) (hy : (ye != 0) = false) (hw : IntKind.i64.wrap (yv - zv) = yv - zv) (he : (yv - zv == xv) = true) : Calls Try.prog 4 #[.int .i64 id, .int .i64 input, .slice A hs.length c, .string name, .int .i64 which] w fun e w' => e = .returned (.bool true) ∧ Below w.heap.size w w' := by
  have K6 := bfit_any id input A c hs w P
  rw [hfit] at K6
  rw [Bool.and_eq_true] at hfit
  obtain ⟨hi, hf⟩ := hfit
  have hin : -2147483647 ≤ input ∧ input ≤ 2147483647 := of_decide_eq_true hi
  have h16 := fits_few hf
  have hln : (hs.take k ++ hs.drop (k + 1)).length ≤ 16 := by rw [List.length_append, List.length_take, List.length_drop]; omega
  have hz : ((hs.length : Int) == 0) = false := by simp; intro e; rw [e] at hk; simp at hk
  have K13 := fun W (b : Below w.heap.size w W) => estimate_any id input A c hs name W (P.below b) (by omega) hin
  have K15 := fun W (b : Below w.heap.size w W) => rest_any id input (hs.getD k HS.z).peer A c hs name W (P.below b) (by omega) hin
  have K17 := fun W (b : Below w.heap.size w W) => back_any id (hs.getD k HS.z).peer A c hs name W (P.below b) (by omega)
  have K13b := fun W a' c' (H : Hs W a' (hs.take k ++ hs.drop (k + 1)).length c' (hs.take k ++ hs.drop (k + 1))) => estimate_any id input a' c' (hs.take k ++ hs.drop (k + 1)) name W H (by omega) hin
  have er := ents_erase (id := id) (name := name) (fits_rise hf) hk
  have er2 : (input :: (ents id name (hs.take k ++ hs.drop (k + 1))).map cntE).sum = (input :: (ents id name hs).map (cntR (hs.getD k HS.z).peer)).sum := by rw [List.sum_cons, List.sum_cons, er]
  simp only [er2, eY.1, eY.2] at K13b
  simp only [eX.1, eX.2] at K13
  simp only [eY.1, eY.2] at K15
  simp only [eZ.1, eZ.2] at K17
  obtain ⟨rs, R0, PK⟩ := P.mem
  have HPK : Hid (∀ i, i < hs.length → ∃ a c, rs.getD i HR.z = (hs.getD i HS.z).on a c ∧ RdO w (hs.getD i HS.z) a c) := PK
  have HRL : Hid (rs.length = hs.length) := R0.size
  obtain ⟨g, o, a1, c1, eA, k10, r10, R10⟩ := P.at k hk
  obtain ⟨peer, ep⟩ : ∃ p, (hs.getD k HS.z).peer = p := ⟨_, rfl⟩
  have kc : ∀ X, Below w.heap.size w X → X.cell? ⟨g, o + k * 6, none⟩ = some (.int .i64 peer) := fun X b => by rw [← ep]; exact peer_cell (range_later r10 k10 b)
  rw [ep] at K15 K17
  have HK : Hid (k < hs.length) := hk
  have HLC : Hid (hs.length ≤ c) := R0.le
  have H16 : Hid (hs.length ≤ 16) := h16
  have hkI : (k : Int) < (hs.length : Int) := by omega
  have hwk : IntKind.i64.wrap ((k : Int) + 1) = ((k + 1 : Nat) : Int) := by rw [IntKind.wrap_i64]; omega
  have hyy : (yv != yv) = false := by simp
  have hee : (ye != ye) = false := by simp
  subst eA
  clear eX eY eZ er er2 PK hf hi hin h16 hln hk r10 R10 ep
  go_enter Try.func4, Try.ntmps4
  go_wp2_with (first
    | (go_at_call 6; refine K6.mono ?_; rintro e w1 ⟨rfl, B1⟩; clear K6; have kc1 := kc _ B1)
    | fail)
  have R1 := R0.below B1
  refine wp_region_any (by kernel_rfl) ?_
  change wpAny _ _ _ _ _ _ _ (World.drew _)
  refine wpAny_narrow (fun W' => Below w1.heap.size w1 W') _ _ _ _ ?_
  refine anyH_take 0 45 (.slice none 0 0) rfl rfl (by kernel_rfl) (by kernel_rfl) (by kernel_rfl) (fun _ _ _ h => h) (Or.inl ⟨by rfl, by intro w hSw; go_simp⟩) ((Below.refl _ _).drew) ?_
  try simp only [Act.put, List.setIfInBounds_toArray, List.set_cons_zero, List.set_cons_succ]
  refine anyH_take 1 46 (.slice (some ⟨g, o, none⟩) hs.length c) rfl rfl (by kernel_rfl) (by kernel_rfl) (by kernel_rfl) (fun _ _ _ h => h) (Or.inl ⟨by rfl, by intro w hSw; go_simp⟩) ((Below.refl _ _).drew) ?_
  try simp only [Act.put, List.setIfInBounds_toArray, List.set_cons_zero, List.set_cons_succ]
  refine anyH_take 2 47 (.int .i64 (k : Int)) rfl rfl (by kernel_rfl) (by kernel_rfl) (by kernel_rfl) (fun _ _ _ h => h) (Or.inl ⟨by rfl, by intro w hSw; go_simp⟩) ((Below.refl _ _).drew) ?_
  try simp only [Act.put, List.setIfInBounds_toArray, List.set_cons_zero, List.set_cons_succ]
  refine anyH_take 3 48 (.slice (some ⟨g, o, none⟩) k c) rfl rfl (by kernel_rfl) (by kernel_rfl) (by kernel_rfl) (fun _ _ _ h => h) (Or.inl ⟨by rfl, fun X hSw => exec_toH rfl rfl rfl (by have := HK.out; have := HLC.out; omega)⟩) ((Below.refl _ _).drew) ?_
  try simp only [Act.put, List.setIfInBounds_toArray, List.set_cons_zero, List.set_cons_succ]
  refine anyH_take 5 50 (.slice (some ⟨g, o, none⟩) hs.length c) rfl rfl (by kernel_rfl) (by kernel_rfl) (by kernel_rfl) (fun _ _ _ h => h) (Or.inl ⟨by rfl, by intro w hSw; go_simp⟩) ((Below.refl _ _).drew) ?_
  try simp only [Act.put, List.setIfInBounds_toArray, List.set_cons_zero, List.set_cons_succ]
  refine anyH_take 6 51 (.int .i64 (k : Int)) rfl rfl (by kernel_rfl) (by kernel_rfl) (by kernel_rfl) (fun _ _ _ h => h) (Or.inl ⟨by rfl, by intro w hSw; go_simp⟩) ((Below.refl _ _).drew) ?_
  try simp only [Act.put, List.setIfInBounds_toArray, List.set_cons_zero, List.set_cons_succ]
  refine anyH_take 7 52 (.int .i64 ((k + 1 : Nat) : Int)) rfl rfl (by kernel_rfl) (by kernel_rfl) (by kernel_rfl) (fun _ _ _ h => h) (Or.inl ⟨by rfl, by intro w hSw; have s1 := hwk; go_simp⟩) ((Below.refl _ _).drew) ?_
  try simp only [Act.put, List.setIfInBounds_toArray, List.set_cons_zero, List.set_cons_succ]
  obtain ⟨a9, h9⟩ : ∃ a9, (if c = k + 1 then some ⟨g, o, none⟩ else (some (⟨g, o, none⟩ : Addr)).map (·.add ((k + 1) * 6))) = a9 := ⟨_, rfl⟩
  have R9 := R1.from (k + 1) HK.out
  rw [h9] at R9
  have H9 : Hid ((if c = k + 1 then some ⟨g, o, none⟩ else (some (⟨g, o, none⟩ : Addr)).map (·.add ((k + 1) * 6))) = a9) := h9
  clear h9
  refine anyH_take 8 53 (.slice a9 (hs.length - (k + 1)) (c - (k + 1))) rfl rfl (by kernel_rfl) (by kernel_rfl) (by kernel_rfl) (fun _ _ _ h => h) (Or.inl ⟨by rfl, fun X hSw => (by rw [← H9.out]; exact exec_fromH rfl rfl rfl HK.out)⟩) ((Below.refl _ _).drew) ?_
  try simp only [Act.put, List.setIfInBounds_toArray, List.set_cons_zero, List.set_cons_succ]
  refine wpAnyH_ready (rs := [4]) (by kernel_rfl) (by simp) ?_
  refine AllReadyH.cons rfl (fun K hK => ?_) AllReadyH.nil
  refine wp_grow_lstH (base := w1.heap.size) (v := .slice none 0 0) (k := 0) (es := []) (ds := rs.take k) _ _ rfl rfl rfl (World.ownsRow_nil _ _ 43 6) ((R1.below (Below.refl _ _).drew).to k (Nat.le_of_lt HK.out)) (by have := H16.out; have := HK.out; omega) (Nat.le_refl _) ?_
  intro v2 w2 O2 g2 b2
  rw [Nat.zero_add, List.nil_append] at O2
  have b2' : Below w1.heap.size w1 w2 := (Below.refl _ _).drew.trans b2
  obtain ⟨a2, c2, e2, _, _⟩ := own_lstH O2 (by rw [List.length_take, HRL.out]; have := HK.out; omega)
  subst e2
  refine hK.out _ _ (b2') (fun hS => ?_)
  clear hK
  try simp only [Act.put, List.setIfInBounds_toArray, List.set_cons_zero, List.set_cons_succ]
  refine wpAnyH_ready (rs := [9]) (by kernel_rfl) (by simp) ?_
  refine AllReadyH.cons rfl (fun K hK => ?_) AllReadyH.nil
  refine wp_grow_lstH (base := w1.heap.size) (v := .slice a2 k c2) (k := k) (es := rs.take k) (ds := rs.drop (k + 1)) _ _ rfl rfl rfl O2 (R9.below b2') (by have := H16.out; have := HK.out; omega) b2'.size ?_
  intro v3 w3 O3 g3 b3
  obtain ⟨a3, c3, e3, LL, _⟩ := own_lstH O3 (by rw [List.length_append, List.length_take, List.length_drop, HRL.out]; have := HK.out; omega)
  subst e3
  refine hK.out _ _ (b2'.trans b3) (fun hS => ?_)
  clear hK
  try simp only [Act.put, List.setIfInBounds_toArray, List.set_cons_zero, List.set_cons_succ]
  refine anyH_take 10 13 (.slice a3 (k + (hs.length - (k + 1))) c3) rfl rfl (by kernel_rfl) (by kernel_rfl) (by kernel_rfl) (fun _ _ _ h => h) (Or.inl ⟨by rfl, by intro w hSw; go_simp⟩) (hS) ?_
  try simp only [Act.put, List.setIfInBounds_toArray, List.set_cons_zero, List.set_cons_succ]
  refine wpAnyH_done (by kernel_rfl) ?_ _
  have B3 : Below w.heap.size w w3 := B1.trans (hS.mono B1.size)
  obtain ⟨en, HL⟩ := hs_part k HK.out HRL.out (fun i hi => by obtain ⟨a, c, e, r⟩ := HPK.out i hi; exact ⟨a, c, e, RdL.below r B3⟩) (LL.rd (by have := H16.out; omega))
  simp only [en]
  clear hS O3 O2 LL en R1 R0 R9 kc kc1
  obtain ⟨nL, hnL⟩ : ∃ n : Nat, (hs.take k ++ hs.drop (k + 1)).length = n := ⟨_, rfl⟩
  rw [hnL] at HL
  simp only [hnL] at K13b ⊢
  clear hnL
  go_wp2_with (first
    | (go_at_call 13; refine (K13 _ B3).mono ?_; rintro e w4 ⟨rfl, b4⟩; clear K13; have B4 := B3.trans (b4.mono B3.size))
    | (go_at_call 15; refine (K15 _ B4).mono ?_; rintro e w5 ⟨rfl, b5⟩; clear K15; have B5 := B4.trans (b5.mono B4.size))
    | (go_at_call 17; refine (K17 _ B5).mono ?_; rintro e w6 ⟨rfl, b6⟩; clear K17; have B6 := B5.trans (b6.mono B5.size); have HL6 := ((HL.below b4).below b5).below b6)
    | (go_at_call 13; refine (K13b _ _ _ HL6).mono ?_; rintro e w7 ⟨rfl, b7⟩; clear K13b; have B7 := B6.trans (b7.mono B6.size))
    | (go_at_call 7; refine (awake_any _).mono ?_; rintro e w8 ⟨rfl, b8⟩; have B8 := B7.trans (b8.mono B7.size)))
  go_ret
  exact ⟨rfl, B8⟩
theorem rem_k {which : Int} {n : Nat} (h0 : 0 < n) (hn : n ≤ 16) : ∃ k : Nat, k < n ∧ IntKind.i64.wrap ((IntKind.u64.wrap which).tmod (IntKind.u64.wrap (n : Int))) = (k : Int) ∧ IntKind.u64.wrap (n : Int) ≠ 0 := by
  have e1 : IntKind.u64.wrap (n : Int) = (n : Int) := by rw [IntKind.wrap_u64]; omega
  have h2 : 0 ≤ IntKind.u64.wrap which := by rw [IntKind.wrap_u64]; omega
  rw [e1, Int.tmod_eq_emod_of_nonneg h2]
  have h3 := Int.emod_nonneg (IntKind.u64.wrap which) (b := (n : Int)) (by omega)
  have h4 := Int.emod_lt_of_pos (IntKind.u64.wrap which) (b := (n : Int)) (by omega)
  obtain ⟨r, er⟩ : ∃ r, IntKind.u64.wrap which % (n : Int) = r := ⟨_, rfl⟩
  rw [er] at h3 h4 ⊢
  refine ⟨r.toNat, by omega, by rw [IntKind.wrap_i64]; omega, by omega⟩
theorem back_walk (id input : Int) (A : Option Addr) (c : Nat) (hs : List HS) (name : ByteArray) (which : Int) (w : World) (P : Hs w A hs.length c hs) : Calls Try.prog 4 #[.int .i64 id, .int .i64 input, .slice A hs.length c, .string name, .int .i64 which] w fun e w' => e = .returned (.bool true) ∧ Below w.heap.size w w' := by
  cases hfit : (inI input && fitsB id hs) with
  | false => exact back_none id input A c hs name which w P (.inl hfit)
  | true =>
    by_cases h0 : hs.length = 0
    · exact back_none id input A c hs name which w P (.inr h0)
    · have hf := (Bool.and_eq_true _ _ ▸ hfit : inI input = true ∧ fitsB id hs = true).2
      have h16 := fits_few hf
      obtain ⟨k, hk, hkk, hnz⟩ := rem_k (which := which) (n := hs.length) (by omega) h16
      have eZ : chkV (0 :: (ents id name hs).map (cntB (hs.getD k HS.z).peer)).sum = (0 :: (ents id name hs).map (cntB (hs.getD k HS.z).peer)).sum ∧ chkE (0 :: (ents id name hs).map (cntB (hs.getD k HS.z).peer)).sum = 0 := by
        refine chk_in ?_
        rw [List.sum_cons, Int.zero_add, back_sum (fits_rise hf)]
        exact backD_rng (fun p hp => ents_rng hp)
      have hsp := sum_split (ents id name hs) (hs.getD k HS.z).peer
      cases hX : okI (input :: (ents id name hs).map cntE).sum with
      | false => exact back_a id input A c hs name which w P hfit k hk hkk hnz _ _ _ _ _ (chk_out hX) ⟨rfl, rfl⟩ eZ (by decide)
      | true =>
        have eX := chk_in (of_decide_eq_true hX)
        cases hY : okI (input :: (ents id name hs).map (cntR (hs.getD k HS.z).peer)).sum with
        | false => exact back_b id input A c hs name which w P hfit k hk hkk hnz _ _ _ _ _ eX (chk_out hY) eZ (by decide) (by decide)
        | true =>
          have eY := chk_in (of_decide_eq_true hY)
          have e : (input :: (ents id name hs).map (cntR (hs.getD k HS.z).peer)).sum - (0 :: (ents id name hs).map (cntB (hs.getD k HS.z).peer)).sum = (input :: (ents id name hs).map cntE).sum := by
            simp only [List.sum_cons, hsp]
            omega
          refine back_c id input A c hs name which w P hfit k hk hkk hnz _ _ _ _ _ eX eY eZ (by decide) (by decide) ?_ ?_
          · rw [e, IntKind.wrap_i64]
            have := of_decide_eq_true hX
            omega
          · rw [e]; simp
end Go.Proofs.Ytcacocndcfbmaaa

namespace Go.Proofs.Ytcacocndcfbmaaa
open Go.ChangeShapes Go.WideShapes Go.ChangeAt Go.RowKit Go.Deep
set_option linter.unusedVariables false
set_option linter.unusedSimpArgs false
theorem cn44 : Try.prog.cellsOf 62 = 4 := by kernel_rfl
theorem cn24 : Try.prog.cellsOf 43 = 6 := by kernel_rfl
theorem cn22 : Try.prog.cellsOf 41 = 1 := by kernel_rfl
theorem cn9 : Try.prog.cellsOf 9 = 1 := by kernel_rfl
theorem cn4 : Try.prog.cellsOf 4 = 1 := by kernel_rfl
theorem by44 : Try.prog.bytesOf 62 = 40 := by kernel_rfl
theorem by24 : Try.prog.bytesOf 43 = 64 := by kernel_rfl
theorem range_csL {W : World} {b off : Nat} {l : List LS} (h : ∀ j, j < l.length → W.rangeAt b (off + j * 4) (l.getD j LS.z).cells) : W.rangeAt b off (csL l) := by
  intro q v hv
  have hq := (List.getElem?_eq_some_iff.1 hv).1
  rw [csL_len] at hq
  have e := csL_get l (q / 4) (q % 4) _ (get_zL l (q / 4) (by omega)) (by omega)
  rw [show 4 * (q / 4) + q % 4 = q by omega, hv] at e
  have := h (q / 4) (by omega) (q % 4) v e.symm
  rw [show off + q / 4 * 4 + q % 4 = off + q by omega] at this
  exact this
theorem open_lnc {H : Type} {enc : TypeId × Value → H} {W : World} {fuel : Nat} {cs : List Value} {x : DataW H × List MemPlace} (hl : cs.length = 4)
    (hf : DataW.trod enc Try.prog W 0 (fun _ => true) true fuel 62 cs = some x) : ∃ q : LS, cs = q.cells := by
  match cs, hl with
  | [v0, v1, v2, v3], _ =>
  obtain ⟨xs, k, hk, hxy, _, hxl, hg⟩ := DataW.trod_struct Try.underlying62 hf
  match xs, hxl with
  | [y0, y1], _ =>
  have e0 := hg 0 _ rfl
  have e1 := hg 1 _ rfl
  simp [cn9, cn42] at e0 e1
  obtain ⟨x0, q0, _, w0⟩ := DataW.trod_string Try.underlying9 e0
  simp at q0
  subst q0
  obtain ⟨⟨v, p, f⟩, hr⟩ := open_regc (by rfl) e1
  simp at hr
  obtain ⟨rfl, rfl, rfl⟩ := hr
  exact ⟨⟨x0, v, p, f⟩, rfl⟩
theorem open_lns {H : Type} {enc : TypeId × Value → H} {W : World} {fuel : Nat} {v : Value} {d : DataW H} {ps : List MemPlace}
    (hf : DataW.trod enc Try.prog W 0 (fun _ => true) true fuel 41 [v] = some (d, ps)) (hB : ∀ k ∈ d.weights Try.prog 41, k ≤ reachBytes) :
    ∃ a cap, ∃ l : List LS, v = .slice a l.length cap ∧ RdL W a l.length cap l := by
  rcases open_slice Try.underlying41 hf with ⟨hcs, hx⟩ | ⟨x, len, c, m, n, D, Pl, hcs, _, hl, hm, hmm, hx, hel⟩
  · simp [Value.cells] at hcs
    subst hcs
    exact ⟨none, 0, [], rfl, rdL_nil _⟩
  · simp [Value.cells] at hcs
    subst hcs
    have hmc : m = c := by simpa using hmm
    subst hmc
    simp only [Prod.mk.injEq] at hx
    obtain ⟨hd, _⟩ := hx
    rw [cn44] at hel
    have each : ∀ i, i < m → ∃ q : LS, (∀ j v, q.cells[j]? = some v → W.cell? ((x.add (i * 4)).add j) = some v) := by
      intro i hi
      obtain ⟨cs', h1, h2⟩ := hel i hi
      obtain ⟨_, hlen, hcell⟩ := World.cells?_some h1
      obtain ⟨q, hcs'⟩ := open_lnc hlen h2
      refine ⟨q, fun j v hj => ?_⟩
      have hjl : j < 4 := (List.getElem?_eq_some_iff.1 hj).1
      have hc := hcell j hjl
      rw [hcs'] at hc
      rw [hc]
      exact hj
    haveI : Inhabited LS := ⟨LS.z⟩
    obtain ⟨F, hF⟩ := choose_lt each
    have h0 := hB (m * 40) (by
      rw [hd]
      simp only [DataW.weights, Try.underlying41]
      refine List.mem_cons.2 (.inl ?_)
      rw [by44]
      simp only [List.length_map, List.length_range, List.length_take, List.length_drop]
      first | omega | (simp; omega))
    unfold reachBytes at h0
    have hlen : ((List.range len).map F).length = len := by simp
    refine ⟨some x, m, (List.range len).map F, by rw [hlen], ?_⟩
    rw [hlen]
    refine ⟨hlen, by omega, by omega, ?_⟩
    by_cases h0 : len = 0
    · exact .inr (.inl ⟨h0, x, rfl⟩)
    · obtain ⟨b, off, spot⟩ := x
      have hc := (hF 0 (by omega)) 0 _ rfl
      have hspot : spot = none := by simpa [Addr.add] using World.cell?_spot hc
      subst hspot
      refine .inr (.inr ⟨b, off, rfl, World.block_lt_of_cell? _ _ hc, range_csL fun j hj => ?_⟩)
      rw [hlen] at hj
      have hget : ((List.range len).map F).getD j LS.z = F j := by rw [List.getD_eq_getElem?_getD]; simp [hj]
      rw [hget]
      intro i v hv
      have := (hF j (by omega)) i v hv
      rw [add_plain', add_plain'] at this
      exact this
theorem open_halfc {H : Type} {enc : TypeId × Value → H} {W : World} {fuel : Nat} {cs : List Value} {x : DataW H × List MemPlace} (hl : cs.length = 6)
    (hf : DataW.trod enc Try.prog W 0 (fun _ => true) true fuel 43 cs = some x) (hB : ∀ k ∈ x.1.weights Try.prog 43, k ≤ reachBytes) : ∃ h a c, cs = (HS.on h a c).cells ∧ RdO W h a c := by
  match cs, hl with
  | [v0, v1, v2, v3, v4, v5], _ =>
  obtain ⟨xs, k, hk, hxy, _, hxl, hg⟩ := DataW.trod_struct Try.underlying43 hf
  match xs, hxl with
  | [y0, y1, y2, y3, y4, y5], _ =>
  have e0 := hg 0 _ rfl
  have e1 := hg 1 _ rfl
  have e2 := hg 2 _ rfl
  have e3 := hg 3 _ rfl
  have e4 := hg 4 _ rfl
  have e5 := hg 5 _ rfl
  simp [cn2, cn3, cn22, cn4] at e0 e1 e2 e3 e4 e5
  obtain ⟨x0, q0, _, w0⟩ := DataW.trod_int Try.underlying3 e0
  obtain ⟨x1, q1, _, w1⟩ := DataW.trod_int Try.underlying2 e1
  obtain ⟨x2, q2, _, w2⟩ := DataW.trod_int Try.underlying2 e2
  obtain ⟨x4, q4, _⟩ := DataW.trod_bool Try.underlying4 e4
  obtain ⟨x5, q5, _, w5⟩ := DataW.trod_int Try.underlying3 e5
  simp at q0 q1 q2 q4 q5
  subst q0 q1 q2 q4 q5
  subst hxy
  obtain ⟨a, cap, l, rfl, R⟩ := open_lns (d := y3.1) (ps := y3.2) e3 (fun n hn => hB n (by
    simp only [DataW.weights, Try.underlying43]
    exact DataW.weights_mem_each (j := 3) (t := 41) rfl rfl n hn))
  exact ⟨⟨x0, x1, x2, l, x4, x5⟩, a, cap, rfl, R⟩
set_option maxRecDepth 100000 in
theorem open_half {H : Type} {enc : TypeId × Value → H} {W : World} {r : Reach} {b : Nat} {v : Value} {d : DataW H} {ps : List MemPlace} (hv : Value.okWide Try.prog W r b 43 v) (h : DataW.Trod enc Try.prog W 0 (fun _ => true) true 43 v d ps) (hB : ∀ k ∈ d.weights Try.prog 43, k ≤ reachBytes) :
    ∃ h a c, v = (HS.on h a c).val ∧ RdO W h a c := by
  simp only [Value.okWide, Try.underlying43] at hv
  obtain ⟨cs, rfl, hsz, _⟩ := hv
  rw [cn24] at hsz
  obtain ⟨fuel, hf⟩ := h
  obtain ⟨h, a, c, hcs, R⟩ := open_halfc (x := (d, ps)) (by simpa [Value.cells] using hsz) hf hB
  refine ⟨h, a, c, ?_, R⟩
  have : cs = (cs.toList).toArray := by simp
  rw [this, show cs.toList = _ from hcs]
  rfl
end Go.Proofs.Ytcacocndcfbmaaa

namespace Go.Proofs.Ytcacocndcfbmaaa
open Go.ChangeShapes Go.WideShapes Go.ChangeAt Go.RowKit Go.Deep
set_option linter.unusedVariables false
set_option linter.unusedSimpArgs false
theorem range_csH {W : World} {b off : Nat} {l : List HR} (h : ∀ j, j < l.length → W.rangeAt b (off + j * 6) (l.getD j HR.z).cells) : W.rangeAt b off (csH l) := by
  intro q v hv
  have hq := (List.getElem?_eq_some_iff.1 hv).1
  rw [csH_len] at hq
  have e := csH_get l (q / 6) (q % 6) _ (get_zH l (q / 6) (by omega)) (by omega)
  rw [show 6 * (q / 6) + q % 6 = q by omega, hv] at e
  have := h (q / 6) (by omega) (q % 6) v e.symm
  rw [show off + q / 6 * 6 + q % 6 = off + q by omega] at this
  exact this
theorem weights_in {H : Type} {P : Program} {e : TypeId} : ∀ {l : List (DataW H)} {d : DataW H}, d ∈ l → ∀ n ∈ d.weights P e, n ∈ DataW.weightsAll P e l
  | d' :: r, d, hd, n, hn => by
    simp only [DataW.weightsAll, List.mem_append]
    rcases List.mem_cons.1 hd with rfl | h
    · exact Or.inl hn
    · exact Or.inr (weights_in h n hn)
theorem open_hlvs {H : Type} {enc : TypeId × Value → H} {W : World} {fuel : Nat} {v : Value} {d : DataW H} {ps : List MemPlace}
    (hf : DataW.trod enc Try.prog W 0 (fun _ => true) true fuel 22 [v] = some (d, ps)) (hB : ∀ k ∈ d.weights Try.prog 22, k ≤ reachBytes) :
    ∃ a cap, ∃ l : List HS, v = .slice a l.length cap ∧ Hs W a l.length cap l := by
  rcases open_slice Try.underlying22 hf with ⟨hcs, hx⟩ | ⟨x, len, c, m, n, D, Pl, hcs, _, hl, hm, hmm, hx, hel⟩
  · simp [Value.cells] at hcs
    subst hcs
    exact ⟨none, 0, [], rfl, rfl, [], rdH_nil _, fun i hi => by cases hi⟩
  · simp [Value.cells] at hcs
    subst hcs
    have hmc : m = c := by simpa using hmm
    subst hmc
    simp only [Prod.mk.injEq] at hx
    obtain ⟨hd, _⟩ := hx
    rw [cn24] at hel
    have each : ∀ i, i < len → ∃ q : HS × Option Addr × Nat, (∀ j v, (q.1.on q.2.1 q.2.2).cells[j]? = some v → W.cell? ((x.add (i * 6)).add j) = some v) ∧ RdO W q.1 q.2.1 q.2.2 := by
      intro i hi
      obtain ⟨cs', h1, h2⟩ := hel i (by omega)
      obtain ⟨_, hlen, hcell⟩ := World.cells?_some h1
      obtain ⟨h, a, k, hcs', R⟩ := open_halfc hlen h2 (fun k hk => hB k (by
        rw [hd]
        simp only [DataW.weights, Try.underlying22]
        refine List.mem_cons.2 (.inr (List.mem_append.2 (.inl ?_)))
        exact weights_in (List.mem_map.2 ⟨i, List.mem_range.2 hi, rfl⟩) k hk))
      refine ⟨(h, a, k), fun j v hj => ?_, R⟩
      have hjl : j < 6 := (List.getElem?_eq_some_iff.1 hj).1
      have hc := hcell j hjl
      rw [hcs'] at hc
      rw [hc]
      exact hj
    haveI : Inhabited (HS × Option Addr × Nat) := ⟨(HS.z, none, 0)⟩
    obtain ⟨F, hF⟩ := choose_lt each
    have h0 := hB (m * 64) (by
      rw [hd]
      simp only [DataW.weights, Try.underlying22]
      refine List.mem_cons.2 (.inl ?_)
      rw [by24]
      simp only [List.length_map, List.length_range, List.length_take, List.length_drop]
      first | omega | (simp; omega))
    unfold reachBytes at h0
    have hlen : ((List.range len).map (fun i => (F i).1)).length = len := by simp
    have hlen2 : ((List.range len).map (fun i => (F i).1.on (F i).2.1 (F i).2.2)).length = len := by simp
    have hg1 : ∀ j, j < len → ((List.range len).map (fun i => (F i).1)).getD j HS.z = (F j).1 := fun j hj => by rw [List.getD_eq_getElem?_getD]; simp [hj]
    have hg2 : ∀ j, j < len → ((List.range len).map (fun i => (F i).1.on (F i).2.1 (F i).2.2)).getD j HR.z = (F j).1.on (F j).2.1 (F j).2.2 := fun j hj => by rw [List.getD_eq_getElem?_getD]; simp [hj]
    refine ⟨some x, m, (List.range len).map (fun i => (F i).1), by rw [hlen], ?_⟩
    rw [hlen]
    refine ⟨hlen, (List.range len).map (fun i => (F i).1.on (F i).2.1 (F i).2.2), ⟨hlen2, by omega, by omega, ?_⟩, fun i hi => ⟨(F i).2.1, (F i).2.2, ?_⟩⟩
    · by_cases h0 : len = 0
      · exact .inr (.inl ⟨h0, x, rfl⟩)
      · obtain ⟨b, off, spot⟩ := x
        have hc := (hF 0 (by omega)).1 0 _ rfl
        have hspot : spot = none := by simpa [Addr.add] using World.cell?_spot hc
        subst hspot
        refine .inr (.inr ⟨b, off, rfl, World.block_lt_of_cell? _ _ hc, range_csH fun j hj => ?_⟩)
        rw [hlen2] at hj
        rw [hg2 j hj]
        intro i v hv
        have := (hF j hj).1 i v hv
        rw [add_plain', add_plain'] at this
        exact this
    · rw [hg1 i hi, hg2 i hi]
      exact ⟨rfl, (hF i hi).2⟩
theorem open_halves {H : Type} {enc : TypeId × Value → H} {W : World} {a : Option Addr} {len cap : Nat} {d : DataW H} {ps : List MemPlace} (h : DataW.Trod enc Try.prog W 0 (fun _ => true) true 22 (.slice a len cap) d ps) (hB : ∀ k ∈ d.weights Try.prog 22, k ≤ reachBytes) :
    ∃ l : List HS, l.length = len ∧ Hs W a l.length cap l := by
  obtain ⟨fuel, hf⟩ := h
  obtain ⟨a', cap', l, e, R⟩ := open_hlvs hf hB
  cases e
  exact ⟨l, rfl, R⟩
end Go.Proofs.Ytcacocndcfbmaaa

namespace Go.Proofs.Ytcacocndcfbmaaa.bookBack
open Go.ChangeShapes Go.WideShapes Go.ChangeAt Go.RowKit Go.Deep
open Go.ChangeMaps (open_string shut_string)
set_option linter.unusedVariables false
set_option linter.unusedSimpArgs false

theorem own : ownKnob Try.prog.godebug = none := by kernel_rfl
theorem laidOut : laidOutB Try.prog = true := by kernel_rfl
theorem sized_arg {H : Type} {ts : List TypeId} {ds : List (DataW H)} (h : (DataW.weightsEach Try.prog ts ds).all (· ≤ reachBytes) = true) {j : Nat} {t : TypeId} {d : DataW H} (ht : ts[j]? = some t) (hd : ds[j]? = some d) : ∀ k ∈ d.weights Try.prog t, k ≤ reachBytes := by
  intro k hk
  have := List.all_eq_true.1 h _ (DataW.weights_mem_each ht hd k hk)
  simpa using this

set_option maxRecDepth 100000 in
theorem lifted (os : Os) (started : os.Started) (H : Type) (enc : TypeId × Value → H) :
    ReturnsInHanded {} Try.checked os 4 .any (Rows.bookBackSpec.pre6 enc Try.prog Try.f4 Rows.bookBackRow.domain false) (Rows.bookBackSpec.post enc Try.prog Try.f4 false true false false) := by
  refine returnsInHanded_of_change_sized (C := Try.checked) own started (by kernel_rfl) Try.func4
    (ChangeSpec.witness6 (enc := enc) (C := Try.checked) false ⟨#[], #[.int .i64 0, .int .i64 0, .slice none 0 0, .string ⟨#[]⟩, .int .i64 0], []⟩ 8 (by kernel_rfl) (by kernel_rfl) (by kernel_rfl) (by kernel_rfl)) ?_
  intro W base args ds gs before hval0 hW hcnd hsz0 _
  have hsz : (DataW.weightsEach Try.prog (Try.f4.params.toList ++ Rows.bookBackSpec.plain.varTypes Try.prog) (ds ++ gs)).all (· ≤ reachBytes) = true := hsz0
  clear hsz0
  have hval : ∀ (j : Nat) t v, Try.f4.params[j]? = some t → args[j]? = some v → Value.okWide Try.prog W .any base t v := hval0
  have hW' := hW
  obtain ⟨p, q, hA0, hV, rfl, hfz, hnd⟩ := hW
  have hA : DataW.TrodAll enc Try.prog W 0 (fun _ => true) true Try.f4.params.toList args.toList ds p := hA0
  rw [Try.params4] at hA hval hsz
  obtain ⟨v0, vs0, d0, ds0, p0, q0, hargs, rfl, rfl, h0, r0⟩ := trodAll_cons hA
  obtain ⟨v1, vs1, d1, ds1, p1, q1, rfl, rfl, rfl, h1, r1⟩ := trodAll_cons r0
  obtain ⟨v2, vs2, d2, ds2, p2, q2, rfl, rfl, rfl, h2, r2⟩ := trodAll_cons r1
  obtain ⟨v3, vs3, d3, ds3, p3, q3, rfl, rfl, rfl, h3, r3⟩ := trodAll_cons r2
  obtain ⟨v4, vs4, d4, ds4, p4, q4, rfl, rfl, rfl, h4, r4⟩ := trodAll_cons r3
  obtain ⟨rfl, rfl, rfl⟩ := trodAll_nil r4
  obtain rfl : args = #[v0, v1, v2, v3, v4] := by cases args; simp_all
  obtain ⟨rfl, rfl⟩ := trodVars_none hV
  obtain ⟨a0, rfl, rfl, rfl, w0⟩ := open_int Try.underlying3 (hval 0 3 v0 rfl rfl) h0
  obtain ⟨a1, rfl, rfl, rfl, w1⟩ := open_int Try.underlying2 (hval 1 2 v1 rfl rfl) h1
  have k2 := h2
  have lt2 : ∀ x ∈ p2, x.block < W.heap.size := by obtain ⟨m, hm⟩ := k2; exact DataW.trod_lt m _ _ _ hm
  obtain ⟨a2, len2, cap2, rfl⟩ := okWide_slice Try.underlying22 (hval 2 22 v2 rfl rfl)
  obtain ⟨l2, rfl, O2⟩ := open_halves k2 (sized_arg hsz (j := 2) (t := 22) rfl rfl)
  obtain ⟨nm, rfl, rfl, rfl, w3⟩ := open_string Try.underlying9 (hval 3 9 v3 rfl rfl) h3
  obtain ⟨a4, rfl, rfl, rfl, w4⟩ := open_int Try.underlying3 (hval 4 3 v4 rfl rfl) h4
  clear hA0 hval0
  refine (back_walk a0 a1 a2 cap2 l2 nm a4 W O2).mono fun e W' ⟨he, bel⟩ => ?_
  subst he
  exact ⟨_, rfl, _, _, _, [], _, [], hW', trodAll_mk1 (shut_bool Try.underlying4 _), (trodAll_cons_mk (shut_int Try.underlying3 w0) (trodAll_cons_mk (shut_int Try.underlying2 w1) (trodAll_cons_mk (Below.trod laidOut (by kernel_rfl) (of_decide_eq_true (by kernel_rfl)) k2 bel lt2) (trodAll_cons_mk (shut_string Try.underlying9 w3) (trodAll_cons_mk (shut_int Try.underlying3 w4) trodAll_mk0))))), rfl, bel.frame _, fun h => by cases h⟩

theorem over : Rows.bookBackRow.holds Try.pinned (OpenSpec.ofChange Rows.bookBackSpec) :=
  OpenClaim.holds_of_wide 4 Try.f4 rfl rfl rfl rfl rfl rfl rfl ⟨rfl, rfl, rfl, rfl, rfl⟩ rfl rfl rfl rfl rfl (by kernel_rfl) Try.func4 (by kernel_rfl)
    (of_decide_eq_true (by kernel_rfl)) (by unfold Func.isWrapper; first | (rw [if_pos (by decide +kernel)]; kernel_rfl) | (rw [if_neg (by decide +kernel)]; exact ⟨rfl, rfl⟩))
    (fun os started H enc _ => lifted os started H enc)

/-- The statement. -/
theorem proved : Rows.BookBackSaid := over
#print axioms proved
end Go.Proofs.Ytcacocndcfbmaaa.bookBack
