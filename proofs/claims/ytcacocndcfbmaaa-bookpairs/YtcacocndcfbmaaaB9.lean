/-
  Chapter 11's first example, as the statements call it; what is fit.
-/
import Derived.Test.YtcacocndcfbmaaaB6
import Derived.Test.YtcacocndcfbmaaaB8
namespace Go.Proofs.Ytcacocndcfbmaaa
open Go.ChangeShapes Go.WideShapes Go.ChangeAt Go.RowKit
set_option linter.unusedVariables false
set_option linter.unusedSimpArgs false

abbrev mB : ByteArray := ⟨#[109]⟩
theorem toL_m : mB.toList = [109] := by rw [ByteArray.toList_eq]
theorem lt_mm : ltN mB mB = false := by unfold ltN; rw [toL_m]; rfl
theorem eq_mm : eqN mB mB = true := by unfold eqN; rw [toL_m]; rfl
theorem pos_m (x : LS) (h : x.name = mB) : posN mB [x] = 0 := by simp [posN, pos, h, lt_mm]
theorem hit_m (x : LS) (h : x.name = mB) : hitN mB [x] = true := by
  unfold hitN hit
  have := pos_m x h
  unfold posN at this
  rw [this]
  simp [h, eq_mm]
theorem reg_m (x : LS) (h : x.name = mB) : regN mB [x] = x := by
  unfold regN
  rw [hit_m x h, pos_m x h]
  rfl
abbrev h1 : HS := ⟨1, 1, 0, [⟨mB, 1, 1, 5⟩], false, 0⟩
abbrev h2 : HS := ⟨5, 1, 0, [⟨mB, 1, 2, 7⟩], false, 0⟩
theorem ents_12 : ents 2 mB [h1, h2] = [(1, -5), (5, 7)] := by
  have e1 : ent1 2 mB h1 = some (1, -5) := by
    unfold ent1
    rw [reg_m ⟨mB, 1, 1, 5⟩ rfl]
    decide
  have e2 : ent1 2 mB h2 = some (5, 7) := by
    unfold ent1
    rw [reg_m ⟨mB, 1, 2, 7⟩ rfl]
    decide
  unfold ents
  rw [List.filterMap_cons, e1, List.filterMap_cons, e2]
  rfl
set_option maxRecDepth 100000 in
set_option maxHeartbeats 8000000 in
theorem awake_any (w : World) : Calls Try.prog 7 #[] w fun e w' => e = .returned (.bool true) ∧ Below w.heap.size w w' := by
  obtain ⟨W3, hW3⟩ : ∃ W3, (((w.alloc (.cells #[.string mB, .int .i64 1, .int .i64 1, .int .i64 5] 62)).alloc (.cells #[.string mB, .int .i64 1, .int .i64 2, .int .i64 7] 62)).alloc (.cells #[.int .i64 1, .int .i64 1, .int .i64 0, .slice (some ⟨w.heap.size, 0, none⟩) 1 1, .bool false, .int .i64 0, .int .i64 5, .int .i64 1, .int .i64 0, .slice (some ⟨w.heap.size + 1, 0, none⟩) 1 1, .bool false, .int .i64 0] 43)) = W3 := ⟨_, rfl⟩
  have C0 := (((Bx.nil w).add rfl (.cells #[.string mB, .int .i64 1, .int .i64 1, .int .i64 5] 62)).add (by simp) (.cells #[.string mB, .int .i64 1, .int .i64 2, .int .i64 7] 62)).add (by simp) (.cells #[.int .i64 1, .int .i64 1, .int .i64 0, .slice (some ⟨w.heap.size, 0, none⟩) 1 1, .bool false, .int .i64 0, .int .i64 5, .int .i64 1, .int .i64 0, .slice (some ⟨w.heap.size + 1, 0, none⟩) 1 1, .bool false, .int .i64 0] 43)
  rw [hW3] at C0
  have T0 := C0.at0 _ rfl
  have T1 := C0.at_ 1 _ rfl
  have T2 := C0.at_ 2 _ rfl
  have P : Hs W3 (some ⟨w.heap.size + 1 + 1, 0, none⟩) 2 2 [h1, h2] := by
    refine ⟨rfl, [h1.on (some ⟨w.heap.size, 0, none⟩) 1, h2.on (some ⟨w.heap.size + 1, 0, none⟩) 1], ⟨rfl, Nat.le_refl _, by omega, .inr (.inr ⟨w.heap.size + 1 + 1, 0, rfl, row_lt T2, fun j v hv => ?_⟩)⟩, fun i hi => ?_⟩
    · rw [Nat.zero_add]
      exact row_cell T2 j v (by simpa [csH, HR.cells, HS.on] using hv)
    · have : i = 0 ∨ i = 1 := by omega
      rcases this with rfl | rfl
      · exact ⟨_, _, rfl, rfl, Nat.le_refl _, by show 1 * 40 ≤ _; omega, .inr (.inr ⟨w.heap.size, 0, rfl, row_lt T0, fun j v hv => by rw [Nat.zero_add]; exact row_cell T0 j v (by simpa [csL, LS.cells] using hv)⟩)⟩
      · exact ⟨_, _, rfl, rfl, Nat.le_refl _, by show 1 * 40 ≤ _; omega, .inr (.inr ⟨w.heap.size + 1, 0, rfl, row_lt T1, fun j v hv => by rw [Nat.zero_add]; exact row_cell T1 j v (by simpa [csL, LS.cells] using hv)⟩)⟩
  have K11 : ∀ W, Below W3.heap.size W3 W → Calls Try.prog 11 #[.int .i64 2, .slice (some ⟨w.heap.size + 1 + 1, 0, none⟩) 2 2, .string mB] W fun e w' => e = .returned (.tuple #[.int .i64 2, .int .i64 0]) ∧ Below W.heap.size W w' := fun W b => by
    have := taken_any 2 (some ⟨w.heap.size + 1 + 1, 0, none⟩) 2 [h1, h2] mB W (P.below b) (by decide)
    rw [ents_12] at this
    exact this
  have K13 : ∀ W, Below W3.heap.size W3 W → Calls Try.prog 13 #[.int .i64 2, .int .i64 10, .slice (some ⟨w.heap.size + 1 + 1, 0, none⟩) 2 2, .string mB] W fun e w' => e = .returned (.tuple #[.int .i64 8, .int .i64 0]) ∧ Below W.heap.size W w' := fun W b => by
    have := estimate_any 2 10 (some ⟨w.heap.size + 1 + 1, 0, none⟩) 2 [h1, h2] mB W (P.below b) (by decide) (by decide)
    rw [ents_12] at this
    exact this
  have K15 : ∀ W, Below W3.heap.size W3 W → Calls Try.prog 15 #[.int .i64 2, .int .i64 10, .slice (some ⟨w.heap.size + 1 + 1, 0, none⟩) 2 2, .string mB, .int .i64 5] W fun e w' => e = .returned (.tuple #[.int .i64 15, .int .i64 0]) ∧ Below W.heap.size W w' := fun W b => by
    have := rest_any 2 10 5 (some ⟨w.heap.size + 1 + 1, 0, none⟩) 2 [h1, h2] mB W (P.below b) (by decide) (by decide)
    rw [ents_12] at this
    exact this
  have K13b : ∀ W, Below W3.heap.size W3 W → Calls Try.prog 13 #[.int .i64 2, .int .i64 (-2147483647), .slice (some ⟨w.heap.size + 1 + 1, 0, none⟩) 2 2, .string mB] W fun e w' => e = .returned (.tuple #[.int .i64 0, .int .i64 10]) ∧ Below W.heap.size W w' := fun W b => by
    have := estimate_any 2 (-2147483647) (some ⟨w.heap.size + 1 + 1, 0, none⟩) 2 [h1, h2] mB W (P.below b) (by decide) (by decide)
    rw [ents_12] at this
    exact this
  have BW := C0.below
  have HW3 : Hid ((((w.alloc (.cells #[.string mB, .int .i64 1, .int .i64 1, .int .i64 5] 62)).alloc (.cells #[.string mB, .int .i64 1, .int .i64 2, .int .i64 7] 62)).alloc (.cells #[.int .i64 1, .int .i64 1, .int .i64 0, .slice (some ⟨w.heap.size, 0, none⟩) 1 1, .bool false, .int .i64 0, .int .i64 5, .int .i64 1, .int .i64 0, .slice (some ⟨w.heap.size + 1, 0, none⟩) 1 1, .bool false, .int .i64 0] 43)) = W3) := hW3
  clear hW3 T0 T1 T2 P C0
  go_enter Try.func7, Try.ntmps7
  go_wp2_with (fail)
  rw [HW3.out]
  clear HW3
  go_wp2_with (first
    | (go_at_call 11; refine (K11 _ (Below.refl _ _)).mono ?_; rintro e w1 ⟨rfl, b1⟩; clear K11)
    | (go_at_call 13; refine (K13 _ b1).mono ?_; rintro e w2 ⟨rfl, b2⟩; clear K13; have B2 := b1.trans (b2.mono b1.size))
    | (go_at_call 15; refine (K15 _ B2).mono ?_; rintro e w3 ⟨rfl, b3⟩; clear K15; have B3 := B2.trans (b3.mono B2.size))
    | (go_at_call 13; refine (K13b _ B3).mono ?_; rintro e w4 ⟨rfl, b4⟩; clear K13b; have B4 := B3.trans (b4.mono B3.size)))
  go_ret
  exact ⟨rfl, BW.trans (B4.mono BW.size)⟩
def inI (x : Int) : Bool := decide (-2147483647 ≤ x ∧ x ≤ 2147483647)
set_option maxHeartbeats 2000000 in
theorem bfit_any (id input : Int) (A : Option Addr) (c : Nat) (hs : List HS) (w : World) (P : Hs w A hs.length c hs) : Calls Try.prog 6 #[.int .i64 id, .int .i64 input, .slice A hs.length c] w fun e w' => e = .returned (.bool (inI input && fitsB id hs)) ∧ Below w.heap.size w w' := by
  have K24 := rfits_any id A c hs w P
  by_cases c1 : -2147483647 ≤ input
  · by_cases c2 : input ≤ 2147483647
    · have hb : inI input = true := decide_eq_true ⟨c1, c2⟩
      rw [hb, Bool.true_and]
      obtain ⟨f, ef⟩ : ∃ f, fitsB id hs = f := ⟨_, rfl⟩
      rw [ef] at K24 ⊢
      go_enter Try.func6, Try.ntmps6
      go_wp2_with (go_at_call 24; refine K24.mono ?_; rintro e w1 ⟨rfl, b1⟩)
      go_ret
      exact ⟨rfl, b1⟩
    · have hb : inI input = false := decide_eq_false (fun k => c2 k.2)
      rw [hb, Bool.false_and]
      clear K24
      go_enter Try.func6, Try.ntmps6
      go_wp2_with (refine ⟨trivial, ?_⟩)
      go_ret
      exact ⟨rfl, Below.refl _ _⟩
  · have hb : inI input = false := decide_eq_false (fun k => c1 k.1)
    rw [hb, Bool.false_and]
    clear K24
    go_enter Try.func6, Try.ntmps6
    go_wp2_with (refine ⟨trivial, ?_⟩)
    go_ret
    exact ⟨rfl, Below.refl _ _⟩
end Go.Proofs.Ytcacocndcfbmaaa
