/-
  The examples behind every law of this layer.
-/
import Derived.Test.YtaacggbfoejjhaaDoorB13
namespace Go.Proofs.YtaacggbfoejjhaaDoor
open Go.ChangeShapes Go.WideShapes Go.ChangeAt Go.RowKit
open D
set_option linter.unusedVariables false
set_option linter.unusedSimpArgs false

theorem up_new : Up (newS 4) := ⟨newS_ok (by omega) (by omega), rfl, by show 4 ≤ 4; omega⟩
theorem st_new (n i : Nat) (hn : 4 ≤ n) (hi : i < 2) : st (newS n) i = 0 := by
  have e : slot (newS n).bs i = zr 32 := by
    show slot (List.replicate (16 * n) 0) i = _
    unfold slot zr
    rw [List.drop_replicate, List.take_replicate, Nat.min_eq_left (by omega)]
  unfold st
  rw [e, stand_zr]
/-- A Next without a cut. -/
theorem next_free {S : DS} (h : Up S) (hl : S.left = -1) {x y : Nat} (hx : st S 0 = x) (hy : st S 1 = y) (hm : max x y < 1099511627776) :
    Up (nxS S) ∧ (nxS S).left = -1 ∧ nxC S = 0 ∧ nxN S = ((max x y + 1 : Nat) : Int) ∧ st (nxS S) 0 = (if y < x then x else max x y + 1) ∧ st (nxS S) 1 = (if y < x then max x y + 1 else y) := by
  have hM : mS S = max x y := by unfold mS; rw [hx, hy]
  have D := (next_did h).both (by omega) (by omega) (by omega)
  rw [hM] at D
  obtain ⟨d1, d2, d3, d4, d5, d6, d7, d8⟩ := D
  refine ⟨d3, d8 hl, d2, d1, ?_, ?_⟩
  · unfold lS at d4 d5
    rw [hx, hy] at d4 d5
    split
    · rename_i hh; rw [if_pos hh] at d4; exact d4.trans hx
    · rename_i hh; rw [if_neg hh] at d5; exact d5
  · unfold lS at d4 d5
    rw [hx, hy] at d4 d5
    split
    · rename_i hh; rw [if_pos hh] at d5; exact d5
    · rename_i hh; rw [if_neg hh] at d4; exact d4.trans hy
set_option maxHeartbeats 8000000 in
theorem awake_any (w : World) (ht : Tb w) : Calls Tryd.prog 11 #[] w fun e w' => e = .returned (.bool true) ∧ Below w.heap.size w w' := by
  obtain ⟨u1, l1, c1, n1, x1, y1⟩ := next_free up_new rfl (st_new 4 0 (by omega) (by omega)) (st_new 4 1 (by omega) (by omega)) (by decide)
  obtain ⟨u2, l2, c2, n2, x2, y2⟩ := next_free u1 l1 x1 y1 (by decide)
  obtain ⟨u3, l3, c3, n3, x3, y3⟩ := next_free u2 l2 x2 y2 (by decide)
  have K0 := new_ok 4 w (by omega) (by omega)
  have e1 : nxN (nxS (nxS (newS 4))) = 3 := n3
  have e2 : sl0 (nxS (nxS (nxS (newS 4)))) = 3 := u3.sl0.trans x3
  have e3 : sl1 (nxS (nxS (nxS (newS 4)))) = 2 := u3.sl1.trans y3
  have e4 : ldC (nxS (nxS (nxS (newS 4)))) = 0 := u3.ldC
  clear n1 x1 y1 n2 x2 y2 n3 x3 y3 c1 c2 u1 u2 u3 l1 l2 l3
  obtain ⟨S0, h0⟩ : ∃ S0, newS 4 = S0 := ⟨_, rfl⟩
  rw [h0] at K0 e1 e2 e3 e4 c3
  clear h0
  have HN : Hid (∀ w d l, DkP w d l S0 → Tb w → Calls Tryd.prog 9 #[.pointer (some ⟨d, 0, none⟩)] w fun e w' => e = .returned (.tuple #[.int .i64 (nxN S0), .int .i64 (nxC S0)]) ∧ DkP w' d l (nxS S0) ∧ Only (at2 d l) w w') := fun w d l D t => next_any d l S0 w D t
  obtain ⟨S1, h1⟩ : ∃ S1, nxS S0 = S1 := ⟨_, rfl⟩
  have HN1 : Hid (∀ w d l, DkP w d l S1 → Tb w → Calls Tryd.prog 9 #[.pointer (some ⟨d, 0, none⟩)] w fun e w' => e = .returned (.tuple #[.int .i64 (nxN S1), .int .i64 (nxC S1)]) ∧ DkP w' d l (nxS S1) ∧ Only (at2 d l) w w') := fun w d l D t => next_any d l S1 w D t
  rw [h1] at HN e1 e2 e3 e4 c3
  clear h1
  obtain ⟨S2, h2⟩ : ∃ S2, nxS S1 = S2 := ⟨_, rfl⟩
  have HN2 : Hid (∀ w d l, DkP w d l S2 → Tb w → Calls Tryd.prog 9 #[.pointer (some ⟨d, 0, none⟩)] w fun e w' => e = .returned (.tuple #[.int .i64 (nxN S2), .int .i64 (nxC S2)]) ∧ DkP w' d l (nxS S2) ∧ Only (at2 d l) w w') := fun w d l D t => next_any d l S2 w D t
  rw [h2] at HN1 e1 e2 e3 e4 c3
  clear h2
  rw [e1, c3] at HN2
  obtain ⟨S3, h3⟩ : ∃ S3, nxS S2 = S3 := ⟨_, rfl⟩
  rw [h3] at HN2 e2 e3 e4
  clear h3 e1 c3
  have HS : Hid (∀ w d l, DkP w d l S3 → Tb w → Calls Tryd.prog 8 #[.pointer (some ⟨d, 0, none⟩)] w fun e w' => e = .returned (.tuple #[.int .i64 3, .int .i64 2, .int .i64 0]) ∧ Below w.heap.size w w') := fun w d l D t => by
    have := slots_dk d l S3 w D t
    rw [e2, e3, e4] at this
    exact this
  clear e2 e3 e4
  have ofar : ∀ {X Y : World} {d l : Nat}, Tb X → Only (at2 d l) X Y → w.heap.size ≤ d → w.heap.size ≤ l → Tb Y := fun {X Y d l} t o h1 h2 => tab_only t o (by have := ht.pos; rintro (e | e) <;> omega)
  go_enter Tryd.func11, Tryd.ntmps11
  go_wp2_with (first
    | (go_at_call 18; refine K0.mono ?_; rintro e w1 ⟨d, rfl, hd, l, hl, D1, b1⟩; have t1 := ht.below b1)
    | (go_at_call 9; refine (HN.out _ d l D1 t1).mono ?_; rintro e w2 ⟨rfl, D2, o2⟩; have t2 := ofar t1 o2 hd hl; clear D1)
    | (go_at_call 9; refine (HN1.out _ d l D2 t2).mono ?_; rintro e w3 ⟨rfl, D3, o3⟩; have t3 := ofar t2 o3 hd hl; clear D2)
    | (go_at_call 9; refine (HN2.out _ d l D3 t3).mono ?_; rintro e w4 ⟨rfl, D4, o4⟩; have t4 := ofar t3 o4 hd hl; clear D3)
    | (go_at_call 8; refine (HS.out _ d l D4 t4).mono ?_; rintro e w5 ⟨rfl, b5⟩)
    | (go_at_call 15; refine (record_ok 1 w5 (by decide) (t4.below b5)).mono ?_; rintro e w6 ⟨g, rfl, hg, B6, b6⟩))
  go_ret
  have hk : ∀ q, at2 d l q → w.heap.size ≤ q := by rintro q (e | e) <;> omega
  have c2 := b1.trans (o2.below b1.size hk)
  have c3 := c2.trans (o3.below c2.size hk)
  have c4 := c3.trans (o4.below c3.size hk)
  have c5 := c4.trans (b5.mono c4.size)
  exact ⟨rfl, c5.trans (b6.mono c5.size)⟩
end Go.Proofs.YtaacggbfoejjhaaDoor
