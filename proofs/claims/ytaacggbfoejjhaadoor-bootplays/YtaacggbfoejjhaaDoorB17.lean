/-
  Disks at their start; what a cut, a Next and On make of the slots.
-/
import Derived.Test.YtaacggbfoejjhaaDoorB14
namespace Go.Proofs.YtaacggbfoejjhaaDoor
open Go.ChangeShapes Go.WideShapes Go.ChangeAt Go.RowKit
open D
set_option linter.unusedVariables false
set_option linter.unusedSimpArgs false

/-- A disk at its start. -/
structure Start (S : DS) : Prop where
  ok : S.Ok
  gone : S.gone = false
  stays : S.stays = false
  left : S.left = -1
  done : S.done = 0
theorem start_img {n : Nat} {zs : List Int} (h1 : 1 ≤ n) (h2 : n ≤ 64) (hz : zs.length = 16 * n) (hb : Byt zs) : Start (imgS n zs) := ⟨imgS_ok h1 h2 hz hb, rfl, rfl, rfl, rfl⟩
theorem start_new {n : Nat} (h1 : 1 ≤ n) (h2 : n ≤ 64) : Start (newS n) := ⟨newS_ok h1 h2, rfl, rfl, rfl, rfl⟩
/-- A disk of the program's, made between w and w'. -/
def Made (w : World) (S : DS) (e : Ending) (w' : World) : Prop := ∃ d, e = .returned (.pointer (some ⟨d, 0, none⟩)) ∧ w.heap.size ≤ d ∧ (∃ l, w.heap.size ≤ l ∧ DkP w' d l S ∧ Below w.heap.size w w')
theorem start_any (a : Option Addr) (len cap : Nat) (zs : List Int) (w : World) (R : Row .u8 w a len cap zs) (hc : cap ≤ 9223372036854775807) :
    (∃ S, Start S ∧ Calls Tryd.prog 17 #[.slice a len cap] w (Made w S)) ∨ Calls Tryd.prog 17 #[.slice a len cap] w fun e w' => e = .returned (.pointer none) ∧ w' = w := by
  have hle := R.le
  cases hf : fitL len with
  | false => exact .inr (load_no a len cap w hf (by omega))
  | true =>
    obtain ⟨n, hn, h1, h2⟩ := fitL_yes hf
    rcases R.mem with h | ⟨b, off, rfl, _, _⟩
    · omega
    · exact .inl ⟨imgS n zs, start_img h1 h2 (by rw [R.size, hn]) R.byte, load_ok n b off len cap zs w R hn h1 h2 hc⟩
theorem Up.cut {S : DS} (h : Up S) {x : Int} (hx : x ≤ 9223372036854775807) : Up (S.cut x) := ⟨h.ok.cut hx, h.gone, h.n4⟩
theorem st_bs {S T : DS} (h : T.bs = S.bs) (i : Nat) : st T i = st S i := by unfold st; rw [h]
theorem st_cut (S : DS) (x : Int) (i : Nat) : st (S.cut x) i = st S i := rfl
theorem st_on (S : DS) (i : Nat) : st S.on i = st S i := rfl
theorem mS_cut (S : DS) (x : Int) : mS (S.cut x) = mS S := rfl
theorem lS_cut (S : DS) (x : Int) : lS (S.cut x) = lS S := rfl
/-- A cut behind c writes, Next, and On. -/
structure Cut3 (S : DS) (c : Nat) : Prop where
  up : Up (nxS (S.cut c)).on
  last : mS S = 1099511627776 → nxN (S.cut c) = 0 ∧ nxC (S.cut c) = 33 ∧ (nxS (S.cut c)).done = 0 ∧ st (nxS (S.cut c)).on 0 = st S 0 ∧ st (nxS (S.cut c)).on 1 = st S 1
  few : mS S ≠ 1099511627776 → c < 2 → nxN (S.cut c) = 0 ∧ nxC (S.cut c) = 32 ∧ (nxS (S.cut c)).done = (c : Int) ∧ st (nxS (S.cut c)).on (1 - lS S) = st S (1 - lS S)
  both : mS S ≠ 1099511627776 → 2 ≤ c → nxN (S.cut c) = ((mS S + 1 : Nat) : Int) ∧ nxC (S.cut c) = 0 ∧ (nxS (S.cut c)).done = 2 ∧ st (nxS (S.cut c)).on (1 - lS S) = st S (1 - lS S) ∧ st (nxS (S.cut c)).on (lS S) = mS S + 1
theorem nxS_ok {S : DS} (h : Up S) : (nxS S).Ok ∧ (nxS S).n = S.n := by
  by_cases hm : mS S = 1099511627776
  · rw [((next_did h).last hm).2.2]; exact ⟨h.ok, rfl⟩
  · have hc := h.ldC
    have hmx := h.mx
    have hi := lS_lt S
    have e2 : nxS S = stoS S (lS S) (recd (mS S + 1)) := by unfold nxS nxV; rw [if_pos hc, hmx, if_neg hm, h.lsr]
    have hr := rec_len (mS S + 1)
    have hb := rec_byt (mS S + 1)
    generalize recd (mS S + 1) = r at *
    have w1 : (sts S (lS S) r 1).Ok ∧ (sts S (lS S) r 1).n = S.n := by
      show (wrS S _ 16 (hlf r 0)).Ok ∧ _
      by_cases hl : S.left = 0
      · have := (wr_cut h (p := lS S * 2 + 0) (by omega) hl (hlf r 0)).2
        show (wrS S _ 16 (hlf r 0)).Ok ∧ (wrS S _ 16 (hlf r 0)).n = S.n
        rw [this]
        exact ⟨⟨h.ok.len, h.ok.lo, h.ok.hi, h.ok.byt, h.ok.left0, h.ok.left1, h.ok.dn0, h.ok.dn1⟩, rfl⟩
      · have := (wr_ok h (p := lS S * 2 + 0) (by omega) hl (hlf r 0)).2
        show (wrS S _ 16 (hlf r 0)).Ok ∧ (wrS S _ 16 (hlf r 0)).n = S.n
        rw [this]
        exact ⟨h.ok.put (by have := h.n4; omega) (hlf_len hr (by omega)) (hlf_byt hb 0), rfl⟩
    rw [e2]
    unfold stoS
    split
    · rename_i h0
      have hl : S.left ≠ 0 := fun hl => by
        have := (wr_cut h (p := lS S * 2 + 0) (by omega) hl (hlf r 0)).1
        have h1 : wcs S (lS S) r 0 = 32 := this
        rw [h1] at h0; cases h0
      have s1 : sts S (lS S) r 1 = S.put (lS S * 2) (hlf r 0) := (wr_ok h (p := lS S * 2 + 0) (by omega) hl (hlf r 0)).2
      have U1 := h.put (p := lS S * 2) (by omega) (hlf_len hr (j := 0) (by omega)) (hlf_byt hb 0)
      have e3 : sts S (lS S) r 2 = wrS (S.put (lS S * 2) (hlf r 0)) ((lS S * 2 + 1 : Nat) : Int) 16 (hlf r 1) := by
        show wrS (sts S (lS S) r 1) _ 16 (hlf r 1) = _
        rw [s1]
      rw [e3]
      by_cases hl2 : (S.put (lS S * 2) (hlf r 0)).left = 0
      · rw [(wr_cut U1 (p := lS S * 2 + 1) (by omega) hl2 (hlf r 1)).2]
        exact ⟨⟨U1.ok.len, U1.ok.lo, U1.ok.hi, U1.ok.byt, U1.ok.left0, U1.ok.left1, U1.ok.dn0, U1.ok.dn1⟩, rfl⟩
      · rw [(wr_ok U1 (p := lS S * 2 + 1) (by omega) hl2 (hlf r 1)).2]
        exact ⟨U1.ok.put (by have := U1.n4; omega) (hlf_len hr (by omega)) (hlf_byt hb 1), rfl⟩
    · exact w1
theorem on_up {S : DS} (h : S.Ok) (hn : 4 ≤ S.n) : Up S.on := ⟨h.on, rfl, hn⟩
theorem cut3 {S : DS} (h : Up S) (hs : S.stays = false) (hd : S.done = 0) (c : Nat) (hc : c < 4) : Cut3 S c := by
  have U := h.cut (x := (c : Int)) (by omega)
  have hl : (S.cut c).left = (c : Int) := by show (if (c : Int) ≤ -1 then -1 else (c : Int)) = _; rw [if_neg (by omega)]
  have N := next_did U
  have ok := nxS_ok U
  refine ⟨on_up ok.1 (by rw [ok.2]; exact h.n4), fun hm => ?_, fun hm hc2 => ?_, fun hm hc2 => ?_⟩
  · obtain ⟨n1, n2, n3⟩ := N.last hm
    rw [n3]
    exact ⟨n1, n2, hd, rfl, rfl⟩
  · have hc3 : c = 0 ∨ c = 1 := by omega
    rcases hc3 with rfl | rfl
    · obtain ⟨n1, n2, n3, n4, n5, n6, n7⟩ := N.none hm hl
      exact ⟨n1, n2, n6.trans hd, by rw [st_on]; exact st_bs n4 _⟩
    · obtain ⟨n1, n2, n3, n4, n5, n6, n7, n8⟩ := N.half hm hl
      refine ⟨n1, n2, ?_, n4⟩
      rw [n7]
      show wrap64 (S.done + 1) = _
      rw [hd]; unfold wrap64; omega
  · obtain ⟨n1, n2, n3, n4, n5, n6, n7, n8⟩ := N.both hm (by rw [hl]; omega) (by rw [hl]; omega)
    refine ⟨n1, n2, ?_, n4, n5⟩
    rw [n7]
    show wrap64 (wrap64 (S.done + 1) + 1) = _
    rw [hd]; unfold wrap64; omega
end Go.Proofs.YtaacggbfoejjhaaDoor
