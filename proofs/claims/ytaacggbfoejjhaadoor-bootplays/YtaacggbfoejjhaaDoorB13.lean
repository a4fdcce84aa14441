/-
  Package boot: what Next does to the slots, whatever the cut.
-/
import Derived.Test.YtaacggbfoejjhaaDoorB12
namespace Go.Proofs.YtaacggbfoejjhaaDoor
open Go.ChangeShapes Go.WideShapes Go.ChangeAt Go.RowKit
open D
set_option linter.unusedVariables false
set_option linter.unusedSimpArgs false

theorem slot_take (bs : List Int) {i : Nat} (hi : i < 2) : slot (bs.take 64) i = slot bs i := by
  unfold slot
  rw [List.drop_take, List.take_take, Nat.min_eq_left (by omega)]
/-- Sixteen bytes are written over. -/
theorem splice_get (bs ys : List Int) (o k : Nat) (h : o + ys.length ≤ bs.length) : (splice bs o ys)[k]? = if k < o then bs[k]? else if k < o + ys.length then ys[k - o]? else bs[k]? := by
  unfold splice
  by_cases h1 : k < o
  · rw [if_pos h1, List.getElem?_append_left (by rw [List.length_take]; omega), List.getElem?_take, if_pos h1]
  · rw [if_neg h1, List.getElem?_append_right (by rw [List.length_take]; omega), List.length_take, Nat.min_eq_left (by omega)]
    by_cases h2 : k < o + ys.length
    · rw [if_pos h2, List.getElem?_append_left (by omega)]
    · rw [if_neg h2, List.getElem?_append_right (by omega), List.getElem?_drop]
      congr 1
      omega
theorem slot_get (bs : List Int) (i k : Nat) : (slot bs i)[k]? = if k < 32 then bs[i * 32 + k]? else none := by
  unfold slot
  rw [List.getElem?_take]
  split
  · rw [List.getElem?_drop]
  · rfl
theorem slot_far {bs ys : List Int} {i i' j : Nat} (hj : j < 2) (hi : i < 2) (hi' : i' < 2) (hne : i' ≠ i) (hy : ys.length = 16) (hb : 64 ≤ bs.length) : slot (splice bs ((i * 2 + j) * 16) ys) i' = slot bs i' := by
  apply List.ext_getElem?
  intro k
  rw [slot_get, slot_get]
  split
  · rw [splice_get _ _ _ _ (by omega)]
    by_cases h1 : i' * 32 + k < (i * 2 + j) * 16
    · rw [if_pos h1]
    · rw [if_neg h1, if_neg (by omega)]
  · rfl
theorem slot_first {bs ys : List Int} {i : Nat} (hi : i < 2) (hy : ys.length = 16) (hb : 64 ≤ bs.length) : slot (splice bs ((i * 2 + 0) * 16) ys) i = ys ++ (slot bs i).drop 16 := by
  apply List.ext_getElem?
  intro k
  rw [slot_get]
  by_cases h16 : k < 16
  · rw [if_pos (by omega), splice_get _ _ _ _ (by omega), if_neg (by omega), if_pos (by omega), List.getElem?_append_left (by omega)]
    congr 1
    omega
  · rw [List.getElem?_append_right (by omega), List.getElem?_drop, slot_get]
    split
    · rw [splice_get _ _ _ _ (by omega), if_neg (by omega), if_neg (by omega), if_pos (by omega)]
      congr 1
      omega
    · rw [if_neg (by omega)]
theorem slot_second {bs ys : List Int} {i : Nat} (hi : i < 2) (hy : ys.length = 16) (hb : 64 ≤ bs.length) : slot (splice bs ((i * 2 + 1) * 16) ys) i = (slot bs i).take 16 ++ ys := by
  have hl : ((slot bs i).take 16).length = 16 := by rw [List.length_take]; unfold slot; rw [List.length_take, List.length_drop]; omega
  apply List.ext_getElem?
  intro k
  rw [slot_get]
  by_cases h16 : k < 16
  · rw [if_pos (by omega), splice_get _ _ _ _ (by omega), if_pos (by omega), List.getElem?_append_left (by omega), List.getElem?_take, if_pos h16, slot_get, if_pos (by omega)]
  · rw [List.getElem?_append_right (by omega), hl]
    split
    · rw [splice_get _ _ _ _ (by omega), if_neg (by omega), if_pos (by omega)]
      congr 1
      omega
    · rw [List.getElem?_eq_none (by omega)]
/-- The power is there, and there are slots. -/
structure Up (S : DS) : Prop where
  ok : S.Ok
  gone : S.gone = false
  n4 : 4 ≤ S.n
theorem Up.len {S : DS} (h : Up S) : 64 ≤ S.bs.length := by rw [h.ok.len]; have := h.n4; omega
theorem Up.ldC {S : DS} (h : Up S) : ldC S = 0 := by unfold YtaacggbfoejjhaaDoor.ldC; rw [h.gone, if_neg (by simp), if_neg (by have := h.n4; omega)]
theorem Up.ldV {S : DS} (h : Up S) : ldV S = S.bs.take 64 := by unfold YtaacggbfoejjhaaDoor.ldV; rw [h.gone, if_neg (by simp), if_neg (by have := h.n4; omega)]
/-- What stands in a slot, with or without power. -/
def st (S : DS) (i : Nat) : Nat := stand (slot S.bs i)
def mS (S : DS) : Nat := max (st S 0) (st S 1)
def lS (S : DS) : Nat := if st S 1 < st S 0 then 1 else 0
theorem Up.sl0 {S : DS} (h : Up S) : sl0 S = st S 0 := by unfold YtaacggbfoejjhaaDoor.sl0 st; rw [h.ldV, slot_take _ (by omega)]
theorem Up.sl1 {S : DS} (h : Up S) : sl1 S = st S 1 := by unfold YtaacggbfoejjhaaDoor.sl1 st; rw [h.ldV, slot_take _ (by omega)]
theorem Up.mx {S : DS} (h : Up S) : mx (YtaacggbfoejjhaaDoor.ldV S) = mS S := by unfold YtaacggbfoejjhaaDoor.mx mS st; rw [h.ldV, slot_take _ (by omega), slot_take _ (by omega)]
theorem Up.lsr {S : DS} (h : Up S) : lsrS (YtaacggbfoejjhaaDoor.ldV S) = lS S := by unfold lsrS lS st; rw [h.ldV, slot_take _ (by omega), slot_take _ (by omega)]
theorem mS_le (S : DS) : mS S ≤ 1099511627776 := by unfold mS st; have := stand_le (slot S.bs 0); have := stand_le (slot S.bs 1); omega
theorem lS_lt (S : DS) : lS S < 2 := by unfold lS; split <;> omega
theorem wr_ok {S : DS} (h : Up S) {p : Nat} (hp : p < 4) (hl : S.left ≠ 0) (ys : List Int) : wrC S (p : Int) 16 = 0 ∧ wrS S (p : Int) 16 ys = S.put p ys := by
  unfold wrC wrS
  have hin : inS S (p : Int) = true := inS_nat (by have := h.n4; omega)
  rw [h.gone, hin]
  simp [hl]
theorem wr_cut {S : DS} (h : Up S) {p : Nat} (hp : p < 4) (hl : S.left = 0) (ys : List Int) : wrC S (p : Int) 16 = 32 ∧ wrS S (p : Int) 16 ys = ⟨true, S.left, S.stays, S.n, S.bs, S.done⟩ := by
  unfold wrC wrS
  have hin : inS S (p : Int) = true := inS_nat (by have := h.n4; omega)
  rw [h.gone, hin]
  simp [hl]
theorem Up.put {S : DS} (h : Up S) {p : Nat} (hp : p < 4) {ys : List Int} (hy : ys.length = 16) (hb : Byt ys) : Up (S.put p ys) := ⟨h.ok.put (by have := h.n4; omega) hy hb, h.gone, h.n4⟩
/-- One write of a record, and both. -/
theorem one_write {S : DS} (h : Up S) {i : Nat} (hi : i < 2) {r : List Int} (hr : r.length = 32) : st (S.put (i * 2) (hlf r 0)) (1 - i) = st S (1 - i) ∧ slot (S.put (i * 2) (hlf r 0)).bs i = hlf r 0 ++ (slot S.bs i).drop 16 := by
  have e1 : (S.put (i * 2) (hlf r 0)).bs = splice S.bs ((i * 2 + 0) * 16) (hlf r 0) := rfl
  have hl := hlf_len hr (j := 0) (by omega)
  refine ⟨?_, ?_⟩
  · unfold st
    rw [e1, slot_far (by omega) hi (by omega) (by omega) hl h.len]
  · rw [e1, slot_first hi hl h.len]
theorem two_writes {S : DS} (h : Up S) {i : Nat} (hi : i < 2) {r : List Int} (hr : r.length = 32) (hb : Byt r) : st ((S.put (i * 2) (hlf r 0)).put (i * 2 + 1) (hlf r 1)) (1 - i) = st S (1 - i) ∧ slot ((S.put (i * 2) (hlf r 0)).put (i * 2 + 1) (hlf r 1)).bs i = r := by
  have h1 := one_write h hi hr
  have U1 := h.put (p := i * 2) (by omega) (hlf_len hr (j := 0) (by omega)) (hlf_byt hb 0)
  have e1 : ((S.put (i * 2) (hlf r 0)).put (i * 2 + 1) (hlf r 1)).bs = splice (S.put (i * 2) (hlf r 0)).bs ((i * 2 + 1) * 16) (hlf r 1) := rfl
  have hl := hlf_len hr (j := 1) (by omega)
  refine ⟨?_, ?_⟩
  · rw [← h1.1]
    unfold st
    rw [e1, slot_far (by omega) hi (by omega) (by omega) hl U1.len]
  · rw [e1, slot_second hi hl U1.len, h1.2, List.take_left' (hlf_len hr (by omega))]
    unfold hlf
    rw [Nat.zero_mul, List.drop_zero, Nat.one_mul, List.take_of_length_le (l := r.drop 16) (by simp; omega), List.take_append_drop]
/-- Half a record: nothing, or the whole one's number. -/
theorem stand_half {n : Nat} (hn : n ≤ 1099511627776) (xs : List Int) : stand (hlf (recd n) 0 ++ xs) = 0 ∨ stand (hlf (recd n) 0 ++ xs) = n := by
  have e : (hlf (recd n) 0 ++ xs).take 8 = le 8 n := by
    rw [List.take_append_of_le_length (by rw [hlf_len (rec_len n) (by omega)]; omega)]
    unfold hlf
    rw [Nat.zero_mul, List.drop_zero, List.take_take, Nat.min_eq_left (by omega), rec_take]
  unfold stand
  rw [e, tell_le 8 n (by omega)]
  split
  · exact .inr rfl
  · exact .inl rfl
theorem mS_of {S : DS} {i : Nat} (hi : i < 2) : mS S = max (st S i) (st S (1 - i)) := by
  have h : i = 0 ∨ i = 1 := by omega
  rcases h with rfl | rfl
  · rfl
  · exact Nat.max_comm _ _
theorem mS_other (S : DS) : st S (1 - lS S) = mS S := by
  unfold mS lS
  split
  · show st S 0 = _; omega
  · show st S 1 = _; omega
/-- What Next does. -/
structure NextDid (S : DS) : Prop where
  /-- MaxBoot stands. -/
  last : mS S = 1099511627776 → nxN S = 0 ∧ nxC S = 33 ∧ nxS S = S
  /-- The power goes at once. -/
  none : mS S ≠ 1099511627776 → S.left = 0 → nxN S = 0 ∧ nxC S = 32 ∧ (nxS S).gone = true ∧ (nxS S).bs = S.bs ∧ (nxS S).n = S.n ∧ (nxS S).done = S.done ∧ (nxS S).stays = S.stays
  half : mS S ≠ 1099511627776 → S.left = 1 → nxN S = 0 ∧ nxC S = 32 ∧ (nxS S).gone = true ∧ st (nxS S) (1 - lS S) = st S (1 - lS S) ∧ (st (nxS S) (lS S) = 0 ∨ st (nxS S) (lS S) = mS S + 1) ∧ (nxS S).n = S.n ∧ (nxS S).done = wrap64 (S.done + 1) ∧ (nxS S).stays = S.stays
  both : mS S ≠ 1099511627776 → S.left ≠ 0 → S.left ≠ 1 → nxN S = ((mS S + 1 : Nat) : Int) ∧ nxC S = 0 ∧ Up (nxS S) ∧ st (nxS S) (1 - lS S) = st S (1 - lS S) ∧ st (nxS S) (lS S) = mS S + 1 ∧ (nxS S).n = S.n ∧ (nxS S).done = wrap64 (wrap64 (S.done + 1) + 1) ∧ (S.left = -1 → (nxS S).left = -1)
theorem next_did {S : DS} (h : Up S) : NextDid S := by
  have hc := h.ldC
  have hm := h.mx
  have hls := h.lsr
  have hi := lS_lt S
  have eN : nxN S = if nxC S = 0 then ((mS S + 1 : Nat) : Int) else 0 := by unfold nxN; rw [hm]
  have eC : mS S ≠ 1099511627776 → nxC S = stoC S (lS S) (recd (mS S + 1)) ∧ nxS S = stoS S (lS S) (recd (mS S + 1)) := fun hh => by
    refine ⟨?_, ?_⟩
    · unfold nxC nxV; rw [if_pos hc, hm, if_neg hh, hls]
    · unfold nxS nxV; rw [if_pos hc, hm, if_neg hh, hls]
  have hr := rec_len (mS S + 1)
  have hb := rec_byt (mS S + 1)
  have hmle := mS_le S
  obtain ⟨r, HR⟩ : ∃ r, Hid (recd (mS S + 1) = r) := ⟨_, rfl⟩
  rw [HR.out] at eC hr hb
  have U1 := h.put (p := lS S * 2) (by omega) (hlf_len hr (j := 0) (by omega)) (hlf_byt hb 0)
  have h0 : sts S (lS S) r 0 = S := rfl
  refine ⟨fun hh => ?_, fun hh hl => ?_, fun hh hl => ?_, fun hh hl0 hl1 => ?_⟩
  · have e1 : nxC S = 33 := by unfold nxC; rw [if_pos hc, hm, if_pos hh]
    exact ⟨by rw [eN, e1]; rfl, e1, by unfold nxS; rw [if_pos hc, hm, if_pos hh]⟩
  · obtain ⟨e1, e2⟩ := eC hh
    have w := wr_cut h (p := lS S * 2 + 0) (by omega) hl (hlf r 0)
    have c0 : wcs S (lS S) r 0 = 32 := w.1
    have s1 : sts S (lS S) r 1 = ⟨true, S.left, S.stays, S.n, S.bs, S.done⟩ := w.2
    have e3 : nxC S = 32 := by rw [e1]; unfold stoC; rw [c0]; rfl
    have e4 : nxS S = ⟨true, S.left, S.stays, S.n, S.bs, S.done⟩ := by rw [e2]; unfold stoS; rw [c0, s1]; rfl
    rw [e4, eN, e3]
    exact ⟨rfl, rfl, rfl, rfl, rfl, rfl, rfl⟩
  · obtain ⟨e1, e2⟩ := eC hh
    have w := wr_ok h (p := lS S * 2 + 0) (by omega) (by omega) (hlf r 0)
    have c0 : wcs S (lS S) r 0 = 0 := w.1
    have s1 : sts S (lS S) r 1 = S.put (lS S * 2) (hlf r 0) := w.2
    have hl1 : (S.put (lS S * 2) (hlf r 0)).left = 0 := by show (if 0 < S.left then S.left - 1 else S.left) = 0; rw [hl]; rfl
    have w2 := wr_cut U1 (p := lS S * 2 + 1) (by omega) hl1 (hlf r 1)
    have c1 : wcs S (lS S) r 1 = 32 := by unfold wcs; rw [s1]; exact w2.1
    have s2 : sts S (lS S) r 2 = ⟨true, (S.put (lS S * 2) (hlf r 0)).left, S.stays, S.n, (S.put (lS S * 2) (hlf r 0)).bs, wrap64 (S.done + 1)⟩ := by
      show wrS (sts S (lS S) r 1) _ 16 (hlf r 1) = _
      rw [s1]; exact w2.2
    have e3 : nxC S = 32 := by rw [e1]; unfold stoC; rw [c0, c1]; rfl
    have e4 : nxS S = ⟨true, (S.put (lS S * 2) (hlf r 0)).left, S.stays, S.n, (S.put (lS S * 2) (hlf r 0)).bs, wrap64 (S.done + 1)⟩ := by rw [e2]; unfold stoS; rw [c0, s2]; rfl
    have ow := one_write h hi hr
    have hst : ∀ i, st (nxS S) i = st (S.put (lS S * 2) (hlf r 0)) i := fun i => by rw [e4]; rfl
    refine ⟨by rw [eN, e3]; rfl, e3, by rw [e4], by rw [hst]; exact ow.1, ?_, by rw [e4], by rw [e4], by rw [e4]⟩
    rw [hst]
    unfold st
    rw [ow.2, ← HR.out]
    exact stand_half (by omega) _
  · obtain ⟨e1, e2⟩ := eC hh
    have w := wr_ok h (p := lS S * 2 + 0) (by omega) hl0 (hlf r 0)
    have c0 : wcs S (lS S) r 0 = 0 := w.1
    have s1 : sts S (lS S) r 1 = S.put (lS S * 2) (hlf r 0) := w.2
    have hl2 : (S.put (lS S * 2) (hlf r 0)).left ≠ 0 := by show (if 0 < S.left then S.left - 1 else S.left) ≠ 0; split <;> omega
    have w2 := wr_ok U1 (p := lS S * 2 + 1) (by omega) hl2 (hlf r 1)
    have c1 : wcs S (lS S) r 1 = 0 := by unfold wcs; rw [s1]; exact w2.1
    have s2 : sts S (lS S) r 2 = (S.put (lS S * 2) (hlf r 0)).put (lS S * 2 + 1) (hlf r 1) := by
      show wrS (sts S (lS S) r 1) _ 16 (hlf r 1) = _
      rw [s1]; exact w2.2
    have e3 : nxC S = 0 := by rw [e1]; unfold stoC; rw [c0, c1]; rfl
    have e4 : nxS S = (S.put (lS S * 2) (hlf r 0)).put (lS S * 2 + 1) (hlf r 1) := by rw [e2]; unfold stoS; rw [c0, s2]; rfl
    have tw := two_writes h hi hr hb
    rw [e4, eN, e3]
    refine ⟨rfl, rfl, U1.put (by omega) (hlf_len hr (by omega)) (hlf_byt hb 1), tw.1, ?_, rfl, rfl, fun hl => ?_⟩
    · unfold st
      rw [tw.2, ← HR.out]
      exact stand_rec (by simp [fitB]; omega)
    · show (if 0 < (if 0 < S.left then S.left - 1 else S.left) then (if 0 < S.left then S.left - 1 else S.left) - 1 else (if 0 < S.left then S.left - 1 else S.left)) = -1
      rw [hl]; rfl
end Go.Proofs.YtaacggbfoejjhaaDoor
