/-
  The document's own reading of a row of fields.
-/
import Derived.Test.YtfgniilihdimgaaRefStr
import Derived.Test.YtfgniilihdimgaaRead
namespace Go.Proofs.Ytfgniilihdimgaa
open Go.ChangeShapes Go.WideShapes Go.ChangeAt Go.RowKit
set_option linter.unusedVariables false

/-- A field of kind k is read at the place i: f, and the place i'; or the error c'. -/
def Step (k : Int) (zs : List Int) (i : Nat) (f : Fld) (i' : Nat) (c' : Int) : Prop :=
  (c' = 0 ∧ ∃ n, i' = i + n ∧ fld k (zs.drop i) = .ok (f, n)) ∨ (c' ≠ 0 ∧ fld k (zs.drop i) = .error c')

theorem nat_err {r : Except Int (Int × Nat)} {c : Int} (hr : ∀ c, r = .error c → c = 20 ∨ c = 21) (h : natR r = .error c) : c ≠ 0 := by
  cases r with
  | error d => simp only [natR] at h; cases h; rcases hr _ rfl with h | h <;> omega
  | ok q =>
    obtain ⟨x, n⟩ := q
    simp only [natR] at h
    split at h
    · cases h; omega
    · cases h
theorem txt_err {bs : List Int} {c : Int} (h : txtR bs = .error c) : c ≠ 0 := by
  unfold txtR at h
  cases hn : num bs with
  | error d => rw [hn] at h; cases h; rcases err_pos hn with h | h <;> omega
  | ok q =>
    obtain ⟨x, n⟩ := q
    rw [hn] at h
    simp only at h
    split at h
    · cases h; omega
    · cases h
theorem flg_err {bs : List Int} {c : Int} (h : flgR bs = .error c) : c ≠ 0 := by
  cases bs with
  | nil => cases h; omega
  | cons x r =>
    simp only [flgR] at h
    split at h
    · cases h; omega
    · cases h

theorem rwhole_step (W0 : World) (a : Option Addr) (len cap : Nat) (zs : List Int) (p i : Nat) (w : World) (P : Rp W0 a len cap zs p i 0 w) :
    Calls Try.prog 38 #[.pointer (some ⟨p, 0, none⟩)] w fun e w' => ∃ (x : Int) (i' : Nat) (c' : Int), e = .returned (.int .i64 x) ∧ Rp W0 a len cap zs p i' c' w' ∧ Kp p w w' ∧ Step 1 zs i ⟨1, x, ⟨#[]⟩, false⟩ i' c' := by
  refine (rwhole_out W0 a len cap zs p i w P).mono ?_
  have hfl : fld 1 (zs.drop i) = fld1 (natR (num (zs.drop i))) := by simp [fld]
  intro e w' h
  cases hr : natR (num (zs.drop i)) with
  | error c =>
    rw [hr] at h hfl
    obtain ⟨h1, h2, j, h3⟩ := h
    exact ⟨0, j, c, h2, h3, h1, .inr ⟨nat_err (fun c h => err_pos h) hr, hfl⟩⟩
  | ok q =>
    obtain ⟨x, n⟩ := q
    rw [hr] at h hfl
    obtain ⟨h1, h2, h3⟩ := h
    exact ⟨x, i + n, 0, h2, h3, h1, .inl ⟨rfl, n, rfl, hfl⟩⟩

theorem rint_step (W0 : World) (a : Option Addr) (len cap : Nat) (zs : List Int) (p i : Nat) (w : World) (P : Rp W0 a len cap zs p i 0 w) :
    Calls Try.prog 39 #[.pointer (some ⟨p, 0, none⟩)] w fun e w' => ∃ (x : Int) (i' : Nat) (c' : Int), e = .returned (.int .i64 x) ∧ Rp W0 a len cap zs p i' c' w' ∧ Kp p w w' ∧ Step 2 zs i ⟨2, x, ⟨#[]⟩, false⟩ i' c' := by
  refine (rint_out W0 a len cap zs p i w P).mono ?_
  have hfl : fld 2 (zs.drop i) = fld2 (num (zs.drop i)) := by simp [fld]
  intro e w' h
  cases hr : num (zs.drop i) with
  | error c =>
    rw [hr] at h hfl
    obtain ⟨h1, h2, j, h3⟩ := h
    exact ⟨0, j, c, h2, h3, h1, .inr ⟨(by rcases err_pos hr with h | h <;> omega), hfl⟩⟩
  | ok q =>
    obtain ⟨x, n⟩ := q
    rw [hr] at h hfl
    obtain ⟨h1, h2, h3⟩ := h
    exact ⟨unsg x, i + n, 0, h2, h3, h1, .inl ⟨rfl, n, rfl, hfl⟩⟩

theorem rstr_step (W0 : World) (a : Option Addr) (len cap : Nat) (zs : List Int) (p i : Nat) (w : World) (P : Rp W0 a len cap zs p i 0 w) :
    Calls Try.prog 40 #[.pointer (some ⟨p, 0, none⟩)] w fun e w' => ∃ (x : ByteArray) (i' : Nat) (c' : Int), e = .returned (.string x) ∧ Rp W0 a len cap zs p i' c' w' ∧ Kp p w w' ∧ Step 3 zs i ⟨3, 0, x, false⟩ i' c' := by
  refine (rstr_out W0 a len cap zs p i w P).mono ?_
  have hfl : fld 3 (zs.drop i) = fld3 (txtR (zs.drop i)) := by simp [fld]
  intro e w' h
  cases hr : txtR (zs.drop i) with
  | error c =>
    rw [hr] at h hfl
    obtain ⟨h1, h2, j, h3⟩ := h
    exact ⟨⟨#[]⟩, j, c, h2, h3, h1, .inr ⟨txt_err hr, hfl⟩⟩
  | ok q =>
    obtain ⟨x, n⟩ := q
    rw [hr] at h hfl
    obtain ⟨h1, h2, h3⟩ := h
    exact ⟨x, i + n, 0, h2, h3, h1, .inl ⟨rfl, n, rfl, hfl⟩⟩

theorem rtruth_step (W0 : World) (a : Option Addr) (len cap : Nat) (zs : List Int) (p i : Nat) (w : World) (P : Rp W0 a len cap zs p i 0 w) :
    Calls Try.prog 41 #[.pointer (some ⟨p, 0, none⟩)] w fun e w' => ∃ (x : Bool) (i' : Nat) (c' : Int), e = .returned (.bool x) ∧ Rp W0 a len cap zs p i' c' w' ∧ Kp p w w' ∧ Step 4 zs i ⟨4, 0, ⟨#[]⟩, x⟩ i' c' := by
  refine (rtruth_out W0 a len cap zs p i w P).mono ?_
  have hfl : fld 4 (zs.drop i) = fld4 (flgR (zs.drop i)) := by simp [fld]
  intro e w' h
  cases hr : flgR (zs.drop i) with
  | error c =>
    rw [hr] at h hfl
    obtain ⟨h1, h2, j, h3⟩ := h
    exact ⟨false, j, c, h2, h3, h1, .inr ⟨flg_err hr, hfl⟩⟩
  | ok q =>
    obtain ⟨x, n⟩ := q
    rw [hr] at h hfl
    obtain ⟨h1, h2, h3⟩ := h
    exact ⟨x, i + n, 0, h2, h3, h1, .inl ⟨rfl, n, rfl, hfl⟩⟩

/-- What the loop holds: the fields so far, the reader, and that the rest is still to come; or the error. -/
def Left (ks zs : List Int) (j : Nat) (fs : List Fld) (i : Nat) (c : Int) (res : Except Int (List Fld × Nat)) : Prop :=
  (c = 0 ∧ rdF (ks.drop j) zs fs i = res) ∨ (c ≠ 0 ∧ res = .error c)
theorem Left.next {ks zs : List Int} {j : Nat} {fs : List Fld} {i i' : Nat} {c' k : Int} {f : Fld} {res : Except Int (List Fld × Nat)} (hd : ks.drop j = k :: ks.drop (j + 1)) (h : rdF (ks.drop j) zs fs i = res) (hs : Step k zs i f i' c') : Left ks zs (j + 1) (fs ++ [f]) i' c' res := by
  rw [hd] at h
  rcases hs with ⟨h1, n, h2, h3⟩ | ⟨h1, h3⟩
  · subst h2; exact .inl ⟨h1, by rw [← h, rdF_ok h3]⟩
  · exact .inr ⟨h1, by rw [← h, rdF_err h3]⟩

theorem owns_block {W W' : World} {base : Nat} {e : TypeId} {size : Nat} {v : Value} {n : Nat} {xs : List Value} (h : W.ownsRow base e size v n xs) (hb : ∀ g, v.ownBlock = some g → W'.heap[g]? = W.heap[g]?) : W'.ownsRow base e size v n xs := by
  refine ⟨h.1, ?_⟩
  rcases h.2 with hn | ⟨g, cap, cur, rfl, hg, hh, r⟩
  · exact .inl hn
  · exact .inr ⟨g, cap, cur, rfl, hg, (hb g rfl).trans hh, r⟩

theorem owns_drewN' {W : World} {base : Nat} {e : TypeId} {size : Nat} {v : Value} {n : Nat} {xs : List Value} (h : W.ownsRow base e size v n xs) (q : Nat) : (W.drewN q).ownsRow base e size v n xs := owns_block h fun _ _ => rfl
theorem below_drewN' {B : Nat} {a w : World} (h : Below B a w) (n : Nat) : Below B a (w.drewN n) := ⟨h.os, h.tape, h.output, h.size, h.block⟩

/-- The variable f of a round: its block k is new; behind a call of the reader it holds what it held. -/
theorem round_own {W W1 : World} {p base k i : Nat} {e : TypeId} {size : Nat} {v u : Value} {n : Nat} {xs : List Value} {o : Obj} (h : W.ownsRow base e size v n xs) (hk : Kp p (W.alloc o) W1) (hp : p < base) (hK : k = W.heap.size) : (W1.setCell ⟨k, i, none⟩ u).ownsRow base e size v n xs := by
  refine owns_block h fun g hg => ?_
  have hl := World.ownsRow.lt h g hg
  rw [Below.heap_setCell _ _ _ _ (by show g ≠ k; omega), hk.block g (by simp; omega) (by simp; omega), Below.heap_alloc _ _ _ hl.2]
theorem Rp.setNew {W0 : World} {a : Option Addr} {len cap : Nat} {zs : List Int} {p i : Nat} {c : Int} {w : World} (h : Rp W0 a len cap zs p i c w) {k : Nat} (hk : p < k) (j : Nat) (v : Value) : Rp W0 a len cap zs p i c (w.setCell ⟨k, j, none⟩ v) :=
  ⟨h.three.of_block (Below.heap_setCell _ _ _ _ (by show p ≠ k; omega)) (by simp), h.row, h.old.setCell (by have := h.hp; show W0.heap.size ≤ k; omega) _, h.hp, h.le, h.max, h.cmax⟩
theorem Rp.grown {W0 : World} {a : Option Addr} {len cap : Nat} {zs : List Int} {p i : Nat} {c : Int} {w w' : World} {row : Option Nat} (h : Rp W0 a len cap zs p i c w) (hg : w.grownBy w' row) (hr : ∀ k, row = some k → p < k) : Rp W0 a len cap zs p i c w' :=
  ⟨h.three.of_block (hg.block p h.three.lt (fun e => by have := hr p e.symm; omega)) hg.size, h.row, h.old.grown hg h.old.size (fun k hk => by have := hr k hk; have := h.hp; omega), h.hp, h.le, h.max, h.cmax⟩

def RReadOut (w : World) (res : Except Int (List Fld × Nat)) (e : Ending) (w' : World) : Prop := ReadOut w res e w'

set_option maxHeartbeats 8000000 in
theorem rread_out (a : Option Addr) (len cap : Nat) (zs : List Int) (a2 : Option Addr) (len2 cap2 : Nat) (ks : List Int) (w : World) (R : Row .u8 w a len cap zs) (K : Row .i64 w a2 len2 cap2 ks)
    (hl : len ≤ 70368744170000) (hc : cap ≤ 9223372036854775807) (hl2 : len2 ≤ 1099511627776) (res : Except Int (List Fld × Nat)) (h : rd ks zs = res) :
    Calls Try.prog 23 #[.slice a len cap, .slice a2 len2 cap2] w (ReadOut w res) := by
  obtain ⟨i0, hi, hz0, hz1, hz2⟩ := info_parts info50
  have HK : Hid (Row .i64 w a2 len2 cap2 ks) := K
  have HR : Hid (Row .u8 w a len cap zs) := R
  have HH : Hid (rd ks zs = res) := h
  have HKL : Hid (ks.length = len2) := K.size
  clear R K h
  go_enter Try.func23, Try.ntmps23
  go_wp2
  go_loopg [8, 9] len2 (fun g v c wr => ∃ (j i : Nat) (cd : Int) (fs : List Fld), c = .int .i64 j ∧ j + g = len2 ∧ Rp w a len cap zs w.heap.size i cd wr ∧ wr.ownsRow (w.heap.size + 1) 50 4 v fs.length (fs.flatMap fcells) ∧ fs.length = j ∧ Hid (Left ks zs j fs i cd res))
  case atStart => exact ⟨0, 0, 0, [], rfl, by omega, ⟨Three.new _ _ _ _ _, HR.out, (Below.refl _ _).alloc (Nat.le_refl _) _, Nat.le_refl _, by omega, hl, hc⟩, World.ownsRow_nil _ _ _ _, rfl, .inl ⟨rfl, HH.out⟩⟩
  case round =>
    obtain ⟨j, i, cd, fs, rfl, hg, P, hown, hfl, HE⟩ := hrel
    have HG : Hid (j + gk = len2) := hg
    have hj : j ≤ len2 := by omega
    have f1 : fs.length ≤ j := by omega
    have f2 : j ≤ fs.length := by omega
    clear hg hfl
    obtain ⟨m0, m1, m2, n0, n1, n2, hz⟩ := id P.three
    by_cases hcd : cd = 0
    · subst hcd
      have HE' : Hid (rdF (ks.drop j) zs fs i = res) := by
        rcases HE.out with ⟨_, h⟩ | ⟨h, _⟩
        · exact h
        · exact absurd rfl h
      by_cases hlt : j < len2
      · obtain ⟨b2, o2, rfl, hb2, hc2⟩ := HK.out.mem.resolve_left (by omega)
        have hcell := (P.old.cell (p := ⟨b2, o2 + j, none⟩) hb2).trans (hc2 j hlt)
        have HD : Hid (ks.drop j = ks.getD j 0 :: ks.drop (j + 1)) := drop_cons (zs := ks) (k := j) (by have := HKL.out; omega)
        obtain ⟨k, hk⟩ : ∃ k, ks.getD j 0 = k := ⟨_, rfl⟩
        rw [hk] at hcell HD
        have hI : (j : Int) < (len2 : Int) := by omega
        clear hk hc2
        by_cases k1 : k = 1
        · subst k1
          go_wp2_with (first | (go_at_call 38; refine (rwhole_step w a len cap zs w.heap.size i _ (P.alloc _)).mono ?_; rintro e w1 ⟨x, i', c', rfl, hp1, hk1, hst⟩; have F1 := Four.kp (Four.new wr (.int .i64 1) (.int .i64 0) (.string ⟨#[]⟩) (.bool false) 50) hk1 (by omega); obtain ⟨q0, q1, q2, q3, g0, g1, g2, g3, gz⟩ := id F1; have own1 := round_own (i := 1) (u := .int .i64 x) hown hk1 (by omega) rfl; have hp2 := hp1.setNew (k := wr.heap.size) (by omega) 1 (.int .i64 x)) | (at_builtin; refine wpList_append_own _ rfl _ _ 31 rfl (w.heap.size + 1) 50 i0 _ 4 40 Try.underlying31 hi hz0 hz1 hz2 rfl (by decide) _ _ _ rfl (own1.alloc _) ⟨w1.heap.size, 0, none⟩ 1 1 (fcells ⟨1, x, ⟨#[]⟩, false⟩) rfl rfl (by simpa using new_cells (w1.setCell ⟨wr.heap.size, 1, none⟩ (.int .i64 x)) ⟨1, x, ⟨#[]⟩, false⟩ 50) (by simp [fcells, Value.oneCell']) (by unfold maxLen; omega) (by omega) (by have := hp1.three.lt; simp; omega) ?_))
          intro v' w2 own2 hg2 _
          have hp3 := (hp2.alloc _).grown hg2 (fun q e => by have := (World.ownsRow.lt hown q e).1; omega)
          have HL : Hid (Left ks zs (j + 1) (fs ++ [⟨1, x, ⟨#[]⟩, false⟩]) i' c' res) := Left.next HD.out HE'.out hst
          clear own1 hp1 hp2 hg2 hst
          go_wp2
          go_roundg (gk - 1)
          case measure => have := HG.out; omega
          case rel => exact ⟨j + 1, i', c', fs ++ [⟨1, x, ⟨#[]⟩, false⟩], by go_num, by have := HG.out; omega, hp3, by simpa using own2, by simp; omega, HL⟩
        · have e1 : (k == 1) = false := by simpa using k1
          by_cases k2 : k = 2
          · subst k2
            go_wp2_with (first | (go_at_call 39; refine (rint_step w a len cap zs w.heap.size i _ (P.alloc _)).mono ?_; rintro e w1 ⟨x, i', c', rfl, hp1, hk1, hst⟩; have F1 := Four.kp (Four.new wr (.int .i64 2) (.int .i64 0) (.string ⟨#[]⟩) (.bool false) 50) hk1 (by omega); obtain ⟨q0, q1, q2, q3, g0, g1, g2, g3, gz⟩ := id F1; have own1 := round_own (i := 1) (u := .int .i64 x) hown hk1 (by omega) rfl; have hp2 := hp1.setNew (k := wr.heap.size) (by omega) 1 (.int .i64 x)) | (at_builtin; refine wpList_append_own _ rfl _ _ 31 rfl (w.heap.size + 1) 50 i0 _ 4 40 Try.underlying31 hi hz0 hz1 hz2 rfl (by decide) _ _ _ rfl (own1.alloc _) ⟨w1.heap.size, 0, none⟩ 1 1 (fcells ⟨2, x, ⟨#[]⟩, false⟩) rfl rfl (by simpa using new_cells (w1.setCell ⟨wr.heap.size, 1, none⟩ (.int .i64 x)) ⟨2, x, ⟨#[]⟩, false⟩ 50) (by simp [fcells, Value.oneCell']) (by unfold maxLen; omega) (by omega) (by have := hp1.three.lt; simp; omega) ?_))
            intro v' w2 own2 hg2 _
            have hp3 := (hp2.alloc _).grown hg2 (fun q e => by have := (World.ownsRow.lt hown q e).1; omega)
            have HL : Hid (Left ks zs (j + 1) (fs ++ [⟨2, x, ⟨#[]⟩, false⟩]) i' c' res) := Left.next HD.out HE'.out hst
            clear own1 hp1 hp2 hg2 hst
            go_wp2
            go_roundg (gk - 1)
            case measure => have := HG.out; omega
            case rel => exact ⟨j + 1, i', c', fs ++ [⟨2, x, ⟨#[]⟩, false⟩], by go_num, by have := HG.out; omega, hp3, by simpa using own2, by simp; omega, HL⟩
          · have e2 : (k == 2) = false := by simpa using k2
            by_cases k3 : k = 3
            · subst k3
              go_wp2_with (first | (go_at_call 40; refine (rstr_step w a len cap zs w.heap.size i _ (P.alloc _)).mono ?_; rintro e w1 ⟨x, i', c', rfl, hp1, hk1, hst⟩; have F1 := Four.kp (Four.new wr (.int .i64 3) (.int .i64 0) (.string ⟨#[]⟩) (.bool false) 50) hk1 (by omega); obtain ⟨q0, q1, q2, q3, g0, g1, g2, g3, gz⟩ := id F1; have own1 := round_own (i := 2) (u := .string x) hown hk1 (by omega) rfl; have hp2 := hp1.setNew (k := wr.heap.size) (by omega) 2 (.string x)) | (at_builtin; refine wpList_append_own _ rfl _ _ 31 rfl (w.heap.size + 1) 50 i0 _ 4 40 Try.underlying31 hi hz0 hz1 hz2 rfl (by decide) _ _ _ rfl (own1.alloc _) ⟨w1.heap.size, 0, none⟩ 1 1 (fcells ⟨3, 0, x, false⟩) rfl rfl (by simpa using new_cells (w1.setCell ⟨wr.heap.size, 2, none⟩ (.string x)) ⟨3, 0, x, false⟩ 50) (by simp [fcells, Value.oneCell']) (by unfold maxLen; omega) (by omega) (by have := hp1.three.lt; simp; omega) ?_))
              intro v' w2 own2 hg2 _
              have hp3 := (hp2.alloc _).grown hg2 (fun q e => by have := (World.ownsRow.lt hown q e).1; omega)
              have HL : Hid (Left ks zs (j + 1) (fs ++ [⟨3, 0, x, false⟩]) i' c' res) := Left.next HD.out HE'.out hst
              clear own1 hp1 hp2 hg2 hst
              go_wp2
              go_roundg (gk - 1)
              case measure => have := HG.out; omega
              case rel => exact ⟨j + 1, i', c', fs ++ [⟨3, 0, x, false⟩], by go_num, by have := HG.out; omega, hp3, by simpa using own2, by simp; omega, HL⟩
            · have e3 : (k == 3) = false := by simpa using k3
              by_cases k4 : k = 4
              · subst k4
                go_wp2_with (first | (go_at_call 41; refine (rtruth_step w a len cap zs w.heap.size i _ (P.alloc _)).mono ?_; rintro e w1 ⟨x, i', c', rfl, hp1, hk1, hst⟩; have F1 := Four.kp (Four.new wr (.int .i64 4) (.int .i64 0) (.string ⟨#[]⟩) (.bool false) 50) hk1 (by omega); obtain ⟨q0, q1, q2, q3, g0, g1, g2, g3, gz⟩ := id F1; have own1 := round_own (i := 3) (u := .bool x) hown hk1 (by omega) rfl; have hp2 := hp1.setNew (k := wr.heap.size) (by omega) 3 (.bool x)) | (at_builtin; refine wpList_append_own _ rfl _ _ 31 rfl (w.heap.size + 1) 50 i0 _ 4 40 Try.underlying31 hi hz0 hz1 hz2 rfl (by decide) _ _ _ rfl (own1.alloc _) ⟨w1.heap.size, 0, none⟩ 1 1 (fcells ⟨4, 0, ⟨#[]⟩, x⟩) rfl rfl (by simpa using new_cells (w1.setCell ⟨wr.heap.size, 3, none⟩ (.bool x)) ⟨4, 0, ⟨#[]⟩, x⟩ 50) (by simp [fcells, Value.oneCell']) (by unfold maxLen; omega) (by omega) (by have := hp1.three.lt; simp; omega) ?_))
                intro v' w2 own2 hg2 _
                have hp3 := (hp2.alloc _).grown hg2 (fun q e => by have := (World.ownsRow.lt hown q e).1; omega)
                have HL : Hid (Left ks zs (j + 1) (fs ++ [⟨4, 0, ⟨#[]⟩, x⟩]) i' c' res) := Left.next HD.out HE'.out hst
                clear own1 hp1 hp2 hg2 hst
                go_wp2
                go_roundg (gk - 1)
                case measure => have := HG.out; omega
                case rel => exact ⟨j + 1, i', c', fs ++ [⟨4, 0, ⟨#[]⟩, x⟩], by go_num, by have := HG.out; omega, hp3, by simpa using own2, by simp; omega, HL⟩
              · have e4 : (k == 4) = false := by simpa using k4
                have hst : Step k zs i ⟨k, 0, ⟨#[]⟩, false⟩ i 46 := .inr ⟨by omega, by simp [fld, k1, k2, k3, k4]⟩
                have own1 : ((wr.setCell ⟨w.heap.size, 2, none⟩ (.int .i64 46)).alloc (.cells #[.int .i64 k, .int .i64 0, .string ⟨#[]⟩, .bool false] 50)).ownsRow (w.heap.size + 1) 50 4 u8 fs.length (fs.flatMap fcells) := World.ownsRow.alloc (ownsRow_setCell_below hown (by show w.heap.size < _; omega) _) _
                have hp2 := (P.fail 46).alloc (.cells #[.int .i64 k, .int .i64 0, .string ⟨#[]⟩, .bool false] 50)
                go_wp2_with (at_builtin; refine wpList_append_own _ rfl _ _ 31 rfl (w.heap.size + 1) 50 i0 _ 4 40 Try.underlying31 hi hz0 hz1 hz2 rfl (by decide) _ _ _ rfl (own1.alloc _) ⟨wr.heap.size + 1, 0, none⟩ 1 1 (fcells ⟨k, 0, ⟨#[]⟩, false⟩) rfl rfl (by simpa using new_cells ((wr.setCell ⟨w.heap.size, 2, none⟩ (.int .i64 46)).alloc (.cells #[.int .i64 k, .int .i64 0, .string ⟨#[]⟩, .bool false] 50)) ⟨k, 0, ⟨#[]⟩, false⟩ 50) (by simp [fcells, Value.oneCell']) (by unfold maxLen; omega) (by omega) (by simp; omega) ?_)
                intro v' w2 own2 hg2 _
                have hp3 := (hp2.alloc _).grown hg2 (fun q e => by have := (World.ownsRow.lt hown q e).1; omega)
                have HL : Hid (Left ks zs (j + 1) (fs ++ [⟨k, 0, ⟨#[]⟩, false⟩]) i 46 res) := Left.next HD.out HE'.out hst
                clear own1 hp2 hg2 hst
                go_wp2
                go_roundg (gk - 1)
                case measure => have := HG.out; omega
                case rel => exact ⟨j + 1, i, 46, fs ++ [⟨k, 0, ⟨#[]⟩, false⟩], by go_num, by have := HG.out; omega, hp3, by simpa using own2, by simp; omega, HL⟩
      · have E : res = .ok (fs, i) := by
          rw [← HE'.out, List.drop_eq_nil_of_le (by have := HKL.out; omega)]; rfl
        subst E
        have HO : Hid (wr.ownsRow (w.heap.size + 1) 50 4 u8 fs.length (fs.flatMap fcells)) := hown
        clear hown
        go_wp2
        go_quiet (fail)
        go_wp2
        go_ret3
        exact ⟨below_drewN' P.old _, _, rfl, owns_at (owns_drewN' HO.out _) (by omega)⟩
    · have E : res = .error cd := by
        rcases HE.out with ⟨h, _⟩ | ⟨_, h⟩
        · exact absurd h hcd
        · exact h
      subst E
      have e0 : (cd == 0) = false := by simpa using hcd
      have e1 : (cd != 0) = true := by simpa using hcd
      by_cases hlt : j < len2
      all_goals
        go_wp2
        go_quiet (fail)
        go_wp2
        go_ret3
        exact ⟨below_drewN' P.old _, rfl⟩

end Go.Proofs.Ytfgniilihdimgaa
