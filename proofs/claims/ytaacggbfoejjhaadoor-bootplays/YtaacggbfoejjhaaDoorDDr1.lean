/-
  The document's disk: Read and Write.
-/
import Derived.Test.YtaacggbfoejjhaaDoorDDr0
namespace Go.Proofs.YtaacggbfoejjhaaDoor.D
open Go.ChangeShapes Go.WideShapes Go.ChangeAt Go.RowKit
set_option linter.unusedVariables false
set_option linter.unusedSimpArgs false

theorem inS_no {S : DS} {x : Int} (h : inS S x = false) : x < 0 ∨ (0 ≤ x ∧ (S.n : Int) ≤ x) := by unfold inS at h; simp at h; omega
theorem inS_yes {S : DS} {x : Int} (h : inS S x = true) : ∃ i : Nat, x = (i : Int) ∧ i < S.n := by unfold inS at h; simp at h; exact ⟨x.toNat, by omega, by omega⟩
theorem inS_nat {S : DS} {i : Nat} (h : i < S.n) : inS S (i : Int) = true := by unfold inS; simp; omega
theorem sec_row {w : World} {r m : Nat} {S : DS} (D : DkR w r m S) {i : Nat} (hi : i < S.n) : Row .u8 w (some ⟨m, i * 16, none⟩) 16 (16 * S.n - i * 16) (sec S.bs i) where
  size := sec_len D.ok hi
  le := by omega
  nil := fun e => by cases e
  wf := fun z hz => u8_wf (sec_byt D.ok i z hz).1 (sec_byt D.ok i z hz).2
  mem := .inr ⟨m, i * 16, rfl, row_lt D.byt, fun k hk => by
    have hl := sec_len D.ok hi
    exact sec_at D.ok hi D.byt k _ (by rw [List.getElem?_map, List.getElem?_eq_getElem (by omega), List.getD_eq_getElem?_getD, List.getElem?_eq_getElem (by omega)]; rfl)⟩
set_option maxHeartbeats 1000000 in
theorem rwrite_dead (d l : Nat) (S : DS) (x : Int) (v : Value) (w : World) (D : DkR w d l S) (hg : S.gone = true) : Calls Tryd.prog 35 #[.pointer (some ⟨d, 0, none⟩), .int .i64 x, v] w fun e w' => e = .returned (.int .i64 32) ∧ Below w.heap.size w w' := by
  have c0 := D.cel.c0
  have c2 := D.cel.c2
  rw [hg] at c2
  go_enter Tryd.func35, Tryd.ntmps35
  go_wp2
  go_ret
  exact ⟨rfl, Below.refl _ _⟩
set_option maxHeartbeats 1000000 in
theorem rwrite_no (d l : Nat) (S : DS) (x : Int) (v : Value) (w : World) (D : DkR w d l S) (hg : S.gone = false) (h : inS S x = false) : Calls Tryd.prog 35 #[.pointer (some ⟨d, 0, none⟩), .int .i64 x, v] w fun e w' => e = .returned (.int .i64 31) ∧ Below w.heap.size w w' := by
  have c0 := D.cel.c0
  have c2 := D.cel.c2
  rw [hg] at c2
  rcases inS_no h with h1 | ⟨h1, h2⟩
  · go_enter Tryd.func35, Tryd.ntmps35
    go_wp2
    go_ret
    exact ⟨rfl, Below.refl _ _⟩
  · go_enter Tryd.func35, Tryd.ntmps35
    go_wp2_with (go_at_call 48; refine (rsectors_any d l S _ D).mono ?_; rintro e w1 ⟨rfl, rfl⟩)
    go_ret
    exact ⟨rfl, Below.refl _ _⟩
set_option maxHeartbeats 1000000 in
theorem rwrite_form (d l : Nat) (S : DS) (i : Nat) (a : Option Addr) (n c : Nat) (w : World) (D : DkR w d l S) (hg : S.gone = false) (hi : i < S.n) (hn : n ≠ 16) : Calls Tryd.prog 35 #[.pointer (some ⟨d, 0, none⟩), .int .i64 (i : Int), .slice a n c] w fun e w' => e = .returned (.int .i64 20) ∧ Below w.heap.size w w' := by
  have c0 := D.cel.c0
  have c2 := D.cel.c2
  rw [hg] at c2
  have hn' : ((n : Int) != 16) = true := by simp; omega
  have b7 : ¬ S.n ≤ i := by omega
  have b8 : ¬ (i : Int) < 0 := by omega
  go_enter Tryd.func35, Tryd.ntmps35
  go_wp2_with (go_at_call 48; refine (rsectors_any d l S _ D).mono ?_; rintro e w1 ⟨rfl, rfl⟩)
  go_ret
  exact ⟨rfl, Below.refl _ _⟩
set_option maxHeartbeats 1000000 in
theorem rwrite_cut (d l : Nat) (S : DS) (i : Nat) (a : Option Addr) (c : Nat) (w : World) (D : DkR w d l S) (hg : S.gone = false) (hi : i < S.n) (h0 : S.left = 0) : Calls Tryd.prog 35 #[.pointer (some ⟨d, 0, none⟩), .int .i64 (i : Int), .slice a 16 c] w fun e w' => e = .returned (.int .i64 32) ∧ DkR w' d l ⟨true, -1, false, S.n, S.bs, S.done⟩ ∧ Only (at1 d) w w' := by
  have c0 := D.cel.c0
  have c2 := D.cel.c2
  have c3 := D.cel.c3
  have c4 := D.cel.c4
  have f2 := D.free 2
  have f3 := D.free 3
  have f4 := D.free 4
  rw [hg] at c2
  rw [h0] at c3
  have b7 : ¬ S.n ≤ i := by omega
  have b8 : ¬ (i : Int) < 0 := by omega
  have HD : Hid (DkR w d l S) := D
  go_enter Tryd.func35, Tryd.ntmps35
  go_wp2_with (go_at_call 48; refine (rsectors_any d l S _ HD.out).mono ?_; rintro e w1 ⟨rfl, rfl⟩)
  go_ret
  have D := HD.out
  exact ⟨rfl, ⟨set_row (set_row (set_row D.obj 2 _) 3 _) 4 _, set_far (set_far (set_far D.byt D.ne.symm _ _) D.ne.symm _ _) D.ne.symm _ _, D.ne, ⟨D.ok.len, D.ok.lo, D.ok.hi, D.ok.byt, by simp, by simp, D.ok.dn0, D.ok.dn1⟩⟩, (((Only.refl _ _).set _ _).set _ _).set _ _⟩
theorem copyR {W : World} {l : Nat} {S : DS} {i : Nat} {ad : Addr} {c : Nat} {zs : List Int} (hl : W.heap[l]? = some (.cells (S.bs.map bv).toArray 5 (0, 0))) (hok : S.Ok) (hi : i < S.n) (R : Row .u8 W (some ad) 16 c zs) :
    (Builtin.copy_ #[22, 22] 3 #[.slice (some ⟨l, i * 16, none⟩) (16 * S.n - i * 16) (16 * S.n - i * 16), .slice (some ad) 16 c]).run Tryd.prog W = .ok (.int .i64 16) (W.setRow l ((splice S.bs (i * 16) zs).map bv).toArray) := by
  have hz := R.size
  have hlen := hok.len
  have h16 : (zs.map bv).length = 16 := by rw [List.length_map, hz]
  have := run_copy_row (P := Tryd.prog) W 22 22 3 5 l (i * 16) (16 * S.n - i * 16) (16 * S.n - i * 16) ad 16 c (S.bs.map bv).toArray 5 (zs.map bv) Tryd.underlying22 (by kernel_rfl) hl (by rw [h16]; exact (Nat.min_eq_left (by omega)).symm) R.cells (by rw [h16]; simp; omega) (bv_one _)
  rw [this]
  have e : ((S.bs.map bv).toArray.toList.take (i * 16) ++ zs.map bv ++ (S.bs.map bv).toArray.toList.drop (i * 16 + (zs.map bv).length)).toArray = ((splice S.bs (i * 16) zs).map bv).toArray := by simp [splice]
  rw [e, h16]
  rfl
theorem DkR.setList {W : World} {d l : Nat} {S : DS} (D : DkR W d l S) (bs : List Int) (hok : DS.Ok { S with bs := bs }) : DkR (W.setRow l (bs.map bv).toArray) d l { S with bs := bs } :=
  ⟨(setRow_other _ _ _ _ D.ne).trans D.obj, setRow_heap _ _ _ _ _ _ D.byt, D.ne, hok⟩
theorem DS.Ok.left {S : DS} (h : S.Ok) {y : Int} (h0 : -1 ≤ y) (h1 : y ≤ 9223372036854775807) : DS.Ok { S with left := y } := ⟨h.len, h.lo, h.hi, h.byt, h0, h1, h.dn0, h.dn1⟩
theorem DS.Ok.bytes {S : DS} (h : S.Ok) {i : Nat} (hi : i < S.n) {zs : List Int} (hz : zs.length = 16) (hb : Byt zs) : DS.Ok { S with bs := splice S.bs (i * 16) zs } :=
  ⟨by show (splice S.bs (i * 16) zs).length = 16 * S.n; rw [length_splice _ _ _ (by rw [hz, h.len]; omega), h.len], h.lo, h.hi, splice_byt _ h.byt hb, h.left0, h.left1, h.dn0, h.dn1⟩
set_option maxRecDepth 100000 in
set_option maxHeartbeats 4000000 in
theorem rwrite_ok (d l : Nat) (S : DS) (i : Nat) (b off : Nat) (c : Nat) (zs : List Int) (w : World) (D : DkR w d l S) (hg : S.gone = false) (hi : i < S.n) (h0 : S.left ≠ 0) (R : Row .u8 w (some ⟨b, off, none⟩) 16 c zs) (hbd : b ≠ d) : Calls Tryd.prog 35 #[.pointer (some ⟨d, 0, none⟩), .int .i64 (i : Int), .slice (some ⟨b, off, none⟩) 16 c] w fun e w' => e = .returned (.int .i64 0) ∧ DkR w' d l (S.put i zs) ∧ Only (at2 d l) w w' := by
  have c0 := D.cel.c0
  have c1 := D.cel.c1
  have c2 := D.cel.c2
  have c3 := D.cel.c3
  have f3 := D.free 3
  rw [hg] at c2
  have hn := D.ok.hi
  have hiI : (i : Int) < (S.n : Int) := by omega
  have b1 : (i : Int) * 16 ≤ 16 * (S.n : Int) := by omega
  have b3 : (0 : Int) ≤ (i : Int) * 16 := by omega
  have b4 : ¬ (16 * S.n = i * 16) := by omega
  have b5 : ((i : Int) * 16).toNat = i * 16 := by omega
  have b7 : ¬ S.n ≤ i := by omega
  have b8 : ¬ (i : Int) < 0 := by omega
  have hl' : (S.left == 0) = false := by simp [h0]
  have hz := R.size
  have hzb := R.byte
  have HD : Hid (DkR w d l S) := D
  have hbl := D.ok.bytes hi hz hzb
  have l0 := D.ok.left0
  have l1 := D.ok.left1
  by_cases h2 : 0 < S.left
  · have D1 : DkR (w.setCell ⟨d, 3, none⟩ (.int .i64 (S.left - 1))) d l { S with left := S.left - 1 } := ⟨set_row D.obj 3 _, set_far D.byt D.ne.symm _ _, D.ne, D.ok.left (by omega) (by omega)⟩
    have R1 : Row .u8 (w.setCell ⟨d, 3, none⟩ (.int .i64 (S.left - 1))) (some ⟨b, off, none⟩) 16 c zs := R.of_block (by simp [World.setCell]) (fun b' o e hb => Below.heap_setCell _ _ _ _ (by cases e; exact hbd))
    have hcp := copyR (S := S) D1.byt D.ok hi R1
    have D2 := D1.setList (splice S.bs (i * 16) zs) ((D.ok.left (y := S.left - 1) (by omega) (by omega)).bytes hi hz hzb)
    have o2 : Only (at2 d l) w ((w.setCell ⟨d, 3, none⟩ (.int .i64 (S.left - 1))).setRow l ((splice S.bs (i * 16) zs).map bv).toArray) := (((Only.refl _ _).set _ _).two l).setRow (fun _ => Or.inr rfl) _
    obtain ⟨W2, hW2⟩ : ∃ W2, (w.setCell ⟨d, 3, none⟩ (.int .i64 (S.left - 1))).setRow l ((splice S.bs (i * 16) zs).map bv).toArray = W2 := ⟨_, rfl⟩
    rw [hW2] at hcp D2 o2
    clear hW2 R1 D1
    have c5 := D2.cel.c5
    have f5 := D2.free 5
    go_enter Tryd.func35, Tryd.ntmps35
    go_wp2_with (go_at_call 48; refine (rsectors_any d l S _ HD.out).mono ?_; rintro e w1 ⟨rfl, rfl⟩)
    go_ret
    refine ⟨rfl, ⟨?_, ?_, D.ne, D.ok.put hi hz hzb⟩, o2.setCell (fun _ => Or.inl rfl) _ _⟩
    · have e : (S.put i zs).left = S.left - 1 := by simp only [DS.put]; rw [if_pos h2]
      have := set_row D2.obj 5 (.int .i64 (wrap64 (S.done + 1)))
      rw [e]
      exact this
    · exact set_far D2.byt D.ne.symm _ _
  · have hcp := copyR (S := S) D.byt D.ok hi R
    have D2 := D.setList (splice S.bs (i * 16) zs) hbl
    have o2 : Only (at2 d l) w (w.setRow l ((splice S.bs (i * 16) zs).map bv).toArray) := (Only.refl _ _).setRow (fun _ => Or.inr rfl) _
    obtain ⟨W2, hW2⟩ : ∃ W2, w.setRow l ((splice S.bs (i * 16) zs).map bv).toArray = W2 := ⟨_, rfl⟩
    rw [hW2] at hcp D2 o2
    clear hW2
    have c5 := D2.cel.c5
    have f5 := D2.free 5
    go_enter Tryd.func35, Tryd.ntmps35
    go_wp2_with (go_at_call 48; refine (rsectors_any d l S _ HD.out).mono ?_; rintro e w1 ⟨rfl, rfl⟩)
    go_ret
    refine ⟨rfl, ⟨?_, ?_, D.ne, D.ok.put hi hz hzb⟩, o2.setCell (fun _ => Or.inl rfl) _ _⟩
    · have e : (S.put i zs).left = S.left := by simp only [DS.put]; rw [if_neg (by omega)]
      have := set_row D2.obj 5 (.int .i64 (wrap64 (S.done + 1)))
      rw [e]
      exact this
    · exact set_far D2.byt D.ne.symm _ _
end Go.Proofs.YtaacggbfoejjhaaDoor.D
