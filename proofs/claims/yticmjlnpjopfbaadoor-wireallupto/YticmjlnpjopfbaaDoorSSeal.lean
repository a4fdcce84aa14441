/-
  What Seal, the document's own Seal and copied return.
-/
import Derived.Test.YticmjlnpjopfbaaDoorSOpen
namespace Go.Proofs.YticmjlnpjopfbaaDoor.S
open Go.ChangeShapes Go.WideShapes Go.ChangeAt Go.RowKit
set_option linter.unusedVariables false

theorem Own.some {base : Nat} {w : World} {v : Value} {zs : List Int} (h : Own base w v zs) (hz : zs ≠ []) : ∃ g cap, v = .slice (some ⟨g, 0, none⟩) zs.length cap ∧ base ≤ g ∧ g < w.heap.size ∧ zs.length ≤ cap ∧ cap ≤ 9223372036854775807 := by
  have h0 : w.ownsRow base 5 1 v zs.length (zs.map bv) := h
  rcases h0.2 with ⟨rfl, hn⟩ | ⟨g, cap, cur, rfl, hg, hh, hn, hc, hcs, ht⟩
  · exact absurd (by simpa using hn) hz
  · unfold maxLen at hc
    exact ⟨g, cap, rfl, hg, (Array.getElem?_eq_some_iff.1 hh).1, hn, by omega⟩
theorem Own.cap {base : Nat} {w : World} {zs : List Int} {a : Option Addr} {n cap : Nat} (h : Own base w (.slice a n cap) zs) : n = zs.length ∧ n ≤ cap ∧ cap ≤ 9223372036854775807 := by
  have h0 : w.ownsRow base 5 1 (.slice a n cap) zs.length (zs.map bv) := h
  rcases h0.2 with ⟨e, hn⟩ | ⟨g, cap, cur, e, hg, hh, hn, hc, hcs, ht⟩
  · cases e
    omega
  · cases e
    unfold maxLen at hc
    omega
theorem row_lit2 (w : World) (x y : Int) (hx : 0 ≤ x ∧ x < 256) (hy : 0 ≤ y ∧ y < 256) : Row .u8 (w.alloc (.cells #[bv x, bv y] 5)) (some ⟨w.heap.size, 0, none⟩) 2 2 [x, y] where
  size := rfl
  le := Nat.le_refl _
  nil := fun h => by cases h
  wf := by
    intro z hz
    simp at hz
    rcases hz with rfl | rfl
    · exact u8_wf hx.1 hx.2
    · exact u8_wf hy.1 hy.2
  mem := by
    refine .inr ⟨_, 0, rfl, by simp, fun k hk => ?_⟩
    match k with
    | 0 => simp
    | 1 => simp
    | _ + 2 => omega
theorem row_lit4 (w : World) (x y z u : Int) (hx : 0 ≤ x ∧ x < 256) (hy : 0 ≤ y ∧ y < 256) (hz : 0 ≤ z ∧ z < 256) (hu : 0 ≤ u ∧ u < 256) : Row .u8 (w.alloc (.cells #[bv x, bv y, bv z, bv u] 5)) (some ⟨w.heap.size, 0, none⟩) 4 4 [x, y, z, u] where
  size := rfl
  le := Nat.le_refl _
  nil := fun h => by cases h
  wf := by
    intro t ht
    simp at ht
    rcases ht with rfl | rfl | rfl | rfl
    · exact u8_wf hx.1 hx.2
    · exact u8_wf hy.1 hy.2
    · exact u8_wf hz.1 hz.2
    · exact u8_wf hu.1 hu.2
  mem := by
    refine .inr ⟨_, 0, rfl, by simp, fun k hk => ?_⟩
    match k with
    | 0 => simp
    | 1 => simp
    | 2 => simp
    | 3 => simp
    | _ + 4 => omega
theorem le4_int (s : Nat) (h : s < 4294967296) : le4 s = [(s : Int) % 256, (s : Int) / 256 % 256, (s : Int) / 65536 % 256, (s : Int) / 16777216] := by
  unfold le4
  simp only [List.cons.injEq, and_true]
  omega
theorem byt_app {l m : List Int} (h : Byt l) (h' : Byt m) : Byt (l ++ m) := fun c hc => (List.mem_append.1 hc).elim (h c) (h' c)
theorem byt_le4 (s : Nat) : Byt (le4 s) := by
  intro c hc
  unfold le4 at hc
  simp only [List.mem_cons, List.not_mem_nil, or_false] at hc
  omega
theorem byt_frm {l : List Int} (h : Byt l) (hl : l.length ≤ 65535) : Byt (frm l) := by
  intro c hc
  unfold frm summed inner at hc
  simp only [List.mem_cons, List.mem_append] at hc
  rcases hc with rfl | rfl | (rfl | rfl | hc) | hc
  · omega
  · omega
  · omega
  · omega
  · exact h c hc
  · exact byt_le4 _ c hc
theorem str_mark : Lib.strCells ⟨#[237, 91]⟩ = [bv 237, bv 91] := rfl

/-- What Seal hands back. -/
def SealOut (base : Nat) (w : World) (zs : List Int) (e : Ending) : Prop :=
  if 65535 < zs.length then e = .returned (.tuple #[.slice none 0 0, .int .i64 23]) else ∃ v, e = .returned (.tuple #[v, .int .i64 0]) ∧ Own base w v (frm zs)

set_option maxRecDepth 100000 in
set_option maxHeartbeats 4000000 in
theorem seal_any (a : Option Addr) (len cap : Nat) (zs : List Int) (w : World) (R : Row .u8 w a len cap zs) (ht : Tab w) (hl : len ≤ 9223372036854775807) :
    Calls Tryd.prog 35 #[.slice a len cap] w fun e w' => SealOut w.heap.size w' zs e ∧ Below w.heap.size w w' := by
  obtain ⟨i0, hi, hz0, hz1, hz2⟩ := info_parts info5
  have hsz := R.size
  unfold SealOut
  by_cases hL : 65535 < zs.length
  · simp only [if_pos hL]
    have : 65535 < len := by omega
    go_enter Tryd.func35, Tryd.ntmps35
    go_wp2
    go_ret2
    exact ⟨rfl, Below.refl _ _⟩
  · simp only [if_neg hL]
    have hlen : len ≤ 65535 := by omega
    go_enter Tryd.func35, Tryd.ntmps35
    go_wp2_with (at_make; refine wpList_make_own _ rfl _ _ 27 rfl w.heap.size 5 i0 (.int .u8 0) 1 Tryd.underlying27 hi hz0 hz1 .i64 .i64 _ (4 + len + 4) rfl rfl (by omega) (by rw [hz2]; omega) (by unfold maxLen; omega) (Nat.le_refl _) ?_)
    intro w1 hown1 hg1
    have B1 : Below w.heap.size w w1 := (Below.refl _ _).grown hg1 (Nat.le_refl _) (fun k hk => by cases hk)
    clear hg1
    go_wp2_with (at_builtin; refine Lib.wpList_append_own_string _ rfl _ _ 27 9 rfl w.heap.size 5 i0 Tryd.underlying27 Tryd.underlying9 hi hz0 hz1 hz2 _ _ _ rfl hown1 ⟨#[237, 91]⟩ rfl (by unfold maxLen; decide) (by decide) B1.size ?_)
    intro v2 w2 hown2 hg2 _
    have B2 : Below w.heap.size w w2 := B1.grown hg2 B1.size (fun k hk => by cases hk; exact Nat.le_refl _)
    have O2 : Own w.heap.size w2 v2 [237, 91] := hown2
    clear hg2 hown1 hown2
    have q1 : 0 ≤ (len : Int) % 256 ∧ (len : Int) % 256 < 256 := by omega
    have q2 : 0 ≤ (len : Int) / 256 % 256 ∧ (len : Int) / 256 % 256 < 256 := by omega
    have q2e : (len : Int) / 256 % 256 = (len : Int) / 256 := by omega
    rw [q2e] at q2
    have O2' := O2.alloc (.cells #[bv ((len : Int) % 256), bv ((len : Int) / 256)] 5)
    go_wp2_with (at_builtin; refine wpList_append_row _ rfl _ _ rfl w.heap.size _ _ rfl O2' _ _ _ _ rfl (row_lit2 w2 _ _ q1 q2) (by have := B2.size; simp; omega) (by simp) ?_)
    intro v3 w3 O3 B3
    replace B3 : Below w.heap.size w w3 := (B2.alloc B2.size _).trans B3
    have R3 := R.below B3
    clear O2 O2'
    go_wp2_with (at_builtin; refine wpList_append_row _ rfl _ _ rfl w.heap.size _ _ rfl O3 _ _ _ _ rfl R3 B3.size (by simp; omega) ?_)
    intro v4 w4 O4 B4
    replace B4 : Below w.heap.size w w4 := B3.trans B4
    have T4 := ht.below B4
    have HI : Hid (237 :: 91 :: ((len : Int) % 256) :: ((len : Int) / 256) :: zs = 237 :: 91 :: inner zs) := by
      show _ = _
      unfold inner
      rw [hsz]
      simp
    rw [HI.out] at O4
    have hby : Byt (237 :: 91 :: inner zs) := by
      rw [← HI.out]
      exact byt_app (l := [237, 91, (len : Int) % 256, (len : Int) / 256]) (by intro c hc; simp at hc; omega) R.byte
    have il : (237 :: 91 :: inner zs).length = len + 4 := by rw [← HI.out]; simp; omega
    obtain ⟨g4, c4, rfl, hg4, hg4', hn4, hc4⟩ := O4.some (by simp)
    obtain ⟨a4, k4, hv4, R4⟩ := O4.row hby
    cases hv4
    rw [il] at R4 hn4
    have P4 := R4.part 2 (len + 4) (by omega) (by omega)
    have hA : (⟨g4, 0, none⟩ : Addr).add 2 = ⟨g4, 0 + 2, none⟩ := rfl
    have e3 : len + 4 - 2 = len + 2 := by omega
    have e4 : ((237 :: 91 :: inner zs).drop 2).take (len + 2) = inner zs := by
      show (inner zs).take (len + 2) = inner zs
      exact List.take_of_length_le (by simp at il; omega)
    rw [hA, e3, e4] at P4
    have KU := sum_any _ _ _ _ w4 P4 T4 (by omega)
    have hs4 := sumB_lt (inner zs)
    have HF : Hid (frm zs = (237 :: 91 :: inner zs) ++ le4 (sumB (inner zs))) := rfl
    obtain ⟨s, hs⟩ : ∃ s, sumB (inner zs) = s := ⟨_, rfl⟩
    rw [hs] at KU hs4 HF
    rw [le4_int _ hs4] at HF
    clear hs
    rw [il] at O4 ⊢
    have O4' := O4.alloc (.cells #[bv ((s : Int) % 256), bv ((s : Int) / 256 % 256), bv ((s : Int) / 65536 % 256), bv ((s : Int) / 16777216)] 5)
    have L4 := row_lit4 w4 ((s : Int) % 256) ((s : Int) / 256 % 256) ((s : Int) / 65536 % 256) ((s : Int) / 16777216) (by omega) (by omega) (by omega) (by omega)
    have l5 : (237 :: 91 :: inner zs).length + 4 ≤ 140737488355328 := by rw [il]; omega
    have b5 : w.heap.size ≤ (w4.alloc (.cells #[bv ((s : Int) % 256), bv ((s : Int) / 256 % 256), bv ((s : Int) / 65536 % 256), bv ((s : Int) / 16777216)] 5)).heap.size := by have := B4.size; simp; omega
    clear il e4
    go_wp2_with (first
      | (go_at_call 56; refine KU.mono ?_; rintro e w' ⟨rfl, hw⟩; rw [hw]; clear hw w')
      | (at_builtin; refine wpList_append_row _ rfl _ _ rfl w.heap.size _ _ rfl O4' _ _ _ _ rfl L4 b5 l5 ?_; intro v5 w5 O5 B5))
    go_ret2
    rw [HF.out]
    exact ⟨⟨_, rfl, O5⟩, (B4.alloc B4.size _).trans B5⟩

theorem row_own4 (w : World) (x y z u : Int) : Own w.heap.size (w.alloc (.cells #[bv x, bv y, bv z, bv u] 5)) (.slice (some ⟨w.heap.size, 0, none⟩) 4 4) [x, y, z, u] :=
  ⟨rfl, .inr ⟨w.heap.size, 4, #[bv x, bv y, bv z, bv u], rfl, Nat.le_refl _, heap_new _ _, Nat.le_refl _, by unfold maxLen; decide, rfl, rfl⟩⟩

set_option maxRecDepth 100000 in
set_option maxHeartbeats 4000000 in
theorem rseal_any (a : Option Addr) (len cap : Nat) (zs : List Int) (w : World) (R : Row .u8 w a len cap zs) (hl : len ≤ 9223372036854775807) :
    Calls Tryd.prog 23 #[.slice a len cap] w fun e w' => SealOut w.heap.size w' zs e ∧ Below w.heap.size w w' := by
  obtain ⟨i0, hi, hz0, hz1, hz2⟩ := info_parts info5
  have hsz := R.size
  unfold SealOut
  by_cases hL : 65535 < zs.length
  · simp only [if_pos hL]
    have : 65535 < len := by omega
    go_enter Tryd.func23, Tryd.ntmps23
    go_wp2
    go_ret2
    exact ⟨rfl, Below.refl _ _⟩
  · simp only [if_neg hL]
    have hlen : len ≤ 65535 := by omega
    have O3 := row_own4 w 237 91 ((len : Int) % 256) ((len : Int) / 256)
    have B3 : Below w.heap.size w (w.alloc (.cells #[bv 237, bv 91, bv ((len : Int) % 256), bv ((len : Int) / 256)] 5)) := (Below.refl _ _).alloc (Nat.le_refl _) _
    have R3 := R.below B3
    have b3 := B3.size
    have l3 : [237, 91, (len : Int) % 256, (len : Int) / 256].length + len ≤ 140737488355328 := by simp; omega
    go_enter Tryd.func23, Tryd.ntmps23
    go_wp2_with (at_builtin; refine wpList_append_row _ rfl _ _ rfl w.heap.size _ _ rfl O3 _ _ _ _ rfl R3 b3 l3 ?_)
    intro v4 w4 O4 B4
    replace B4 : Below w.heap.size w w4 := B3.trans B4
    have HI : Hid (237 :: 91 :: ((len : Int) % 256) :: ((len : Int) / 256) :: zs = 237 :: 91 :: inner zs) := by
      show _ = _
      unfold inner
      rw [hsz]
      simp
    replace O4 : Own w.heap.size w4 v4 (237 :: 91 :: ((len : Int) % 256) :: ((len : Int) / 256) :: zs) := O4
    rw [HI.out] at O4
    have hby : Byt (237 :: 91 :: inner zs) := by
      rw [← HI.out]
      exact byt_app (l := [237, 91, (len : Int) % 256, (len : Int) / 256]) (by intro c hc; simp at hc; omega) R.byte
    have il : (237 :: 91 :: inner zs).length = len + 4 := by rw [← HI.out]; simp; omega
    obtain ⟨g4, c4, rfl, hg4, hg4', hn4, hc4⟩ := O4.some (by simp)
    obtain ⟨a4, k4, hv4, R4⟩ := O4.row hby
    cases hv4
    rw [il] at R4 hn4
    have P4 := R4.part 2 (len + 4) (by omega) (by omega)
    have hA : (⟨g4, 0, none⟩ : Addr).add 2 = ⟨g4, 0 + 2, none⟩ := rfl
    have e3 : len + 4 - 2 = len + 2 := by omega
    have e4 : ((237 :: 91 :: inner zs).drop 2).take (len + 2) = inner zs := by
      show (inner zs).take (len + 2) = inner zs
      exact List.take_of_length_le (by simp at il; omega)
    rw [hA, e3, e4] at P4
    have KU := rsum_any _ _ _ _ w4 P4 (by omega)
    have hs4 := sumB_lt (inner zs)
    have HF : Hid (frm zs = (237 :: 91 :: inner zs) ++ le4 (sumB (inner zs))) := rfl
    obtain ⟨s, hs⟩ : ∃ s, sumB (inner zs) = s := ⟨_, rfl⟩
    rw [hs] at KU hs4 HF
    rw [le4_int _ hs4] at HF
    clear hs O3 R3
    rw [il] at O4 ⊢
    have O4' := O4.alloc (.cells #[bv ((s : Int) % 256), bv ((s : Int) / 256 % 256), bv ((s : Int) / 65536 % 256), bv ((s : Int) / 16777216)] 5)
    have L4 := row_lit4 w4 ((s : Int) % 256) ((s : Int) / 256 % 256) ((s : Int) / 65536 % 256) ((s : Int) / 16777216) (by omega) (by omega) (by omega) (by omega)
    have l5 : (237 :: 91 :: inner zs).length + 4 ≤ 140737488355328 := by rw [il]; omega
    have b5 : w.heap.size ≤ (w4.alloc (.cells #[bv ((s : Int) % 256), bv ((s : Int) / 256 % 256), bv ((s : Int) / 65536 % 256), bv ((s : Int) / 16777216)] 5)).heap.size := by have := B4.size; simp; omega
    clear il e4
    go_wp2_with (first
      | (go_at_call 50; refine KU.mono ?_; rintro e w' ⟨rfl, hw⟩; rw [hw]; clear hw w')
      | (at_builtin; refine wpList_append_row _ rfl _ _ rfl w.heap.size _ _ rfl O4' _ _ _ _ rfl L4 b5 l5 ?_; intro v5 w5 O5 B5))
    go_ret2
    rw [HF.out]
    exact ⟨⟨_, rfl, O5⟩, (B4.alloc B4.size _).trans B5⟩

end Go.Proofs.YticmjlnpjopfbaaDoor.S
