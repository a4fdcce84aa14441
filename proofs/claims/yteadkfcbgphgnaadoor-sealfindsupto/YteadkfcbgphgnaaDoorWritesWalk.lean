/-
  The law SealWrites, walked.
-/
import Derived.Test.YteadkfcbgphgnaaDoorBackWalk
namespace Go.Proofs.YteadkfcbgphgnaaDoor
open Go.ChangeShapes Go.WideShapes Go.ChangeAt Go.RowKit
set_option linter.unusedVariables false

theorem sum_self (x : Nat) : ((x : Int) != (x : Int)) = false := by simp
theorem own_frozen {base : Nat} {w : World} {g len cap : Nat} {zs : List Int} (h : Own base w (.slice (some ⟨g, 0, none⟩) len cap) zs) (k : Nat) : w.frozen? ⟨g, k, none⟩ = false := by
  have h0 : w.ownsRow base 5 1 (.slice (some ⟨g, 0, none⟩) len cap) zs.length (zs.map bv) := h
  rcases h0.2 with ⟨e, _⟩ | ⟨g', cap', cur, e, hg, hh, _⟩
  · cases e
  · cases e
    unfold World.frozen?
    rw [hh]
    simp

/-- What stays while a copy of one's own is written over: all but its block. -/
structure Over (g n : Nat) (A W : World) : Prop where
  size : W.heap.size = A.heap.size
  os : W.os = A.os
  tape : W.tape = A.tape
  output : W.output = A.output
  block : ∀ b, b ≠ g → W.heap[b]? = A.heap[b]?
  cell : ∀ k, k < n → ∃ v, W.cell? ⟨g, k, none⟩ = some v
  free : ∀ k, k < n → W.frozen? ⟨g, k, none⟩ = false
theorem Over.set {g n : Nat} {A W : World} (h : Over g n A W) (k : Nat) (v : Value) : Over g n A (W.setCell ⟨g, k, none⟩ v) where
  size := by rw [← h.size]; simp [World.setCell]
  os := h.os
  tape := h.tape
  output := h.output
  block := fun b hb => (Below.heap_setCell _ _ _ _ hb).trans (h.block b hb)
  cell := fun j hj => by
    obtain ⟨u, hu⟩ := h.cell j hj
    by_cases e : j = k
    · subst e
      exact ⟨v, World.cell?_setCell_same _ _ _ hu⟩
    · exact ⟨u, (World.cell?_setCell_other _ _ _ _ (by intro e'; apply e; cases e'; rfl)).trans hu⟩
  free := fun j hj => by simpa using h.free j hj
theorem Over.below {g n : Nat} {w A W : World} (h : Over g n A W) (hb : Below w.heap.size w A) (hg : w.heap.size ≤ g) : Below w.heap.size w W :=
  ⟨h.os.trans hb.os, h.tape.trans hb.tape, h.output.trans hb.output, by rw [h.size]; exact hb.size, fun k hk => (h.block k (by omega)).trans (hb.block k hk)⟩
theorem Over.row {g n : Nat} {A W : World} (h : Over g n A W) {a : Option Addr} {len cap : Nat} {zs : List Int} (R : Row .u8 A a len cap zs) (hne : ∀ b off, a = some ⟨b, off, none⟩ → 0 < len → b ≠ g) : Row .u8 W a len cap zs where
  size := R.size
  le := R.le
  nil := R.nil
  wf := R.wf
  mem := by
    rcases R.mem with h0 | ⟨b, off, e, hb, hc⟩
    · exact .inl h0
    · by_cases h0 : len = 0
      · exact .inl h0
      · refine .inr ⟨b, off, e, by rw [h.size]; exact hb, fun k hk => ?_⟩
        exact (World.cell?_of_block (w := A) (a := ⟨b, off + k, none⟩) (h.block b (hne b off e (by omega)))).trans (hc k hk)

set_option maxRecDepth 100000 in
set_option maxHeartbeats 4000000 in
theorem writes_walk (a : Option Addr) (len cap : Nat) (zs : List Int) (w : World) (R : Row .u8 w a len cap zs) (ht : Tab w) (hl : len ≤ 140737488355328) :
    Calls Tryd.prog 3 #[.slice a len cap] w fun e w' => e = .returned (.bool true) ∧ Below w.heap.size w w' := by
  have hsz := R.size
  have K1 := copied_any _ _ _ _ w R hl
  go_enter Tryd.func3, Tryd.ntmps3
  go_wp2_with fail
  refine K1.mono ?_
  rintro e w1 ⟨v1, rfl, o1, b1⟩
  have hfr1 := o1
  obtain ⟨a1, c1, rfl, F1, hc1, hg1⟩ := own_row_len o1 R.byte hsz
  have hw1 : ∀ g, a1 = some ⟨g, 0, none⟩ → g < w1.heap.size := fun g e => by subst e; exact (World.ownsRow.lt o1 g rfl).2
  have K2 := seal_any _ _ _ _ w1 F1 (ht.below b1) (by omega)
  clear K1
  go_wp2_with fail
  refine K2.mono ?_
  rintro e w2 ⟨so, b2⟩
  have bw2 : Below w.heap.size w w2 := b1.trans (b2.mono b1.size)
  have K3 := rseal_any _ _ _ _ w2 (R.below bw2) (by omega)
  clear K2
  obtain ⟨v2, k2, rfl, hv2⟩ : ∃ v2 k2, e = .returned (.tuple #[v2, .int .i64 k2]) ∧ ((65535 < zs.length ∧ v2 = .slice none 0 0 ∧ k2 = 23) ∨ (¬ 65535 < zs.length ∧ Own w1.heap.size w2 v2 (frm zs) ∧ k2 = 0)) := by
    unfold SealOut at so
    by_cases h : 65535 < zs.length
    · rw [if_pos h] at so; exact ⟨_, _, so, .inl ⟨h, rfl, rfl⟩⟩
    · rw [if_neg h] at so
      obtain ⟨v, h1, h2⟩ := so
      exact ⟨_, _, h1, .inr ⟨h, h2, rfl⟩⟩
  clear so
  go_wp2_with fail
  refine K3.mono ?_
  rintro e w3 ⟨so, b3⟩
  have bw3 : Below w.heap.size w w3 := bw2.trans (b3.mono bw2.size)
  obtain ⟨ys, a2, n2, c2, a3, n3, c3, rfl, rfl, S2, S3, hgs⟩ : ∃ (ys : List Int) (a2 : Option Addr) (n2 c2 : Nat) (a3 : Option Addr) (n3 c3 : Nat), v2 = .slice a2 n2 c2 ∧ e = .returned (.tuple #[.slice a3 n3 c3, .int .i64 k2]) ∧ Row .u8 w3 a2 n2 c2 ys ∧ Row .u8 w3 a3 n3 c3 ys ∧
      (∀ b off, (a2 = some ⟨b, off, none⟩ ∧ 0 < n2) ∨ (a3 = some ⟨b, off, none⟩ ∧ 0 < n3) → w1.heap.size ≤ b) := by
    unfold SealOut at so
    rcases hv2 with ⟨h, rfl, rfl⟩ | ⟨h, h2, rfl⟩
    · rw [if_pos h] at so
      exact ⟨[], none, 0, 0, none, 0, 0, rfl, so, row_nil _ _, row_nil _ _, fun b off h => by rcases h with ⟨h, _⟩ | ⟨h, _⟩ <;> cases h⟩
    · rw [if_neg h] at so
      obtain ⟨v3, h1, h3⟩ := so
      have hfb := byt_frm R.byte (by omega)
      obtain ⟨a2, c2, rfl, S2, _, g2⟩ := own_row_len h2 hfb rfl
      obtain ⟨a3, c3, rfl, S3, _, g3⟩ := own_row_len h3 hfb rfl
      refine ⟨frm zs, a2, _, c2, a3, _, c3, rfl, h1, S2.below b3, S3, fun b off h => ?_⟩
      rcases h with ⟨h, hp⟩ | ⟨h, hp⟩
      · obtain ⟨g, e, hg⟩ := g2 hp
        rw [h] at e
        cases e
        exact hg
      · obtain ⟨g, e, hg⟩ := g3 hp
        rw [h] at e
        cases e
        have := b2.size
        omega
  clear so hv2 K3
  have b13 : Below w1.heap.size w1 w3 := b2.trans (b3.mono b2.size)
  have F3 := F1.below b13
  have R3 := R.below bw3
  have T3 := ht.below bw3
  have KU := sum_any _ _ _ _ w3 F3 T3 (by omega)
  have KR := rsum_any _ _ _ _ w3 R3 (by omega)
  have vf := conv_row S2
  have vg := conv_row S3
  have vo := conv_row F3
  have vb := conv_row R3
  obtain ⟨s, hs⟩ : ∃ s, strOfNums ys = s := ⟨_, rfl⟩
  rw [hs] at vf vg
  obtain ⟨t, ht'⟩ : ∃ t, strOfNums zs = t := ⟨_, rfl⟩
  rw [ht'] at vo vb
  obtain ⟨x, hx⟩ : ∃ x, sumB zs = x := ⟨_, rfl⟩
  rw [hx] at KU KR
  have q1 := beq_refl_bytes s
  have q2 := beq_refl_bytes t
  have q3 := sum_self x
  have q4 : (k2 != k2) = false := by simp
  have HS : Hid (strOfNums ys = s) := hs
  clear hs ht' hx
  go_wp2_with (first
    | (go_at_call 12; refine KU.mono ?_; rintro e w' ⟨rfl, hw⟩; rw [hw]; clear hw w' KU)
    | (go_at_call 13; refine KR.mono ?_; rintro e w' ⟨rfl, hw⟩; rw [hw]; clear hw w' KR))
  obtain ⟨g, hag, hgb, hgs2⟩ : ∃ g, (0 < len → a1 = some ⟨g, 0, none⟩ ∧ g < w1.heap.size) ∧ w.heap.size ≤ g ∧ (∀ b off, (a2 = some ⟨b, off, none⟩ ∧ 0 < n2) ∨ (a3 = some ⟨b, off, none⟩ ∧ 0 < n3) → b ≠ g) := by
    by_cases hp : 0 < len
    · obtain ⟨g, e, hg⟩ := hg1 hp
      have := hw1 g e
      exact ⟨g, fun _ => ⟨e, this⟩, hg, fun b off h => by have := hgs b off h; omega⟩
    · refine ⟨w3.heap.size, fun h => absurd h hp, bw3.size, fun b off h => ?_⟩
      rcases h with ⟨h, hp⟩ | ⟨h, hp⟩
      · obtain ⟨b', off', e, hb, _⟩ := S2.mem.resolve_left (by omega)
        rw [h] at e
        cases e
        omega
      · obtain ⟨b', off', e, hb, _⟩ := S3.mem.resolve_left (by omega)
        rw [h] at e
        cases e
        omega
  have hO : Over g len w3 w3 := ⟨rfl, rfl, rfl, rfl, fun _ _ => rfl, fun k hk => by
      obtain ⟨rfl, _⟩ := hag (by omega)
      have := F3.at k hk
      rw [Nat.zero_add] at this
      exact ⟨_, this⟩, fun k hk => by
      obtain ⟨rfl, hgl⟩ := hag (by omega)
      exact (b13.frozen (p := ⟨g, k, none⟩) hgl).trans (own_frozen o1 k)⟩
  clear vf vg vo vb q1 q2 q3 q4 hg1 hw1 hgs
  go_loopg [8] len (fun f ix wr => ∃ j : Nat, ix = .int .i64 j ∧ j + f = len ∧ Over g len w3 wr)
  case atStart => exact ⟨0, rfl, by omega, hO⟩
  case round =>
    obtain ⟨j, rfl, hjg, hov⟩ := hrel
    by_cases hc : j < len
    · obtain ⟨rfl, hgl⟩ := hag (by omega)
      obtain ⟨u, hu⟩ := hov.cell j hc
      have hf := hov.free j hc
      have hu' : wr.cell? ⟨g, 0 + j, none⟩ = some u := by rw [Nat.zero_add]; exact hu
      have hf' : wr.frozen? ⟨g, 0 + j, none⟩ = false := by rw [Nat.zero_add]; exact hf
      go_wp2
      go_roundg (gk - 1)
      case measure => omega
      case rel => exact ⟨j + 1, by first | rfl | go_num, by omega, hov.set _ _⟩
    · have e : len = j := by omega
      have bwr := hov.below bw3 hgb
      have vf := conv_row (hov.row S2 (fun b off e h => hgs2 b off (.inl ⟨e, h⟩)))
      have vg := conv_row (hov.row S3 (fun b off e h => hgs2 b off (.inr ⟨e, h⟩)))
      rw [HS.out] at vf vg
      have q1 := beq_refl_bytes s
      have KA := awake_any wr (ht.below bwr)
      subst e
      go_wp2_with (go_at_call 14; refine KA.mono ?_; rintro e w6 ⟨rfl, b6⟩)
      go_ret
      exact ⟨rfl, bwr.trans (b6.mono bwr.size)⟩

end Go.Proofs.YteadkfcbgphgnaaDoor
