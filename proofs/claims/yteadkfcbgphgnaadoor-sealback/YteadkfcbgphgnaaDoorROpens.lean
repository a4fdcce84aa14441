/-
  What the document's own Open returns, where a frame has room.
-/
import Derived.Test.YteadkfcbgphgnaaDoorROpen
namespace Go.Proofs.YteadkfcbgphgnaaDoor
open Go.ChangeShapes Go.WideShapes Go.ChangeAt Go.RowKit
set_option linter.unusedVariables false

set_option maxHeartbeats 8000000 in
theorem ropen_full (b off len cap : Nat) (zs : List Int) (w : World) (R : Row .u8 w (some ⟨b, off, none⟩) len cap zs) (hcap : cap ≤ 9223372036854775807) (hl : len ≤ 140737488355328)
    (h0 : zs.getD 0 0 = 237) (h1 : zs.getD 1 0 = 91) (h4 : 4 ≤ len) (N : Nat) (hN : lenAt zs = N) (h5 : N + 8 ≤ len) (s : Nat) (hs : sumB ((zs.drop 2).take (2 + N)) = s) (Ro : Except Int (List Int × Nat))
    (HBad : Hid (∀ j, j < 4 → ¬ SameAt zs N s j → Ro = .error 22)) (HGood : Hid ((∀ j, j < 4 → SameAt zs N s j) → Ro = .ok ((zs.drop 4).take N, N + 8))) :
    Calls Tryd.prog 17 #[.slice (some ⟨b, off, none⟩) len cap] w fun e w' => OpenOut w.heap.size w' Ro e ∧ Below w.heap.size w w' := by
  have hsz := R.size
  have hle := R.le
  have hsl : s < 4294967296 := by rw [← hs]; exact sumB_lt _
  have c0 := R.at 0 (by omega)
  have c1 := R.at 1 (by omega)
  have c2 := R.at 2 (by omega)
  have c3 := R.at 3 (by omega)
  rw [Nat.add_zero, h0] at c0
  rw [h1] at c1
  have b2 := byt_at R.byte 2 (by omega)
  have b3 := byt_at R.byte 3 (by omega)
  have HL : Hid (lenAt zs = (zs.getD 2 0).toNat + 256 * (zs.getD 3 0).toNat) := rfl
  obtain ⟨x, hx⟩ : ∃ x, zs.getD 2 0 = x := ⟨_, rfl⟩
  obtain ⟨y, hy⟩ : ∃ x, zs.getD 3 0 = x := ⟨_, rfl⟩
  rw [hN] at HL
  rw [hx] at HL c2 b2
  rw [hy] at HL c3 b3
  have hxy : x + 256 * y = (N : Int) := by have := HL.out; omega
  have hNb : N ≤ 65535 := by omega
  have hA : (⟨b, off, none⟩ : Addr).add 2 = ⟨b, off + 2, none⟩ := by unfold Addr.add; split <;> simp_all
  have hA4 : (⟨b, off, none⟩ : Addr).add 4 = ⟨b, off + 4, none⟩ := by unfold Addr.add; split <;> simp_all
  have P2 := R.part 2 (4 + N) (by omega) (by omega)
  have P4 := R.part 4 (4 + N) (by omega) (by omega)
  rw [hA] at P2
  rw [hA4] at P4
  have KU := fun w' R' => rsum_any (some ⟨b, off + 2, none⟩) (4 + N - 2) (cap - 2) ((zs.drop 2).take (4 + N - 2)) w' R' (by omega)
  rw [show sumB ((zs.drop 2).take (4 + N - 2)) = s by rw [show 4 + N - 2 = 2 + N by omega]; exact hs] at KU
  have HR : Hid (Row .u8 w (some ⟨b, off, none⟩) len cap zs) := R
  clear R HL hN hx hy h0 h1 hs hA hA4
  go_enter Tryd.func17, Tryd.ntmps17
  go_wp2
  go_quiet (fail)
  obtain ⟨w1, hw1⟩ : ∃ w1, w.drewN nq = w1 := ⟨_, rfl⟩
  rw [hw1]
  have B1 : Below w.heap.size w w1 := by rw [← hw1]; exact below_drewN (Below.refl _ _) _
  have Q2 : Row .u8 w1 (some ⟨b, off + 2, none⟩) (4 + N - 2) (cap - 2) ((zs.drop 2).take (4 + N - 2)) := P2.below B1
  have KU1 := KU w1 Q2
  clear hw1 KU Q2 P2
  go_wp2_with (go_at_call 13; refine KU1.mono ?_; rintro e w' ⟨rfl, hw⟩; rw [hw]; clear hw w' KU1)
  go_loopg [7] 4 (fun g ix wr => ∃ j : Nat, ix = .int .i64 j ∧ j + g = 4 ∧ Hid (∀ i, i < j → SameAt zs N s i) ∧ Below w.heap.size w wr)
  case atStart => exact ⟨0, rfl, rfl, fun i hi => absurd hi (by omega), B1⟩
  case round =>
    obtain ⟨j, rfl, hg, HJ, hB⟩ := hrel
    by_cases h4j : j = 4
    · subst h4j
      have hgd := HGood.out HJ.out
      have HGd : Hid (Ro = .ok ((zs.drop 4).take N, N + 8)) := hgd
      have Q4 : Row .u8 wr (some ⟨b, off + 4, none⟩) (4 + N - 4) (cap - 4) ((zs.drop 4).take (4 + N - 4)) := P4.below hB
      have bw := hB.size
      clear hgd c0 c1 c2 c3
      go_wp2_with (at_builtin; refine wpList_append_row _ rfl _ _ rfl w.heap.size _ [] rfl (Own.nil _ _) _ _ _ _ rfl Q4 bw (by simp; omega) ?_; intro v5 w5 O5 B5)
      go_ret3
      rw [HGd.out]
      simp only [OpenOut]
      exact ⟨⟨_, by first | rfl | (simp; omega), by rw [List.nil_append, show 4 + N - 4 = N by omega] at O5; exact O5⟩, hB.trans B5⟩
    · have hR := HR.out.below hB
      have D := hR.at (4 + N + j) (by have := hR.size; omega)
      have hb := byt_at hR.byte (4 + N + j) (by have := hR.size; omega)
      obtain ⟨z, hz⟩ : ∃ z, zs.getD (4 + N + j) 0 = z := ⟨_, rfl⟩
      rw [hz] at D hb
      clear hR
      have i1 : (4 : Int) + (N : Int) + (j : Int) < (len : Int) := by omega
      have i2 : (0 : Int) ≤ (4 : Int) + (N : Int) + (j : Int) := by omega
      clear c0 c1 c2 c3
      by_cases hE : SameAt zs N s j
      · have HJ2 : Hid (∀ i, i < j + 1 → SameAt zs N s i) := fun i hi => by
          rcases Nat.lt_succ_iff_lt_or_eq.1 hi with h | h
          · exact HJ.out i h
          · rw [h]; exact hE
        have hE2 : z = (s : Int) / 2 ^ (8 * j) % 256 := by rw [← hz, ← div256]; exact hE
        have hq : (z != (s : Int) / 2 ^ (8 * j) % 256) = false := by rw [hE2]; simp
        have h24 : j = 3 → (z != (s : Int) / 16777216) = false := by
          intro e
          subst e
          have : z = (s : Int) / 16777216 := by
            rw [hE2]
            simp only [Nat.reduceMul, Int.reducePow]
            omega
          rw [this]
          simp
        clear hE hz HJ hE2
        rcases (show j = 0 ∨ j = 1 ∨ j = 2 ∨ j = 3 by omega) with rfl | rfl | rfl | rfl
        all_goals
          try have h24' := h24 rfl
          clear h24
          simp only [Nat.mul_zero, Int.pow_zero, Int.ediv_one, Nat.mul_one, Nat.reduceMul, Int.reducePow, Nat.add_zero] at hq D
          go_wp2
          go_quiet (fail)
          go_wp2
          go_roundg (gk - 1)
          case measure => omega
          case rel => exact ⟨_, by first | rfl | go_num, by omega, HJ2, below_drewN hB _⟩
      · have hE2 : z ≠ (s : Int) / 2 ^ (8 * j) % 256 := by rw [← hz, ← div256]; exact hE
        have hq : (z != (s : Int) / 2 ^ (8 * j) % 256) = true := u8_ne hE2
        have h24 : j = 3 → (z != (s : Int) / 16777216) = true := by
          intro e
          subst e
          apply u8_ne
          intro h
          apply hE2
          simp only [Nat.reduceMul, Int.reducePow]
          omega
        have HBd : Hid (Ro = .error 22) := HBad.out j (by omega) hE
        clear hE hz HJ hE2
        rcases (show j = 0 ∨ j = 1 ∨ j = 2 ∨ j = 3 by omega) with rfl | rfl | rfl | rfl
        all_goals
          try have h24' := h24 rfl
          clear h24
          simp only [Nat.mul_zero, Int.pow_zero, Int.ediv_one, Nat.mul_one, Nat.reduceMul, Int.reducePow, Nat.add_zero] at hq D
          go_wp2
          go_quiet (fail)
          go_wp2
          go_ret3
          rw [HBd.out]
          exact ⟨rfl, below_drewN hB _⟩

theorem ropen_any (a : Option Addr) (len cap : Nat) (zs : List Int) (w : World) (R : Row .u8 w a len cap zs) (hl : len ≤ 140737488355328) (hcap : cap ≤ 9223372036854775807) :
    Calls Tryd.prog 17 #[.slice a len cap] w fun e w' => OpenOut w.heap.size w' (opn zs) e ∧ Below w.heap.size w w' := by
  have hsz := R.size
  by_cases c1 : (0 < zs.length ∧ zs.getD 0 0 ≠ 237) ∨ (1 < zs.length ∧ zs.getD 1 0 ≠ 91)
  · have e : opn zs = .error 20 := by unfold opn; rw [if_pos c1]
    rw [e]
    exact ropen_form a len cap zs w R hcap c1
  · by_cases c2 : zs.length < 4
    · have e : opn zs = .error 21 := by unfold opn; rw [if_neg c1, if_pos c2]
      rw [e]
      exact ropen_short a len cap zs w R hcap c1 (by omega)
    · obtain ⟨b, off, rfl, _, _⟩ := R.mem.resolve_left (by omega)
      have h0 : zs.getD 0 0 = 237 := by
        apply Classical.byContradiction
        intro hn
        exact c1 (.inl ⟨by omega, hn⟩)
      have h1 : zs.getD 1 0 = 91 := by
        apply Classical.byContradiction
        intro hn
        exact c1 (.inr ⟨by omega, hn⟩)
      by_cases c3 : zs.length < lenAt zs + 8
      · have e : opn zs = .error 21 := by unfold opn; rw [if_neg c1, if_neg c2, if_pos c3]
        rw [e]
        exact ropen_long b off len cap zs w R hcap hl h0 h1 (by omega) (by omega)
      · have e : opn zs = if (zs.drop (4 + lenAt zs)).take 4 ≠ le4 (sumB ((zs.drop 2).take (2 + lenAt zs))) then .error 22 else .ok ((zs.drop 4).take (lenAt zs), lenAt zs + 8) := by
          unfold opn; rw [if_neg c1, if_neg c2, if_neg c3]
        have k := same_le4 zs (lenAt zs) (sumB ((zs.drop 2).take (2 + lenAt zs))) (by omega)
        refine ropen_full b off len cap zs w R hcap hl h0 h1 (by omega) _ rfl (by omega) _ rfl (opn zs) ?_ ?_
        · intro j hj hn
          rw [e, if_pos]
          intro h
          have := k.1 h
          rcases (show j = 0 ∨ j = 1 ∨ j = 2 ∨ j = 3 by omega) with rfl | rfl | rfl | rfl
          · exact hn this.1
          · exact hn this.2.1
          · exact hn this.2.2.1
          · exact hn this.2.2.2
        · intro h
          rw [e, if_neg]
          simp only [ne_eq, Decidable.not_not]
          exact k.2 ⟨h 0 (by omega), h 1 (by omega), h 2 (by omega), h 3 (by omega)⟩

end Go.Proofs.YteadkfcbgphgnaaDoor
