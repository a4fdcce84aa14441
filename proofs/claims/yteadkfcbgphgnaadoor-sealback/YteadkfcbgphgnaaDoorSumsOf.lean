/-
  What sumsOf, behind and stretch return.
-/
import Derived.Test.YteadkfcbgphgnaaDoorZeros
import Derived.Test.YteadkfcbgphgnaaDoorSeal
import Derived.Test.YteadkfcbgphgnaaDoorBlocks
import Derived.Test.YteadkfcbgphgnaaDoorHeld
import Derived.Deep.OwnRows
namespace Go.Proofs.YteadkfcbgphgnaaDoor
open Go.ChangeShapes Go.WideShapes Go.ChangeAt Go.RowKit
set_option linter.unusedVariables false
set_option linter.unusedSimpArgs false

theorem info29 : (Tryd.prog.info? 29).map (fun i => (i.zero, i.size, i.bytes)) = some (some (.int .u32 0), 1, 4) := by kernel_rfl
/-- The states that are kept: those up to place k of them. -/
def keptF (zs : List Int) (k : Nat) (i : Nat) : Value := .int .u32 ((if i ≤ k then beh zs (i * 64) else 0 : Nat) : Int)

set_option maxRecDepth 100000 in
set_option maxHeartbeats 4000000 in
theorem sumsOf_any (a : Option Addr) (len cap : Nat) (zs : List Int) (w : World) (R : Row .u8 w a len cap zs) (ht : Tab w) (hl : len ≤ 1099511627776) (hcap : cap ≤ 9223372036854775807) :
    Calls Tryd.prog 30 #[.slice a len cap] w fun e w' => ∃ g, e = .returned (.agg #[.slice a len cap, .slice (some ⟨g, 0, none⟩) (len / 64 + 1) (len / 64 + 1)]) ∧ w.heap.size ≤ g ∧ w'.rowIs g 29 (len / 64 + 1) (keptF zs (len / 64)) ∧ Below w.heap.size w w' := by
  have hsz := R.size
  have hle := R.le
  obtain ⟨m, hm⟩ : ∃ m, len / 64 = m := ⟨_, rfl⟩
  have hmi : (len : Int) / 64 = (m : Int) := by omega
  have hmk := run_make_row' (P := Tryd.prog) 60 29 (.int .u32 0) 4 Tryd.underlying60 info29 rfl .i64 .i64 (m + 1) (by omega) (by omega)
  rw [show ((m + 1 : Nat) : Int) = (m : Int) + 1 by omega] at hmk
  rw [hm]
  go_enter Tryd.func30, Tryd.ntmps30
  go_wp2
  go_loopg [15, 4] m (fun g ix cr wr => ∃ (j : Nat), ix = .int .i64 j ∧ j + g = m ∧ wr.rowIs (w.heap.size + 1) 29 (m + 1) (keptF zs j) ∧ Two wr (w.heap.size + 1 + 1) (.slice a len cap) (.slice (some ⟨w.heap.size + 1, 0, none⟩) (m + 1) (m + 1)) ∧ Two wr w.heap.size (.slice none 0 0) (.slice none 0 0) ∧ Below w.heap.size w wr)
  case atStart =>
    refine ⟨0, rfl, by omega, ?_, ?_, ((Two.new _ _ _ _).alloc _).alloc _, (((Below.refl _ w).alloc (Nat.le_refl _) _).alloc (by simp) _).alloc (by simp; omega) _⟩
    · have h := ((World.rowIs_made (w.alloc (.cells #[.slice none 0 0, .slice none 0 0] 62)) (.int .u32 0) (m + 1) 29).alloc (.cells #[.slice a len cap, .slice (some ⟨w.heap.size + 1, 0, none⟩) (m + 1) (m + 1)] 62))
      simp only [World.size_alloc] at h
      refine h.congr fun i hi => ?_
      unfold keptF
      by_cases h0 : i ≤ 0
      · have : i = 0 := by omega
        subst this
        rw [if_pos (Nat.le_refl _)]
        rfl
      · rw [if_neg h0]
        rfl
    · exact (Two.new _ _ _ _).at (by simp)
  case round =>
    obtain ⟨j, rfl, hg, hK, hS, hT, hB⟩ := hrel
    by_cases hc : j < m
    · obtain ⟨b, off, rfl, hb, hcc⟩ := R.mem.resolve_left (by omega)
      clear hcc
      have P := ((R.below hB).drew).part (j * 64) ((j + 1) * 64) (by omega) (by omega)
      have e1 : (⟨b, off, none⟩ : Addr).add (j * 64) = ⟨b, off + j * 64, none⟩ := by unfold Addr.add; split <;> simp_all
      rw [e1, show (j + 1) * 64 - j * 64 = 64 by omega] at P
      obtain ⟨x0, hx0⟩ : ∃ x, beh zs (j * 64) = x := ⟨_, rfl⟩
      have hx0l : x0 < 4294967296 := by rw [← hx0]; exact beh_lt _ _
      have KO := over_any x0 _ _ _ _ wr.drew P hx0l ((ht.below hB).drew) (by omega)
      have hy : crcR x0 (bitsL ((zs.drop (j * 64)).take 64)) = beh zs ((j + 1) * 64) := by
        have h := beh_on zs (j * 64) ((j + 1) * 64) (by omega)
        rw [show (j + 1) * 64 - j * 64 = 64 by omega, hx0] at h
        exact h
      rw [hy] at KO
      obtain ⟨y, hyy⟩ : ∃ y, beh zs ((j + 1) * 64) = y := ⟨_, rfl⟩
      rw [hyy] at KO
      obtain ⟨x, hx⟩ : ∃ x : Int, ((x0 : Nat) : Int) = x := ⟨_, rfl⟩
      rw [hx] at KO
      have s1 : wr.drew.cell? ⟨w.heap.size + 1 + 1, 1, none⟩ = some (.slice (some ⟨w.heap.size + 1, 0, none⟩) (m + 1) (m + 1)) := hS.2.1
      have k1 : wr.drew.cell? ⟨w.heap.size + 1, j, none⟩ = some (.int .u32 x) := by
        have h := hK.cell (i := j) (by omega)
        unfold keptF at h
        rw [if_pos (Nat.le_refl _), hx0, hx] at h
        exact h
      obtain ⟨o3, k3⟩ : ∃ o3, wr.drew.cell? ⟨w.heap.size + 1, j + 1, none⟩ = some o3 := ⟨_, hK.cell (i := j + 1) (by omega)⟩
      have f3 : wr.drew.frozen? ⟨w.heap.size + 1, j + 1, none⟩ = false := hK.frozen (j + 1)
      have s2 : (wr.drew.setCell ⟨w.heap.size + 1, j + 1, none⟩ (.int .u32 y)).cell? ⟨w.heap.size + 1 + 1, 1, none⟩ = some (.slice (some ⟨w.heap.size + 1, 0, none⟩) (m + 1) (m + 1)) := by
        rw [World.cell?_setCell_other _ _ _ _ (by simp)]; exact s1
      have k2 : (wr.drew.setCell ⟨w.heap.size + 1, j + 1, none⟩ (.int .u32 y)).cell? ⟨w.heap.size + 1, j, none⟩ = some (.int .u32 x) := by
        rw [World.cell?_setCell_other _ _ _ _ (by simp)]; exact k1
      have i1 : (0 : Int) ≤ (j : Int) * 64 := by omega
      have i2 : (j : Int) * 64 ≤ ((j : Int) + 1) * 64 := by omega
      have i3 : ((j : Int) + 1) * 64 ≤ (cap : Int) := by omega
      have i4 : (j : Int) + 1 < (m : Int) + 1 := by omega
      have i5 : (j : Int) < (m : Int) + 1 := by omega
      have i6 : ((j : Int) * 64).toNat = j * 64 := by omega
      have i7 : (((j : Int) + 1) * 64 - (j : Int) * 64).toNat = 64 := by omega
      have i8 : (0 : Int) ≤ ((j : Int) + 1) * 64 := by omega
      have i9 : max (((j : Int) + 1) * 64) 0 = ((j : Int) + 1) * 64 := by omega
      have i10 : (((j : Int) + 1) * 64).toNat - j * 64 = 64 := by omega
      have i11 : ¬ ((j : Int) + 1 < 0) := by omega
      have i12 : ¬ (cap = j * 64) := by omega
      have i13 : ¬ ((j : Int) + 1 < (j : Int)) := by omega
      have w1 : IntKind.i64.wrap ((j : Int) + 1) = (j : Int) + 1 := by rw [IntKind.wrap_i64]; omega
      have w2 : IntKind.i64.wrap ((j : Int) * 64) = (j : Int) * 64 := by rw [IntKind.wrap_i64]; omega
      have w3 : IntKind.i64.wrap (((j : Int) + 1) * 64) = ((j : Int) + 1) * 64 := by rw [IntKind.wrap_i64]; omega
      have HKeep : Hid ((wr.drew.setCell ⟨w.heap.size + 1, j + 1, none⟩ (.int .u32 y)).rowIs (w.heap.size + 1) 29 (m + 1) (keptF zs (j + 1))) := by
        show (wr.drew.setCell ⟨w.heap.size + 1, j + 1, none⟩ (.int .u32 y)).rowIs (w.heap.size + 1) 29 (m + 1) (keptF zs (j + 1))
        refine ((hK.drew).set (j + 1) (.int .u32 y)).congr fun i hi => ?_
        unfold keptF
        by_cases e : i = j + 1
        · subst e
          rw [if_pos rfl, if_pos (Nat.le_refl _), hyy]
        · rw [if_neg e]
          by_cases h2 : i ≤ j
          · rw [if_pos h2, if_pos (by omega)]
          · rw [if_neg h2, if_neg (by omega)]
      have HS2 : Hid (Two (wr.drew.setCell ⟨w.heap.size + 1, j + 1, none⟩ (.int .u32 y)) (w.heap.size + 1 + 1) (.slice (some ⟨b, off, none⟩) len cap) (.slice (some ⟨w.heap.size + 1, 0, none⟩) (m + 1) (m + 1))) := Two.far (W := wr.drew) hS _ _ _ (by omega)
      have HT2 : Hid (Two (wr.drew.setCell ⟨w.heap.size + 1, j + 1, none⟩ (.int .u32 y)) w.heap.size (.slice none 0 0) (.slice none 0 0)) := Two.far (W := wr.drew) hT _ _ _ (by omega)
      have HB2 : Hid (Below w.heap.size w (wr.drew.setCell ⟨w.heap.size + 1, j + 1, none⟩ (.int .u32 y))) := hB.drew.setCell (p := ⟨w.heap.size + 1, j + 1, none⟩) (by simp) _
      clear hy hyy hx0 hx P e1 hK hS hT
      go_wp2
      refine wp_region_any (by kernel_rfl) ?_
      change wpAny _ _ _ _ _ _ _ (World.drew _)
      refine any_take 0 18 (.pointer (some ⟨w.heap.size + 1 + 1, 1, none⟩)) rfl rfl (by kernel_rfl) (by kernel_rfl) (by kernel_rfl) (fun _ _ _ h => h) (Or.inl ⟨by rfl, by intro w; go_simp⟩) ?_
      try simp only [Act.put, List.setIfInBounds_toArray, List.set_cons_zero, List.set_cons_succ]
      refine any_take 2 20 (.int .i64 j) rfl rfl (by kernel_rfl) (by kernel_rfl) (by kernel_rfl) (fun _ _ _ h => h) (Or.inl ⟨by rfl, by intro w; go_simp⟩) ?_
      try simp only [Act.put, List.setIfInBounds_toArray, List.set_cons_zero, List.set_cons_succ]
      refine any_take 3 21 (.int .i64 ((j : Int) + 1)) rfl rfl (by kernel_rfl) (by kernel_rfl) (by kernel_rfl) (fun _ _ _ h => h) (Or.inl ⟨by rfl, by intro w; go_simp⟩) ?_
      try simp only [Act.put, List.setIfInBounds_toArray, List.set_cons_zero, List.set_cons_succ]
      refine any_take 4 22 (.pointer (some ⟨w.heap.size + 1 + 1, 1, none⟩)) rfl rfl (by kernel_rfl) (by kernel_rfl) (by kernel_rfl) (fun _ _ _ h => h) (Or.inl ⟨by rfl, by intro w; go_simp⟩) ?_
      try simp only [Act.put, List.setIfInBounds_toArray, List.set_cons_zero, List.set_cons_succ]
      refine any_take 6 24 (.int .i64 j) rfl rfl (by kernel_rfl) (by kernel_rfl) (by kernel_rfl) (fun _ _ _ h => h) (Or.inl ⟨by rfl, by intro w; go_simp⟩) ?_
      try simp only [Act.put, List.setIfInBounds_toArray, List.set_cons_zero, List.set_cons_succ]
      refine any_take 9 27 (.slice (some ⟨b, off, none⟩) len cap) rfl rfl (by kernel_rfl) (by kernel_rfl) (by kernel_rfl) (fun _ _ _ h => h) (Or.inl ⟨by rfl, by intro w; go_simp⟩) ?_
      try simp only [Act.put, List.setIfInBounds_toArray, List.set_cons_zero, List.set_cons_succ]
      refine any_take 10 28 (.int .i64 j) rfl rfl (by kernel_rfl) (by kernel_rfl) (by kernel_rfl) (fun _ _ _ h => h) (Or.inl ⟨by rfl, by intro w; go_simp⟩) ?_
      try simp only [Act.put, List.setIfInBounds_toArray, List.set_cons_zero, List.set_cons_succ]
      refine any_take 11 29 (.int .i64 ((j : Int) * 64)) rfl rfl (by kernel_rfl) (by kernel_rfl) (by kernel_rfl) (fun _ _ _ h => h) (Or.inl ⟨by rfl, by intro w; go_simp⟩) ?_
      try simp only [Act.put, List.setIfInBounds_toArray, List.set_cons_zero, List.set_cons_succ]
      refine any_take 12 30 (.int .i64 j) rfl rfl (by kernel_rfl) (by kernel_rfl) (by kernel_rfl) (fun _ _ _ h => h) (Or.inl ⟨by rfl, by intro w; go_simp⟩) ?_
      try simp only [Act.put, List.setIfInBounds_toArray, List.set_cons_zero, List.set_cons_succ]
      refine any_take 13 31 (.int .i64 ((j : Int) + 1)) rfl rfl (by kernel_rfl) (by kernel_rfl) (by kernel_rfl) (fun _ _ _ h => h) (Or.inl ⟨by rfl, by intro w; go_simp⟩) ?_
      try simp only [Act.put, List.setIfInBounds_toArray, List.set_cons_zero, List.set_cons_succ]
      refine any_take 14 32 (.int .i64 (((j : Int) + 1) * 64)) rfl rfl (by kernel_rfl) (by kernel_rfl) (by kernel_rfl) (fun _ _ _ h => h) (Or.inl ⟨by rfl, by intro w; go_simp⟩) ?_
      try simp only [Act.put, List.setIfInBounds_toArray, List.set_cons_zero, List.set_cons_succ]
      refine any_take 15 33 (.slice (some ⟨b, off + j * 64, none⟩) 64 (cap - j * 64)) rfl rfl (by kernel_rfl) (by kernel_rfl) (by kernel_rfl) (fun _ _ _ h => h) (Or.inl ⟨by rfl, by intro w; go_simp⟩) ?_
      try simp only [Act.put, List.setIfInBounds_toArray, List.set_cons_zero, List.set_cons_succ]
      refine wpAny_narrow (fun W => W.cell? ⟨w.heap.size + 1 + 1, 1, none⟩ = some (.slice (some ⟨w.heap.size + 1, 0, none⟩) (m + 1) (m + 1)) ∧ W.cell? ⟨w.heap.size + 1, j, none⟩ = some (.int .u32 x)) _ _ _ _ ?_
      refine anyH_take 1 19 (.slice (some ⟨w.heap.size + 1, 0, none⟩) (m + 1) (m + 1)) rfl rfl (by kernel_rfl) (by kernel_rfl) (by kernel_rfl) (fun _ _ _ h => h) (Or.inl ⟨by rfl, by intro w hSw; obtain ⟨hS1, hS2⟩ := hSw; go_simp⟩) (⟨s1, k1⟩) ?_
      try simp only [Act.put, List.setIfInBounds_toArray, List.set_cons_zero, List.set_cons_succ]
      refine anyH_take 5 23 (.slice (some ⟨w.heap.size + 1, 0, none⟩) (m + 1) (m + 1)) rfl rfl (by kernel_rfl) (by kernel_rfl) (by kernel_rfl) (fun _ _ _ h => h) (Or.inl ⟨by rfl, by intro w hSw; obtain ⟨hS1, hS2⟩ := hSw; go_simp⟩) (⟨s1, k1⟩) ?_
      try simp only [Act.put, List.setIfInBounds_toArray, List.set_cons_zero, List.set_cons_succ]
      refine anyH_take 7 25 (.pointer (some ⟨w.heap.size + 1, j, none⟩)) rfl rfl (by kernel_rfl) (by kernel_rfl) (by kernel_rfl) (fun _ _ _ h => h) (Or.inl ⟨by rfl, by intro w hSw; obtain ⟨hS1, hS2⟩ := hSw; go_simp⟩) (⟨s1, k1⟩) ?_
      try simp only [Act.put, List.setIfInBounds_toArray, List.set_cons_zero, List.set_cons_succ]
      refine anyH_take 8 26 (.int .u32 x) rfl rfl (by kernel_rfl) (by kernel_rfl) (by kernel_rfl) (fun _ _ _ h => h) (Or.inl ⟨by rfl, by intro w hSw; obtain ⟨hS1, hS2⟩ := hSw; go_simp⟩) (⟨s1, k1⟩) ?_
      try simp only [Act.put, List.setIfInBounds_toArray, List.set_cons_zero, List.set_cons_succ]
      refine wpAnyH_ready (rs := [16]) (by kernel_rfl) (by simp) ?_
      refine AllReadyH.cons rfl (fun K hK => ?_) AllReadyH.nil
      go_simp
      go_wp2_with (go_at_call 23; refine KO.mono ?_; rintro e w' ⟨rfl, hw⟩; rw [hw]; clear hw w')
      refine hK.out _ _ (⟨s1, k1⟩) (fun hS => ?_)
      clear hK
      refine anyH_take 17 35 (.pointer (some ⟨w.heap.size + 1, j + 1, none⟩)) rfl rfl (by kernel_rfl) (by kernel_rfl) (by kernel_rfl) (fun _ _ _ h => h) (Or.inl ⟨by rfl, by intro w hSw; obtain ⟨hS1, hS2⟩ := hSw; go_simp⟩) (⟨s1, k1⟩) ?_
      try simp only [Act.put, List.setIfInBounds_toArray, List.set_cons_zero, List.set_cons_succ]
      refine wpAnyH_ready (rs := [18]) (by kernel_rfl) (by simp) ?_
      refine AllReadyH.cons rfl (fun K hK => ?_) AllReadyH.nil
      go_simp
      go_wp2
      refine hK.out _ _ (⟨s2, k2⟩) (fun hS => ?_)
      clear hK
      refine wpAnyH_done (by kernel_rfl) ?_ _
      go_wp2
      go_roundg (gk - 1)
      case measure => omega
      case rel => exact ⟨j + 1, by first | rfl | go_num, by omega, HKeep.out, HS2.out, HT2.out, HB2.out⟩
    · have e : j = m := by omega
      subst e
      obtain ⟨q0, q1, f0, f1, z⟩ := id hS
      obtain ⟨p0, p1, g0, g1, zz⟩ := id hT
      obtain ⟨r0, r1, _, _, _⟩ := id (Two.store hT (.slice a len cap) (.slice (some ⟨w.heap.size + 1, 0, none⟩) (j + 1) (j + 1)))
      go_wp2
      refine bodyPost_ret (v := .agg #[.slice a len cap, .slice (some ⟨w.heap.size + 1, 0, none⟩) (j + 1) (j + 1)]) (by simp [results, Tryd.results30, go_sem, r0, r1]) rfl ⟨w.heap.size + 1, rfl, by omega, ?_, ?_⟩
      · exact (hK.setOther (a := ⟨w.heap.size, 0, none⟩) (by simp) _).setOther (a := ⟨w.heap.size, 1, none⟩) (by simp) _
      · exact (hB.setCell (p := ⟨w.heap.size, 0, none⟩) (Nat.le_refl _) _).setCell (p := ⟨w.heap.size, 1, none⟩) (Nat.le_refl _) _

end Go.Proofs.YteadkfcbgphgnaaDoor
