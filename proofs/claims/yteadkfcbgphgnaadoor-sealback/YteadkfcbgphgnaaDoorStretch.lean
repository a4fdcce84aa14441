/-
  What behind and stretch return.
-/
import Derived.Test.YteadkfcbgphgnaaDoorSumsOf
namespace Go.Proofs.YteadkfcbgphgnaaDoor
open Go.ChangeShapes Go.WideShapes Go.ChangeAt Go.RowKit
set_option linter.unusedVariables false
set_option linter.unusedSimpArgs false

/-- What a sums value leads to. -/
structure SumsAt (w : World) (b off len cap g : Nat) (zs : List Int) : Prop where
  row : Row .u8 w (some ⟨b, off, none⟩) len cap zs
  kept : w.rowIs g 29 (len / 64 + 1) (keptF zs (len / 64))
  tab : Tab w
theorem SumsAt.below {w w' : World} {b off len cap g : Nat} {zs : List Int} (h : SumsAt w b off len cap g zs) (hb : Below w.heap.size w w') : SumsAt w' b off len cap g zs :=
  ⟨h.row.below hb, h.kept.of_block (hb.block g h.kept.lt), h.tab.below hb⟩
theorem SumsAt.drewN {w : World} {b off len cap g : Nat} {zs : List Int} (h : SumsAt w b off len cap g zs) (n : Nat) : SumsAt (w.drewN n) b off len cap g zs :=
  ⟨h.row.drewN n, h.kept, h.tab.drewN n⟩

set_option maxHeartbeats 4000000 in
theorem behind_any (b off len cap g n : Nat) (zs : List Int) (w : World) (H : SumsAt w b off len cap g zs) (hl : len ≤ 1099511627776) (hcap : cap ≤ 9223372036854775807) (hn : n ≤ len) :
    Calls Tryd.prog 32 #[.agg #[.slice (some ⟨b, off, none⟩) len cap, .slice (some ⟨g, 0, none⟩) (len / 64 + 1) (len / 64 + 1)], .int .i64 n] w fun e w' => e = .returned (.int .u32 ((beh zs n : Nat) : Int)) ∧ Below w.heap.size w w' := by
  have hle := H.row.le
  obtain ⟨m, hm⟩ : ∃ m, len / 64 = m := ⟨_, rfl⟩
  obtain ⟨i, hi⟩ : ∃ i, n / 64 = i := ⟨_, rfl⟩
  have hii : (n : Int) / 64 = (i : Int) := by omega
  have him : i ≤ m := by omega
  have hB : Below w.heap.size w (w.alloc (.cells #[.slice (some ⟨b, off, none⟩) len cap, .slice (some ⟨g, 0, none⟩) (m + 1) (m + 1)] 62)) := (Below.refl _ _).alloc (Nat.le_refl _) _
  have T0 := Two.new w (.slice (some ⟨b, off, none⟩) len cap) (.slice (some ⟨g, 0, none⟩) (m + 1) (m + 1)) 62
  rw [hm]
  have H1 := H.below hB
  obtain ⟨w1, hw1⟩ : ∃ w1, w.alloc (.cells #[.slice (some ⟨b, off, none⟩) len cap, .slice (some ⟨g, 0, none⟩) (m + 1) (m + 1)] 62) = w1 := ⟨_, rfl⟩
  rw [hw1] at H1 hB T0
  have k1 := H1.kept.cell (i := i) (by omega)
  unfold keptF at k1
  rw [if_pos (by omega)] at k1
  obtain ⟨x, hx⟩ : ∃ x, beh zs (i * 64) = x := ⟨_, rfl⟩
  have hxl : x < 4294967296 := by rw [← hx]; exact beh_lt _ _
  rw [hx] at k1
  have P := H1.row.part (i * 64) n (by omega) (by omega)
  have e1 : (⟨b, off, none⟩ : Addr).add (i * 64) = ⟨b, off + i * 64, none⟩ := by unfold Addr.add; split <;> simp_all
  rw [e1] at P
  have hy : crcR x (bitsL ((zs.drop (i * 64)).take (n - i * 64))) = beh zs n := by
    rw [← hx]
    exact beh_on zs (i * 64) n (by omega)
  obtain ⟨y, hyy⟩ : ∃ y, beh zs n = y := ⟨_, rfl⟩
  rw [hyy]
  rw [hyy] at hy
  have i1 : (0 : Int) ≤ (i : Int) * 64 := by omega
  have i2 : (i : Int) * 64 ≤ (n : Int) := by omega
  have i3 : (n : Int) ≤ (cap : Int) := by omega
  have i4 : ((i : Int) * 64).toNat = i * 64 := by omega
  have i5 : (i : Int) < (m : Int) + 1 := by omega
  obtain ⟨q0, q1, _, _, _⟩ := id T0
  have Ht := H1.tab
  by_cases hcz : cap = i * 64
  · have P0 : Row .u8 w1 (some ⟨b, off, none⟩) (n - i * 64) (cap - i * 64) ((zs.drop (i * 64)).take (n - i * 64)) :=
      ⟨P.size, P.le, (fun h => by cases h), P.wf, .inl (by omega)⟩
    have KO := fun k => over_any x _ _ _ _ (w1.drewN k) (P0.drewN k) hxl (Ht.drewN k) (by omega)
    rw [hy] at KO
    clear P P0 H1 T0 hx hy hyy hm hi
    subst hcz
    have i6 : (n : Int) ≤ (i : Int) * 64 := by omega
    have i7 : n - i * 64 = 0 := by omega
    simp only [i7, Nat.sub_self] at KO
    go_enter Tryd.func32, Tryd.ntmps32
    go_wp2
    go_quiet (first | (go_at_call 23; exact Calls.quiet_of_same (KO _)))
    go_wp2
    go_ret
    exact ⟨rfl, below_drewN hB _⟩
  · have KO := fun k => over_any x _ _ _ _ (w1.drewN k) (P.drewN k) hxl (Ht.drewN k) (by omega)
    rw [hy] at KO
    clear P H1 T0 hx hy hyy hm hi
    go_enter Tryd.func32, Tryd.ntmps32
    go_wp2
    go_quiet (first | (go_at_call 23; exact Calls.quiet_of_same (KO _)))
    go_wp2
    go_ret
    exact ⟨rfl, below_drewN hB _⟩

set_option maxRecDepth 100000 in
set_option maxHeartbeats 4000000 in
theorem stretch_any (b off len cap g fr to : Nat) (zs : List Int) (w : World) (H : SumsAt w b off len cap g zs) (hl : len ≤ 1099511627776) (hcap : cap ≤ 9223372036854775807) (hft : fr ≤ to) (hto : to ≤ len) :
    Calls Tryd.prog 31 #[.agg #[.slice (some ⟨b, off, none⟩) len cap, .slice (some ⟨g, 0, none⟩) (len / 64 + 1) (len / 64 + 1)], .int .i64 fr, .int .i64 to] w fun e w' => e = .returned (.int .u32 ((sumB ((zs.drop fr).take (to - fr)) : Nat) : Int)) ∧ Below w.heap.size w w' := by
  have hfr : fr ≤ len := by omega
  have hsz := H.row.size
  have hB : Below w.heap.size w (w.alloc (.cells #[.slice (some ⟨b, off, none⟩) len cap, .slice (some ⟨g, 0, none⟩) (len / 64 + 1) (len / 64 + 1)] 62)) := (Below.refl _ _).alloc (Nat.le_refl _) _
  have T0 := Two.new w (.slice (some ⟨b, off, none⟩) len cap) (.slice (some ⟨g, 0, none⟩) (len / 64 + 1) (len / 64 + 1)) 62
  have H0 := H.below hB
  obtain ⟨w0, hw0⟩ : ∃ w0, w.alloc (.cells #[.slice (some ⟨b, off, none⟩) len cap, .slice (some ⟨g, 0, none⟩) (len / 64 + 1) (len / 64 + 1)] 62) = w0 := ⟨_, rfl⟩
  rw [hw0] at hB T0 H0
  obtain ⟨w1, hw1⟩ : ∃ w1, w0.drew = w1 := ⟨_, rfl⟩
  have H1 : SumsAt w1 b off len cap g zs := by rw [← hw1]; exact H0.drewN 1
  have T1 : Two w1 w.heap.size (.slice (some ⟨b, off, none⟩) len cap) (.slice (some ⟨g, 0, none⟩) (len / 64 + 1) (len / 64 + 1)) := by rw [← hw1]; exact T0.drewN 1
  have B1 : Below w.heap.size w w1 := by rw [← hw1]; exact hB.drew
  have KB : ∀ n, n ≤ len → ∀ W, Below w1.heap.size w1 W → Calls Tryd.prog 32 #[.agg #[.slice (some ⟨b, off, none⟩) len cap, .slice (some ⟨g, 0, none⟩) (len / 64 + 1) (len / 64 + 1)], .int .i64 n] W fun e w' => e = .returned (.int .u32 ((beh zs n : Nat) : Int)) ∧ Below W.heap.size W w' := fun n hn W hW => behind_any b off len cap g n zs W (H1.below hW) hl hcap hn
  have hs := stretch_sum zs fr to hft (by omega)
  have v9 := beh_lt zs to
  have v12 := beh_lt zs fr
  obtain ⟨x9, h9⟩ : ∃ x, beh zs to = x := ⟨_, rfl⟩
  obtain ⟨x12, h12⟩ : ∃ x, beh zs fr = x := ⟨_, rfl⟩
  have KT := KB to hto
  have KF := KB fr hfr
  rw [h9] at KT hs v9
  rw [h12] at KF hs v12
  have e13 := xor_ones x12 v12
  obtain ⟨y13, h13⟩ : ∃ x, x12 ^^^ 4294967295 = x := ⟨_, rfl⟩
  have l13 : y13 < 4294967296 := by rw [← h13]; exact Nat.xor_lt_two_pow (n := 32) v12 (by decide)
  rw [h13] at e13 hs
  have KZ := fun W => overZeros_any y13 (to - fr) W l13 (by omega)
  obtain ⟨y17, h17⟩ : ∃ x, crcR y13 (zer (8 * (to - fr))) = x := ⟨_, rfl⟩
  have l17 : y17 < 4294967296 := by rw [← h17]; exact crcR_lt _ l13
  rw [h17] at KZ hs
  have e18 := u32_xor_nat x9 y17 v9 l17
  obtain ⟨y18, h18⟩ : ∃ x, x9 ^^^ y17 = x := ⟨_, rfl⟩
  have l18 : y18 < 4294967296 := by rw [← h18]; exact Nat.xor_lt_two_pow (n := 32) v9 l17
  rw [h18] at e18 hs
  have e19 := not32 y18 l18
  rw [hs] at e19
  obtain ⟨y19, h19⟩ : ∃ x, sumB ((zs.drop fr).take (to - fr)) = x := ⟨_, rfl⟩
  rw [h19] at e19 ⊢
  have e19b : bits .xor .u32 (if IntKind.u32.signed = true then -1 else IntKind.u32.max) (y18 : Int) = (y19 : Int) := by rw [if_neg (by decide)]; exact e19
  have hz : ((to - fr : Nat) : Int) = (to : Int) - (fr : Int) := by omega
  rw [hz] at KZ
  have hwr : IntKind.i64.wrap ((to : Int) - (fr : Int)) = (to : Int) - (fr : Int) := by rw [IntKind.wrap_i64]; omega
  clear KB h9 h12 h13 h17 h18 h19 hs hz H H0 T0
  go_enter Tryd.func31, Tryd.ntmps31
  go_wp2
  refine wp_region_any (by kernel_rfl) ?_
  change wpAny _ _ _ _ _ _ _ (World.drew _)
  rw [hw1]
  refine any_take 1 8 (.int .i64 to) rfl rfl (by kernel_rfl) (by kernel_rfl) (by kernel_rfl) (fun _ _ _ h => h) (Or.inl ⟨by rfl, by intro w; go_simp⟩) ?_
  try simp only [Act.put, List.setIfInBounds_toArray, List.set_cons_zero, List.set_cons_succ]
  refine any_take 4 11 (.int .i64 fr) rfl rfl (by kernel_rfl) (by kernel_rfl) (by kernel_rfl) (fun _ _ _ h => h) (Or.inl ⟨by rfl, by intro w; go_simp⟩) ?_
  try simp only [Act.put, List.setIfInBounds_toArray, List.set_cons_zero, List.set_cons_succ]
  refine any_take 7 14 (.int .i64 to) rfl rfl (by kernel_rfl) (by kernel_rfl) (by kernel_rfl) (fun _ _ _ h => h) (Or.inl ⟨by rfl, by intro w; go_simp⟩) ?_
  try simp only [Act.put, List.setIfInBounds_toArray, List.set_cons_zero, List.set_cons_succ]
  refine any_take 8 15 (.int .i64 fr) rfl rfl (by kernel_rfl) (by kernel_rfl) (by kernel_rfl) (fun _ _ _ h => h) (Or.inl ⟨by rfl, by intro w; go_simp⟩) ?_
  try simp only [Act.put, List.setIfInBounds_toArray, List.set_cons_zero, List.set_cons_succ]
  refine any_take 9 16 (.int .i64 ((to : Int) - (fr : Int))) rfl rfl (by kernel_rfl) (by kernel_rfl) (by kernel_rfl) (fun _ _ _ h => h) (Or.inl ⟨by rfl, by intro w; go_simp⟩) ?_
  try simp only [Act.put, List.setIfInBounds_toArray, List.set_cons_zero, List.set_cons_succ]
  refine wpAny_narrow (fun W => Below w1.heap.size w1 W) _ _ _ _ ?_
  refine anyH_take 0 7 (.agg #[.slice (some ⟨b, off, none⟩) len cap, .slice (some ⟨g, 0, none⟩) (len / 64 + 1) (len / 64 + 1)]) rfl rfl (by kernel_rfl) (by kernel_rfl) (by kernel_rfl) (fun _ _ _ h => h) (Or.inl ⟨by rfl, by intro w hSw; obtain ⟨q0, q1, _, _, _⟩ := T1.below hSw; go_simp⟩) (Below.refl _ _) ?_
  try simp only [Act.put, List.setIfInBounds_toArray, List.set_cons_zero, List.set_cons_succ]
  refine anyH_take 3 10 (.agg #[.slice (some ⟨b, off, none⟩) len cap, .slice (some ⟨g, 0, none⟩) (len / 64 + 1) (len / 64 + 1)]) rfl rfl (by kernel_rfl) (by kernel_rfl) (by kernel_rfl) (fun _ _ _ h => h) (Or.inl ⟨by rfl, by intro w hSw; obtain ⟨q0, q1, _, _, _⟩ := T1.below hSw; go_simp⟩) (Below.refl _ _) ?_
  try simp only [Act.put, List.setIfInBounds_toArray, List.set_cons_zero, List.set_cons_succ]
  refine wpAnyH_ready (rs := [2]) (by kernel_rfl) (by simp) ?_
  refine AllReadyH.cons rfl (fun K hK => ?_) AllReadyH.nil
  go_simp
  go_wp2_with (go_at_call 32; refine (KT _ (Below.refl _ _)).mono ?_; rintro e w2 ⟨rfl, b2⟩)
  refine hK.out _ _ (b2) (fun hS => ?_)
  clear hK
  refine wpAnyH_ready (rs := [5]) (by kernel_rfl) (by simp) ?_
  refine AllReadyH.cons rfl (fun K hK => ?_) AllReadyH.nil
  go_simp
  go_wp2_with (go_at_call 32; refine (KF _ b2).mono ?_; rintro e w3 ⟨rfl, b3⟩; have b23 : Below w1.heap.size w1 w3 := b2.trans (b3.mono b2.size))
  refine hK.out _ _ (b23) (fun hS => ?_)
  clear hK
  refine anyH_take 6 13 (.int .u32 y13) rfl rfl (by kernel_rfl) (by kernel_rfl) (by kernel_rfl) (fun _ _ _ h => h) (Or.inl ⟨by rfl, by intro w hSw; go_simp⟩) (b23) ?_
  try simp only [Act.put, List.setIfInBounds_toArray, List.set_cons_zero, List.set_cons_succ]
  refine wpAnyH_ready (rs := [10]) (by kernel_rfl) (by simp) ?_
  refine AllReadyH.cons rfl (fun K hK => ?_) AllReadyH.nil
  go_simp
  go_wp2_with (go_at_call 33; refine (KZ _).mono ?_; rintro e w4 ⟨rfl, hw⟩; rw [hw]; clear hw w4)
  refine hK.out _ _ (b23) (fun hS => ?_)
  clear hK
  refine anyH_take 11 18 (.int .u32 y18) rfl rfl (by kernel_rfl) (by kernel_rfl) (by kernel_rfl) (fun _ _ _ h => h) (Or.inl ⟨by rfl, by intro w hSw; go_simp⟩) (b23) ?_
  try simp only [Act.put, List.setIfInBounds_toArray, List.set_cons_zero, List.set_cons_succ]
  refine anyH_take 12 19 (.int .u32 y19) rfl rfl (by kernel_rfl) (by kernel_rfl) (by kernel_rfl) (fun _ _ _ h => h) (Or.inl ⟨by rfl, by intro w hSw; go_simp⟩) (b23) ?_
  try simp only [Act.put, List.setIfInBounds_toArray, List.set_cons_zero, List.set_cons_succ]
  refine anyH_take 13 6 (.int .u32 y19) rfl rfl (by kernel_rfl) (by kernel_rfl) (by kernel_rfl) (fun _ _ _ h => h) (Or.inl ⟨by rfl, by intro w hSw; go_simp⟩) (b23) ?_
  try simp only [Act.put, List.setIfInBounds_toArray, List.set_cons_zero, List.set_cons_succ]
  refine wpAnyH_done (by kernel_rfl) ?_ _
  go_wp2
  go_ret
  exact ⟨rfl, B1.trans (b23.mono B1.size)⟩

end Go.Proofs.YteadkfcbgphgnaaDoor
