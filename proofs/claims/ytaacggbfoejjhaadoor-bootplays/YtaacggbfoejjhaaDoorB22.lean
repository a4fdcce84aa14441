/-
  The document's own Slots and Next.
-/
import Derived.Test.YtaacggbfoejjhaaDoorB21
import Derived.Test.YtaacggbfoejjhaaDoorB17
namespace Go.Proofs.YtaacggbfoejjhaaDoor
open Go.ChangeShapes Go.WideShapes Go.ChangeAt Go.RowKit
open D
set_option linter.unusedVariables false
set_option linter.unusedSimpArgs false

theorem Row.cutB {w : World} {b off len cap : Nat} {zs : List Int} (R : Row .u8 w (some ⟨b, off, none⟩) len cap zs) (i n : Nat) (c : Nat) (h : i + n ≤ len) (hc : n ≤ c) : Row .u8 w (some ⟨b, off + i, none⟩) n c ((zs.drop i).take n) where
  size := by have := R.size; simp; omega
  le := hc
  nil := fun h => by cases h
  wf := fun z hz => R.wf z (List.mem_of_mem_drop (List.mem_of_mem_take hz))
  mem := by
    by_cases h0 : n = 0
    · exact .inl h0
    · obtain ⟨b', off', e, hb, hcc⟩ := R.mem.resolve_left (by omega)
      cases e
      refine .inr ⟨b, off + i, rfl, hb, fun k hk => ?_⟩
      rw [Nat.add_assoc, hcc (i + k) (by omega), List.getD_eq_getElem?_getD, List.getD_eq_getElem?_getD, List.getElem?_take, if_pos hk, List.getElem?_drop]
set_option maxRecDepth 100000 in
set_option maxHeartbeats 4000000 in
theorem rslots_dead (r m : Nat) (T : DS) (w : World) (D : DkR w r m T) (hg : T.gone = true) : Calls Tryd.prog 33 #[.pointer (some ⟨r, 0, none⟩)] w fun e w' => e = .returned (.tuple #[.int .i64 0, .int .i64 0, .int .i64 32]) ∧ Below w.heap.size w w' := by
  have K := rdead_any r m T w D
  rw [hg] at K
  go_enter Tryd.func33, Tryd.ntmps33
  go_wp2_with (go_at_call 47; refine K.mono ?_; rintro e w1 ⟨rfl, rfl⟩)
  refine bodyPost_ret (v := .tuple #[.int .i64 0, .int .i64 0, .int .i64 32]) (by simp [results, Tryd.results33, go_sem]) rfl ⟨rfl, Below.refl _ _⟩
set_option maxRecDepth 100000 in
set_option maxHeartbeats 4000000 in
theorem rslots_few (r m : Nat) (T : DS) (w : World) (D : DkR w r m T) (hg : T.gone = false) (h4 : T.n < 4) : Calls Tryd.prog 33 #[.pointer (some ⟨r, 0, none⟩)] w fun e w' => e = .returned (.tuple #[.int .i64 0, .int .i64 0, .int .i64 31]) ∧ Below w.heap.size w w' := by
  have K := rdead_any r m T w D
  rw [hg] at K
  have K2 := rsectors_any r m T w D
  have h4I : (T.n : Int) < 4 := by omega
  go_enter Tryd.func33, Tryd.ntmps33
  go_wp2_with (first
    | (go_at_call 47; refine K.mono ?_; rintro e w1 ⟨rfl, hw⟩; rw [hw]; clear hw)
    | (go_at_call 48; refine K2.mono ?_; rintro e w1 ⟨rfl, hw⟩; rw [hw]; clear hw))
  refine bodyPost_ret (v := .tuple #[.int .i64 0, .int .i64 0, .int .i64 31]) (by simp [results, Tryd.results33, go_sem]) rfl ⟨rfl, Below.refl _ _⟩
set_option maxRecDepth 100000 in
set_option maxHeartbeats 8000000 in
theorem rslots_up (r m : Nat) (T : DS) (w : World) (D : DkR w r m T) (U : Up T) : Calls Tryd.prog 33 #[.pointer (some ⟨r, 0, none⟩)] w fun e w' => e = .returned (.tuple #[.int .i64 ((st T 0 : Nat) : Int), .int .i64 ((st T 1 : Nat) : Int), .int .i64 0]) ∧ Below w.heap.size w w' := by
  have K := rdead_any r m T w D
  rw [U.gone] at K
  have K2 := rsectors_any r m T w D
  have h4I : ¬ (T.n : Int) < 4 := by have := U.n4; omega
  have K3 := rimage_any r m T w D
  have hlen := U.len
  have hbyt := D.ok.byt
  have HS0 : Hid (st T 0 = stand ((T.bs.drop 0).take 32)) := rfl
  have HS1 : Hid (st T 1 = stand ((T.bs.drop 32).take 32)) := rfl
  obtain ⟨bs, hbs⟩ : ∃ bs, T.bs = bs := ⟨_, rfl⟩
  rw [hbs] at K3 hlen hbyt HS0 HS1
  rw [HS0.out, HS1.out]
  clear hbs U HS0 HS1
  go_enter Tryd.func33, Tryd.ntmps33
  go_wp2_with (first
    | (go_at_call 47; refine K.mono ?_; rintro e w1 ⟨rfl, hw⟩; rw [hw]; clear hw)
    | (go_at_call 48; refine K2.mono ?_; rintro e w1 ⟨rfl, hw⟩; rw [hw]; clear hw)
    | (go_at_call 14; refine K3.mono ?_; rintro e w2 ⟨v, rfl, O2, b2⟩; obtain ⟨ao, no, co, rfl, RO, hno, hco, hbk⟩ := O2.row hbyt))
  have hle := RO.le
  obtain ⟨b, off, rfl, hbz, _⟩ := RO.mem.resolve_left (by omega)
  have h64 : 64 ≤ no := by omega
  have R1 := Row.cutB RO 0 32 co (by omega) (by omega)
  have R2 := Row.cutB RO 32 32 (co - 32) (by omega) (by omega)
  rw [Nat.add_zero] at R1
  have hco1 : (32 : Int) ≤ (co : Int) := by omega
  have hco2 : (64 : Int) ≤ (co : Int) := by omega
  have hco3 : ¬ co = 32 := by omega
  have hco4 : ¬ co = 0 := by omega
  obtain ⟨n0, hn0⟩ : ∃ n0, bs.length = n0 := ⟨_, rfl⟩
  clear hno hbk O2 RO
  refine wp_region_any (by kernel_rfl) ?_
  change wpAny _ _ _ _ _ _ _ (World.drew _)
  obtain ⟨wd, hwd⟩ : ∃ wd, World.drew w2 = wd := ⟨_, rfl⟩
  rw [hwd]
  have R1d := R1.drew
  have R2d := R2.drew
  have bd := b2.drew
  rw [hwd] at R1d R2d bd
  clear hwd R1 R2 b2
  refine any_take 0 13 (.slice (some ⟨b, off, none⟩) bs.length co) rfl rfl (by kernel_rfl) (by kernel_rfl) (by kernel_rfl) (fun _ _ _ h => h) (Or.inl ⟨by rfl, by intro X; go_simp⟩) ?_
  try simp only [Act.put, List.setIfInBounds_toArray, List.set_cons_zero, List.set_cons_succ]
  refine any_take 1 14 (.slice (some ⟨b, off, none⟩) 32 co) rfl rfl (by kernel_rfl) (by kernel_rfl) (by kernel_rfl) (fun _ _ _ h => h) (Or.inl ⟨by rfl, by intro X; go_simp⟩) ?_
  try simp only [Act.put, List.setIfInBounds_toArray, List.set_cons_zero, List.set_cons_succ]
  refine any_take 3 16 (.slice (some ⟨b, off, none⟩) bs.length co) rfl rfl (by kernel_rfl) (by kernel_rfl) (by kernel_rfl) (fun _ _ _ h => h) (Or.inl ⟨by rfl, by intro X; go_simp⟩) ?_
  try simp only [Act.put, List.setIfInBounds_toArray, List.set_cons_zero, List.set_cons_succ]
  refine any_take 4 17 (.slice (some ⟨b, off + 32, none⟩) 32 (co - 32)) rfl rfl (by kernel_rfl) (by kernel_rfl) (by kernel_rfl) (fun _ _ _ h => h) (Or.inl ⟨by rfl, by intro X; go_simp⟩) ?_
  try simp only [Act.put, List.setIfInBounds_toArray, List.set_cons_zero, List.set_cons_succ]
  refine wpAny_ready (rs := [2]) (by kernel_rfl) (by simp) ?_
  refine AllReady.cons rfl (fun K hK => ?_) AllReady.nil
  go_simp
  go_wp2_with (go_at_call 49; refine (stands_x _ co _ wd R1d).mono ?_; rintro e w3 ⟨rfl, b3⟩)
  refine wpAny_ready (rs := [5]) (by kernel_rfl) (by simp) ?_
  refine AllReady.cons rfl (fun K hK => ?_) AllReady.nil
  go_simp
  go_wp2_with (go_at_call 49; refine (stands_x _ (co - 32) _ w3 (R2d.below b3)).mono ?_; rintro e w4 ⟨rfl, b4⟩)
  refine any_take 6 2 (.int .i64 ((stand ((bs.drop 0).take 32) : Nat) : Int)) rfl rfl (by kernel_rfl) (by kernel_rfl) (by kernel_rfl) (fun _ _ _ h => h) (Or.inl ⟨by rfl, by intro X; go_simp⟩) ?_
  try simp only [Act.put, List.setIfInBounds_toArray, List.set_cons_zero, List.set_cons_succ]
  refine any_take 7 3 (.int .i64 ((stand ((bs.drop 32).take 32) : Nat) : Int)) rfl rfl (by kernel_rfl) (by kernel_rfl) (by kernel_rfl) (fun _ _ _ h => h) (Or.inl ⟨by rfl, by intro X; go_simp⟩) ?_
  try simp only [Act.put, List.setIfInBounds_toArray, List.set_cons_zero, List.set_cons_succ]
  refine any_take 8 4 (.int .i64 0) rfl rfl (by kernel_rfl) (by kernel_rfl) (by kernel_rfl) (fun _ _ _ h => h) (Or.inl ⟨by rfl, by intro X; go_simp⟩) ?_
  try simp only [Act.put, List.setIfInBounds_toArray, List.set_cons_zero, List.set_cons_succ]
  refine wpAny_done (by kernel_rfl) ?_ _
  go_wp2
  refine bodyPost_ret (v := .tuple #[.int .i64 ((stand ((bs.drop 0).take 32) : Nat) : Int), .int .i64 ((stand ((bs.drop 32).take 32) : Nat) : Int), .int .i64 0]) (by simp [results, Tryd.results33, go_sem]) rfl ⟨rfl, ?_⟩
  have b34 := b3.trans (b4.mono b3.size)
  exact bd.trans (b34.mono bd.size)
/-- The document's Slots, whatever the disk. -/
theorem rslots_any (r m : Nat) (T : DS) (w : World) (D : DkR w r m T) : Calls Tryd.prog 33 #[.pointer (some ⟨r, 0, none⟩)] w fun e w' => e = .returned (.tuple #[.int .i64 ((sl0 T : Nat) : Int), .int .i64 ((sl1 T : Nat) : Int), .int .i64 (ldC T)]) ∧ Below w.heap.size w w' := by
  cases hg : T.gone with
  | true =>
    have hC : ldC T = 32 := by unfold ldC; rw [hg, if_pos rfl]
    have hV : ldV T = zr 64 := ldV_no (by rw [hC]; decide)
    unfold sl0 sl1
    rw [hV, sl_zr 0 (by omega), sl_zr 1 (by omega), hC]
    exact rslots_dead r m T w D hg
  | false =>
    by_cases h4 : T.n < 4
    · have hC : ldC T = 31 := by unfold ldC; rw [hg, if_neg (by simp), if_pos h4]
      have hV : ldV T = zr 64 := ldV_no (by rw [hC]; decide)
      unfold sl0 sl1
      rw [hV, sl_zr 0 (by omega), sl_zr 1 (by omega), hC]
      exact rslots_few r m T w D hg h4
    · have U : Up T := ⟨D.ok, hg, by omega⟩
      rw [U.sl0, U.sl1, U.ldC]
      exact rslots_up r m T w D U
end Go.Proofs.YtaacggbfoejjhaaDoor
