/-
  The law CodeFields, walked.
-/
import Derived.Test.YtfgniilihdimgaaAwake
import Derived.Test.YtfgniilihdimgaaRefFields
import Derived.Test.YtfgniilihdimgaaHeld
namespace Go.Proofs.Ytfgniilihdimgaa
open Go.ChangeShapes Go.WideShapes Go.ChangeAt Go.RowKit
set_option linter.unusedVariables false
set_option linter.unusedSimpArgs false

theorem out_byte {w : World} {a : Option Addr} {len cap : Nat} {fs : List Fld} (R : RowF w a len cap fs) : ∀ c ∈ fldsOut fs, 0 ≤ c ∧ c < 256 := by
  unfold fldsOut
  split
  · rename_i h; exact flds_byte_take R.wf h
  · intro c hc; cases hc

set_option maxRecDepth 100000 in
set_option maxHeartbeats 4000000 in
theorem fields_walk (a : Option Addr) (len cap : Nat) (fs : List Fld) (w : World) (R : RowF w a len cap fs) (hl : len ≤ 70368744170000) (hT : (flds fs).length ≤ 70368740000000) :
    Calls Try.prog 4 #[.slice a len cap] w fun e w' => e = .returned (.bool true) ∧ Below w.heap.size w w' := by
  have hby := out_byte R
  go_enter Try.func4, Try.ntmps4
  go_wp2
  refine wp_region_any (by kernel_rfl) ?_
  change wpAny _ _ _ _ _ _ _ (World.drew _)
  refine any_take 0 3 (.slice a len cap) rfl rfl (by kernel_rfl) (by kernel_rfl) (by kernel_rfl) (fun _ _ _ h => h) (Or.inl ⟨by rfl, by intro w; go_simp⟩) ?_
  try simp only [Act.put, List.setIfInBounds_toArray, List.set_cons_zero, List.set_cons_succ]
  refine any_take 3 6 (.slice a len cap) rfl rfl (by kernel_rfl) (by kernel_rfl) (by kernel_rfl) (fun _ _ _ h => h) (Or.inl ⟨by rfl, by intro w; go_simp⟩) ?_
  try simp only [Act.put, List.setIfInBounds_toArray, List.set_cons_zero, List.set_cons_succ]
  refine wpAny_ready (rs := [1]) (by kernel_rfl) (by simp) ?_
  refine AllReady.cons rfl (fun K hK => ?_) AllReady.nil
  go_simp
  go_wp2_with (go_at_call 20; refine (fields_any _ _ _ fs _ (RowF.below R (Below.refl _ _).drew) hl hT).mono ?_; rintro e w2 ⟨v2, rfl, o2, b2⟩; obtain ⟨a2, n2, c2, hv2, r2⟩ := o2.rowN hby; subst hv2)
  have b2' : Below w.heap.size w w2 := (Below.refl _ _).drew.trans b2
  have R2 := RowF.below R b2'
  refine wpAny_narrow (fun W' => Below w2.heap.size w2 W') _ _ _ _ ?_
  refine anyH_take 2 5 (.string (strOfNums (fldsOut fs))) rfl rfl (by kernel_rfl) (by kernel_rfl) (by kernel_rfl) (fun _ _ _ h => h) (Or.inl ⟨by rfl, by intro w hSw; have kk := conv_row (r2.below hSw); go_simp⟩) (Below.refl _ _) ?_
  try simp only [Act.put, List.setIfInBounds_toArray, List.set_cons_zero, List.set_cons_succ]
  refine wpAnyH_ready (rs := [4]) (by kernel_rfl) (by simp) ?_
  refine AllReadyH.cons rfl (fun K hK => ?_) AllReadyH.nil
  go_simp
  go_wp2_with (go_at_call 21; refine (rfields_any _ _ _ fs _ R2 hl hT).mono ?_; rintro e w3 ⟨v3, rfl, o3, b3⟩; obtain ⟨a3, n3, c3, hv3, r3⟩ := o3.rowN hby; subst hv3)
  refine hK.out _ _ (b3) (fun hS => ?_)
  clear hK
  refine wpAnyH_narrow (fun W' => Below w3.heap.size w3 W') (fun _ h => b3.trans (h.mono b3.size)) _ _ _ _ ?_
  refine anyH_take 5 8 (.string (strOfNums (fldsOut fs))) rfl rfl (by kernel_rfl) (by kernel_rfl) (by kernel_rfl) (fun _ _ _ h => h) (Or.inl ⟨by rfl, by intro w hSw; have kk := conv_row (r3.below hSw); go_simp⟩) (Below.refl _ _) ?_
  try simp only [Act.put, List.setIfInBounds_toArray, List.set_cons_zero, List.set_cons_succ]
  refine anyH_take 6 9 (.bool true) rfl rfl (by kernel_rfl) (by kernel_rfl) (by kernel_rfl) (fun _ _ _ h => h) (Or.inl ⟨by rfl, by intro w hSw; go_simp⟩) (Below.refl _ _) ?_
  try simp only [Act.put, List.setIfInBounds_toArray, List.set_cons_zero, List.set_cons_succ]
  refine anyH_take 7 10 (.bool true) rfl rfl (by kernel_rfl) (by kernel_rfl) (by kernel_rfl) (fun _ _ _ h => h) (Or.inl ⟨by rfl, by intro w hSw; go_simp⟩) (Below.refl _ _) ?_
  try simp only [Act.put, List.setIfInBounds_toArray, List.set_cons_zero, List.set_cons_succ]
  refine wpAnyH_ready (rs := [8]) (by kernel_rfl) (by simp) ?_
  refine AllReadyH.cons rfl (fun K hK => ?_) AllReadyH.nil
  go_simp
  go_wp2_with (go_at_call 19; refine (awake_any _).mono ?_; rintro e w4 ⟨rfl, b4⟩)
  refine hK.out _ _ (b4) (fun hS => ?_)
  clear hK
  refine anyH_take 9 12 (.bool true) rfl rfl (by kernel_rfl) (by kernel_rfl) (by kernel_rfl) (fun _ _ _ h => h) (Or.inl ⟨by rfl, by intro w hSw; go_simp⟩) (b4) ?_
  try simp only [Act.put, List.setIfInBounds_toArray, List.set_cons_zero, List.set_cons_succ]
  refine anyH_take 10 2 (.bool true) rfl rfl (by kernel_rfl) (by kernel_rfl) (by kernel_rfl) (fun _ _ _ h => h) (Or.inl ⟨by rfl, by intro w hSw; go_simp⟩) (b4) ?_
  try simp only [Act.put, List.setIfInBounds_toArray, List.set_cons_zero, List.set_cons_succ]
  refine wpAnyH_done (by kernel_rfl) ?_ _
  go_wp2
  go_ret
  exact ⟨rfl, (b2'.trans (b3.mono b2'.size)).trans (b4.mono (by have := b2'.size; have := b3.size; omega))⟩

end Go.Proofs.Ytfgniilihdimgaa
