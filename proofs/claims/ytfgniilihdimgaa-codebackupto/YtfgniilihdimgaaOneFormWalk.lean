/-
  The law CodeOneForm, walked.
-/
import Derived.Test.YtfgniilihdimgaaAwake
import Derived.Test.YtfgniilihdimgaaRefRead
import Derived.Test.YtfgniilihdimgaaRefFields
import Derived.Test.YtfgniilihdimgaaSame
import Derived.Test.YtfgniilihdimgaaBackMath
import Derived.Test.YtfgniilihdimgaaHeld
import Derived.Deep.DeepCutAuto
namespace Go.Proofs.Ytfgniilihdimgaa
open Go.ChangeShapes Go.WideShapes Go.ChangeAt Go.RowKit
set_option linter.unusedVariables false
set_option linter.unusedSimpArgs false

theorem fld_err_ne {k : Int} {bs : List Int} {c : Int} (h : fld k bs = .error c) : c ≠ 0 := by
  unfold fld at h
  split at h
  · cases hr : natR (num bs) with
    | error d => rw [hr] at h; cases h; exact nat_err (fun c h => err_pos h) hr
    | ok q => obtain ⟨x, n⟩ := q; rw [hr] at h; cases h
  · split at h
    · cases hr : num bs with
      | error d => rw [hr] at h; cases h; rcases err_pos hr with h | h <;> omega
      | ok q => obtain ⟨x, n⟩ := q; rw [hr] at h; cases h
    · split at h
      · cases hr : txtR bs with
        | error d => rw [hr] at h; cases h; exact txt_err hr
        | ok q => obtain ⟨x, n⟩ := q; rw [hr] at h; cases h
      · split at h
        · cases hr : flgR bs with
          | error d => rw [hr] at h; cases h; exact flg_err hr
          | ok q => obtain ⟨x, n⟩ := q; rw [hr] at h; cases h
        · cases h; omega
theorem rd_err_ne {ks zs : List Int} {c : Int} (h : rd ks zs = .error c) : c ≠ 0 := by
  obtain ⟨k, j, hf⟩ := rdF_err' h
  exact fld_err_ne hf
theorem Row.pre0 {kd : IntKind} {w : World} {a : Option Addr} {len cap : Nat} {zs : List Int} (R : Row kd w a len cap zs) {k : Nat} (hk : k ≤ len) : Row kd w a k cap (zs.take k) where
  size := by have := R.size; simp; omega
  le := by have := R.le; omega
  nil := fun h => by have := R.nil h; omega
  wf := fun z hz => R.wf z (List.mem_of_mem_take hz)
  mem := by
    by_cases h0 : k = 0
    · exact .inl h0
    · obtain ⟨b, off, e, hb, hc⟩ := R.mem.resolve_left (by omega)
      refine .inr ⟨b, off, e, hb, fun i hi => ?_⟩
      rw [hc i (by omega), List.getD_eq_getElem?_getD, List.getD_eq_getElem?_getD, List.getElem?_take, if_pos hi]
theorem own_fields {base : Nat} {w : World} {v : Value} {fs : List Fld} (h : OwnF base w v fs) (hw : ∀ f ∈ fs, okF f) : ∃ a cap, v = .slice a fs.length cap ∧ RowF w a fs.length cap fs := by
  obtain ⟨a, cap, hv, hf⟩ := h.fs
  refine ⟨a, cap, hv, rfl, ?_, ?_, hw, hf.mem⟩
  · have h0 : w.ownsRow base 50 4 v fs.length (fs.flatMap fcells) := h
    rcases h0.2 with ⟨h1, _⟩ | ⟨g, c, cur, h1, hg, hh, hn, _⟩
    · rw [hv] at h1; injection h1; omega
    · rw [hv] at h1; injection h1; omega
  · intro ha
    have h0 : w.ownsRow base 50 4 v fs.length (fs.flatMap fcells) := h
    rcases h0.2 with ⟨h1, _⟩ | ⟨g, c, cur, h1, _⟩
    · rw [hv] at h1; injection h1 with _ h2 h3; exact ⟨h2, h3⟩
    · rw [hv, ha] at h1; cases h1

set_option maxRecDepth 100000 in
set_option maxHeartbeats 4000000 in
theorem oneForm_walk (a : Option Addr) (len cap : Nat) (zs : List Int) (a2 : Option Addr) (len2 cap2 : Nat) (ks : List Int) (w : World) (R : Row .u8 w a len cap zs) (K : Row .i64 w a2 len2 cap2 ks)
    (hl : len ≤ 1048576) (hc : cap ≤ 9223372036854775807) (hl2 : len2 ≤ 1048576) :
    Calls Try.prog 7 #[.slice a len cap, .slice a2 len2 cap2] w fun e w' => e = .returned (.bool true) ∧ Below w.heap.size w w' := by
  cases hr : rd ks zs with
  | error c =>
    have hne : (c != 0) = true := by simpa using rd_err_ne hr
    have HR : Hid (rd ks zs = .error c) := hr
    clear hr
    go_enter Try.func7, Try.ntmps7
    go_wp2_with (first
      | (go_at_call 22; refine (read_error _ _ _ zs _ _ _ ks _ R K (by omega) hc (by omega) c HR.out).mono ?_; rintro e w1 ⟨rfl, b1⟩)
      | (go_at_call 19; refine (awake_any _).mono ?_; rintro e w4 ⟨rfl, b4⟩))
    go_ret
    exact ⟨rfl, b1.trans (b4.mono b1.size)⟩
  | ok r =>
    obtain ⟨fs, n⟩ := r
    have HR : Hid (rd ks zs = .ok (fs, n)) := hr
    obtain ⟨g1, g2, g3, g4⟩ := rd_form R.byte (by rw [R.size]; omega) hr
    rw [R.size] at g3
    have HO : Hid (fldsOut fs = zs.take n) := by
      show _ = _
      unfold fldsOut
      rw [List.all_eq_true.2 g1, g4]
      rfl
    have hfl : fs.length ≤ 70368744170000 := by
      have h1 : fs.length = ks.length := by
        have : ∀ (ks : List Int) (acc : List Fld) (i : Nat) (fs : List Fld) (n : Nat), rdF ks zs acc i = .ok (fs, n) → fs.length = acc.length + ks.length := by
          intro ks
          induction ks with
          | nil => intro acc i fs n h; simp [rdF] at h; rw [h.1]; simp
          | cons k ks ih =>
            intro acc i fs n h
            simp only [rdF] at h
            split at h
            · have := ih _ _ _ _ h; simp at this ⊢; omega
            · cases h
        simpa using this ks [] 0 fs n hr
      have := K.size
      omega
    have hT : (flds fs).length ≤ 70368740000000 := by rw [g4]; simp; omega
    have hby : ∀ c ∈ zs.take n, 0 ≤ c ∧ c < 256 := fun c hc => R.byte c (List.mem_of_mem_take hc)
    have hlc := R.le
    have HG : Hid (∀ f ∈ fs, okF f) := g2
    clear hr g1 g4 g2
    have b0 : (n : Int) ≤ (len : Int) := by omega
    have b5 : (n : Int) ≤ (cap : Int) := by omega
    have HC : Hid (∀ W', Row .u8 W' a len cap zs → (convert 22 9 (.slice a n cap)).run Try.prog W' = .ok (.string (strOfNums (zs.take n))) W') :=
      fun W' R' => conv_row (R'.pre0 g3)
    go_enter Try.func7, Try.ntmps7
    go_wp2_with (go_at_call 22; refine (read_fields _ _ _ zs _ _ _ ks _ R K (by omega) hc (by omega) fs n HR.out).mono ?_; rintro e w1 ⟨v1, rfl, o1, b1⟩; obtain ⟨a3, c3, hv, F0⟩ := own_fields o1 HG.out; subst hv)
    have R1 := R.below b1
    have F1 := F0.below (Below.refl _ _).drew
    go_wp2
    refine wp_region_any (by kernel_rfl) ?_
    change wpAny _ _ _ _ _ _ _ (World.drew _)
    refine any_take 0 27 (.int .i64 n) rfl rfl (by kernel_rfl) (by kernel_rfl) (by kernel_rfl) (fun _ _ _ h => h) (Or.inl ⟨by rfl, by intro w; go_simp⟩) ?_
    try simp only [Act.put, List.setIfInBounds_toArray, List.set_cons_zero, List.set_cons_succ]
    refine any_take 1 28 (.slice a len cap) rfl rfl (by kernel_rfl) (by kernel_rfl) (by kernel_rfl) (fun _ _ _ h => h) (Or.inl ⟨by rfl, by intro w; go_simp⟩) ?_
    try simp only [Act.put, List.setIfInBounds_toArray, List.set_cons_zero, List.set_cons_succ]
    refine any_take 2 29 (.int .i64 len) rfl rfl (by kernel_rfl) (by kernel_rfl) (by kernel_rfl) (fun _ _ _ h => h) (Or.inl ⟨by rfl, by intro w; go_simp⟩) ?_
    try simp only [Act.put, List.setIfInBounds_toArray, List.set_cons_zero, List.set_cons_succ]
    refine any_take 3 30 (.bool true) rfl rfl (by kernel_rfl) (by kernel_rfl) (by kernel_rfl) (fun _ _ _ h => h) (Or.inl ⟨by rfl, by intro w; go_simp⟩) ?_
    try simp only [Act.put, List.setIfInBounds_toArray, List.set_cons_zero, List.set_cons_succ]
    refine any_take 4 31 (.bool true) rfl rfl (by kernel_rfl) (by kernel_rfl) (by kernel_rfl) (fun _ _ _ h => h) (Or.inl ⟨by rfl, by intro w; go_simp⟩) ?_
    try simp only [Act.put, List.setIfInBounds_toArray, List.set_cons_zero, List.set_cons_succ]
    refine any_take 5 32 (.slice a3 fs.length c3) rfl rfl (by kernel_rfl) (by kernel_rfl) (by kernel_rfl) (fun _ _ _ h => h) (Or.inl ⟨by rfl, by intro w; go_simp⟩) ?_
    try simp only [Act.put, List.setIfInBounds_toArray, List.set_cons_zero, List.set_cons_succ]
    refine any_take 8 35 (.slice a len cap) rfl rfl (by kernel_rfl) (by kernel_rfl) (by kernel_rfl) (fun _ _ _ h => h) (Or.inl ⟨by rfl, by intro w; go_simp⟩) ?_
    try simp only [Act.put, List.setIfInBounds_toArray, List.set_cons_zero, List.set_cons_succ]
    refine any_take 9 36 (.int .i64 n) rfl rfl (by kernel_rfl) (by kernel_rfl) (by kernel_rfl) (fun _ _ _ h => h) (Or.inl ⟨by rfl, by intro w; go_simp⟩) ?_
    try simp only [Act.put, List.setIfInBounds_toArray, List.set_cons_zero, List.set_cons_succ]
    refine any_take 10 37 (.slice a n cap) rfl rfl (by kernel_rfl) (by kernel_rfl) (by kernel_rfl) (fun _ _ _ h => h) (Or.inl ⟨by rfl, by intro w; go_simp⟩) ?_
    try simp only [Act.put, List.setIfInBounds_toArray, List.set_cons_zero, List.set_cons_succ]
    have R1d := R1.drew
    refine wpAny_narrow (fun W' => Below w1.drew.heap.size w1.drew W') _ _ _ _ ?_
    refine anyH_take 11 38 (.string (strOfNums (zs.take n))) rfl rfl (by kernel_rfl) (by kernel_rfl) (by kernel_rfl) (fun _ _ _ h => h) (Or.inl ⟨by rfl, by intro w hSw; have kk := HC.out _ (R1d.below hSw); go_simp⟩) (Below.refl _ _) ?_
    try simp only [Act.put, List.setIfInBounds_toArray, List.set_cons_zero, List.set_cons_succ]
    refine wpAnyH_ready (rs := [6]) (by kernel_rfl) (by simp) ?_
    refine AllReadyH.cons rfl (fun K hK => ?_) AllReadyH.nil
    go_simp
    go_wp2_with (go_at_call 20; refine (fields_any _ _ _ fs _ F1 hfl hT).mono ?_; rintro e w2 ⟨v2, rfl, o2, b2⟩; rw [HO.out] at o2; obtain ⟨a4, n4, c4, hv4, r4⟩ := o2.rowN hby; subst hv4)
    refine hK.out _ _ (b2) (fun hS => ?_)
    clear hK
    refine wpAnyH_narrow (fun W' => Below w2.heap.size w2 W') (fun _ h => b2.trans (h.mono b2.size)) _ _ _ _ ?_
    refine anyH_take 7 34 (.string (strOfNums (zs.take n))) rfl rfl (by kernel_rfl) (by kernel_rfl) (by kernel_rfl) (fun _ _ _ h => h) (Or.inl ⟨by rfl, by intro w hSw; have kk := conv_row (r4.below hSw); go_simp⟩) (Below.refl _ _) ?_
    try simp only [Act.put, List.setIfInBounds_toArray, List.set_cons_zero, List.set_cons_succ]
    refine anyH_take 12 39 (.bool true) rfl rfl (by kernel_rfl) (by kernel_rfl) (by kernel_rfl) (fun _ _ _ h => h) (Or.inl ⟨by rfl, by intro w hSw; go_simp⟩) (Below.refl _ _) ?_
    try simp only [Act.put, List.setIfInBounds_toArray, List.set_cons_zero, List.set_cons_succ]
    refine anyH_take 13 40 (.bool true) rfl rfl (by kernel_rfl) (by kernel_rfl) (by kernel_rfl) (fun _ _ _ h => h) (Or.inl ⟨by rfl, by intro w hSw; go_simp⟩) (Below.refl _ _) ?_
    try simp only [Act.put, List.setIfInBounds_toArray, List.set_cons_zero, List.set_cons_succ]
    refine anyH_take 14 41 (.bool true) rfl rfl (by kernel_rfl) (by kernel_rfl) (by kernel_rfl) (fun _ _ _ h => h) (Or.inl ⟨by rfl, by intro w hSw; go_simp⟩) (Below.refl _ _) ?_
    try simp only [Act.put, List.setIfInBounds_toArray, List.set_cons_zero, List.set_cons_succ]
    refine wpAnyH_ready (rs := [15]) (by kernel_rfl) (by simp) ?_
    refine AllReadyH.cons rfl (fun K hK => ?_) AllReadyH.nil
    go_simp
    go_wp2_with (go_at_call 19; refine (awake_any _).mono ?_; rintro e w4 ⟨rfl, b4⟩)
    refine hK.out _ _ (b4) (fun hS => ?_)
    clear hK
    refine anyH_take 16 43 (.bool true) rfl rfl (by kernel_rfl) (by kernel_rfl) (by kernel_rfl) (fun _ _ _ h => h) (Or.inl ⟨by rfl, by intro w hSw; go_simp⟩) (b4) ?_
    try simp only [Act.put, List.setIfInBounds_toArray, List.set_cons_zero, List.set_cons_succ]
    refine anyH_take 17 4 (.bool true) rfl rfl (by kernel_rfl) (by kernel_rfl) (by kernel_rfl) (fun _ _ _ h => h) (Or.inl ⟨by rfl, by intro w hSw; go_simp⟩) (b4) ?_
    try simp only [Act.put, List.setIfInBounds_toArray, List.set_cons_zero, List.set_cons_succ]
    refine wpAnyH_done (by kernel_rfl) ?_ _
    go_wp2
    go_ret
    exact ⟨rfl, (b1.drew.trans (b2.mono b1.size)).trans (b4.mono (by have := b1.size; have := b2.size; simp at this; omega))⟩

end Go.Proofs.Ytfgniilihdimgaa
