/-
  The law CodeBack, walked.
-/
import Derived.Test.YtfgniilihdimgaaAwake
import Derived.Test.YtfgniilihdimgaaKinds
import Derived.Test.YtfgniilihdimgaaSame
import Derived.Test.YtfgniilihdimgaaBackMath
import Derived.Test.YtfgniilihdimgaaOneFormWalk
namespace Go.Proofs.Ytfgniilihdimgaa
open Go.ChangeShapes Go.WideShapes Go.ChangeAt Go.RowKit
set_option linter.unusedVariables false

theorem rem_k (at_ : Int) (n : Nat) (h0 : 0 < n) (hn : (n : Int) ≤ 9223372036854775807) : ∃ K : Nat, wrap64 ((IntKind.u64.wrap at_).tmod (n : Int)) = (K : Int) ∧ K < n := by
  have h1 : 0 ≤ IntKind.u64.wrap at_ := by rw [IntKind.wrap_u64]; omega
  rw [Int.tmod_eq_emod_of_nonneg h1]
  have h2 := Int.emod_nonneg (IntKind.u64.wrap at_) (b := (n : Int)) (by omega)
  have h3 := Int.emod_lt_of_pos (IntKind.u64.wrap at_) (b := (n : Int)) (by omega)
  generalize IntKind.u64.wrap at_ % (n : Int) = m at *
  refine ⟨m.toNat, ?_, by omega⟩
  unfold wrap64
  omega

theorem app_byte2 {zs ys : List Int} (h : ∀ c ∈ zs, 0 ≤ c ∧ c < 256) (h' : ∀ c ∈ ys, 0 ≤ c ∧ c < 256) : ∀ c ∈ zs ++ ys, 0 ≤ c ∧ c < 256 := by
  intro c hc
  rcases List.mem_append.1 hc with hc | hc
  · exact h c hc
  · exact h' c hc
theorem Own.rowC {base : Nat} {w : World} {v : Value} {zs : List Int} (h : Own base w v zs) (hb : ∀ c ∈ zs, 0 ≤ c ∧ c < 256) : ∃ a n cap, v = .slice a n cap ∧ Row .u8 w a n cap zs ∧ cap ≤ 9223372036854775807 := by
  obtain ⟨a, c, h1, h2⟩ := h.row hb
  have h0 : w.ownsRow base 5 1 v zs.length (zs.map bv) := h
  refine ⟨a, _, c, h1, h2, ?_⟩
  rcases h0.2 with ⟨h3, _⟩ | ⟨g, cp, cur, h3, hg, hh, hn, hc, _⟩
  · rw [h1] at h3; injection h3; omega
  · rw [h1] at h3; injection h3; unfold maxLen at hc; omega

theorem kinds_fit (a : Option Addr) (len cap : Nat) (fs : List Fld) (w : World) (R : RowF w a len cap fs) (hl : len ≤ 1048576) (hcm : cap ≤ 9223372036854775807) (h : fs.all fitF = true) :
    Calls Try.prog 25 #[.slice a len cap] w fun e w' => ∃ a n c, e = .returned (.tuple #[.slice a n c, .bool true]) ∧ Row .i64 w' a n c (fs.map Fld.kind) ∧ Below w.heap.size w w' :=
  (kinds_any a len cap fs w R hl hcm).mono fun e w' h' => by
    rcases h'.2 with ⟨_, a, n, c, h1, h2⟩ | ⟨h1, _⟩
    · exact ⟨a, n, c, h1, h2, h'.1⟩
    · rw [h] at h1; cases h1
theorem kinds_not (a : Option Addr) (len cap : Nat) (fs : List Fld) (w : World) (R : RowF w a len cap fs) (hl : len ≤ 1048576) (hcm : cap ≤ 9223372036854775807) (h : fs.all fitF = false) :
    Calls Try.prog 25 #[.slice a len cap] w fun e w' => e = .returned (.tuple #[.slice none 0 0, .bool false]) ∧ Below w.heap.size w w' :=
  (kinds_any a len cap fs w R hl hcm).mono fun e w' h' => by
    rcases h'.2 with ⟨h1, _⟩ | ⟨_, h1⟩
    · rw [h] at h1; cases h1
    · exact ⟨h1, h'.1⟩

set_option maxRecDepth 100000 in
set_option maxHeartbeats 4000000 in
theorem back_walk (a : Option Addr) (len cap : Nat) (fs : List Fld) (a2 : Option Addr) (len2 cap2 : Nat) (ms : List Int) (cut : Int) (w : World) (R : RowF w a len cap fs) (M : Row .u8 w a2 len2 cap2 ms)
    (hl : len ≤ 1048576) (hc : cap ≤ 9223372036854775807) (hT : (flds fs).length ≤ 2097152) (hl2 : len2 ≤ 1048576) :
    Calls Try.prog 6 #[.slice a len cap, .slice a2 len2 cap2, .int .i64 cut] w fun e w' => e = .returned (.bool true) ∧ Below w.heap.size w w' := by
  have hlen := R.size
  subst hlen
  by_cases hfit : fs.all fitF = true
  · have hf := List.all_eq_true.1 hfit
    have HO : Hid (fldsOut fs = flds fs) := by show _ = _; unfold fldsOut; rw [hfit]; rfl
    have hby := flds_byte_take R.wf hfit
    have HB : Hid (rd (fs.map Fld.kind) (flds fs ++ ms) = .ok (fs, (flds fs).length)) := rd_back fs ms hf R.wf
    have HS : Hid (∀ m, m < (flds fs).length → rd (fs.map Fld.kind) ((flds fs).take m) = .error 21) := fun m hm => rd_short fs m hf R.wf hm
    have hms := M.byte
    have HFIT : Hid (fs.all fitF = true) := hfit
    have hkl : (fs.map Fld.kind).length ≤ 1048576 := by simp; omega
    clear hfit hf
    go_enter Try.func6, Try.ntmps6
    go_wp2_with (first
      | (go_at_call 25; refine (kinds_fit _ _ _ fs _ R hl hc HFIT.out).mono ?_; rintro e w1 ⟨a1, n1, c1, rfl, K1, b1⟩; have R1 := R.below b1; have M1 := M.below b1)
      | (go_at_call 20; refine (fields_any _ _ _ fs _ R1 (by omega) (by omega)).mono ?_; rintro e w2 ⟨v2, rfl, o2, b2⟩; rw [HO.out] at o2; obtain ⟨a4, n4, c4, hv4, r4, hc4⟩ := o2.rowC hby; subst hv4; have M2 := M1.below b2; have K2 := K1.below b2; have F2 := (R1.below b2).at; have B2 : Below w.heap.size w w2 := b1.trans (b2.mono b1.size); have HN4 : Hid ((flds fs).length = n4) := r4.size)
      | (at_builtin; refine wpList_append_row _ rfl (.tmp 34) (.tmp 35) rfl w2.heap.size _ [] rfl (Own.nil _ _) _ _ _ (flds fs) rfl r4 (Nat.le_refl _) (by have := HN4.out; simp; omega) ?_; intro v5 w3 o5 b5; replace o5 : Own w2.heap.size w3 v5 (flds fs) := o5; have M3 := M2.below b5)
      | (at_builtin; refine wpList_append_row _ rfl (.tmp 36) (.tmp 37) rfl w2.heap.size _ (flds fs) rfl o5 _ _ _ ms rfl M3 b5.size (by omega) ?_; intro v6 w4 o6 b6; obtain ⟨a6, n6, c6, hv6, r6, hc6⟩ := o6.rowC (app_byte2 hby hms); subst hv6)
      | fail)
    have B4 : Below w2.heap.size w2 w4 := b5.trans b6
    have K4 := K2.below B4
    have hn4 : n4 ≤ 2097152 := by have := HN4.out; omega
    have hn6 : n6 ≤ 70368744170000 := by have h1 := r6.size; have h2 := M.size; rw [List.length_append] at h1; omega
    have hn1 : n1 ≤ 1099511627776 := by have := K1.size; omega
    have HB4 : Hid (rd (fs.map Fld.kind) (flds fs ++ ms) = .ok (fs, n4)) := by show _ = _; rw [← HN4.out]; exact HB.out
    clear M M1 M2 M3 o2 o5 o6 b5 b6 K1 K2
    refine (read_fields _ _ _ _ _ _ _ _ _ r6 K4 hn6 hc6 hn1 fs n4 HB4.out).mono ?_
    rintro e w5 ⟨v7, rfl, o7, b7⟩
    obtain ⟨a7, c7, hv7, F7⟩ := o7.fs
    subst hv7
    have B5 : Below w2.heap.size w2 w5 := B4.trans (b7.mono B4.size)
    have F5 := F2.below B5
    have K5 := K4.below b7
    have r5 := r4.below B5
    have hfl : fs.length ≤ 9223372036854775806 := by omega
    clear b7 o7 B4 K4 r6
    by_cases h0 : n4 = 0
    · have e0 : ((n4 : Int) == 0) = true := by simp; omega
      clear h0
      go_wp2_with (first
        | (go_at_call 24; refine (same_true _ _ _ _ _ fs _ F7 F5 hfl).mono ?_; rintro e w6 ⟨rfl, b8⟩)
        | (go_at_call 19; refine (awake_any _).mono ?_; rintro e w7 ⟨rfl, b9⟩))
      go_ret
      have z1 := B2.size
      have z2 := B5.size
      have z3 := b8.size
      exact ⟨rfl, ((B2.trans (B5.mono z1)).trans (b8.mono (by omega))).trans (b9.mono (by omega))⟩
    · have e0 : ((n4 : Int) == 0) = false := by simp; omega
      obtain ⟨K, hK, hKl⟩ := rem_k cut n4 (by omega) (by omega)
      have h0' : ¬ (n4 : Int) = 0 := by omega
      have p0 : (0 : Int) < (n4 : Int) := by omega
      have hle4 := r4.le
      have k0 : (0 : Int) ≤ (K : Int) := by omega
      have k1 : (K : Int) ≤ (c4 : Int) := by omega
      have HS4 : Hid (rd (fs.map Fld.kind) ((flds fs).take K) = .error 21) := HS.out K (by have := HN4.out; omega)
      clear h0
      go_wp2_with (go_at_call 24; refine (same_true _ _ _ _ _ fs _ F7 F5 hfl).mono ?_; rintro e w6 ⟨rfl, b8⟩)
      have r8 := (r5.below b8).pre0 (k := K) (by omega)
      have K8 := K5.below b8
      refine (read_error _ _ _ _ _ _ _ _ _ r8 K8 (by omega) hc4 hn1 21 HS4.out).mono ?_
      rintro e w7 ⟨rfl, b9⟩
      go_wp2_with (go_at_call 19; refine (awake_any _).mono ?_; rintro e w8 ⟨rfl, b10⟩)
      go_ret
      have z1 := B2.size
      have z2 := B5.size
      have z3 := b8.size
      have z4 := b9.size
      exact ⟨rfl, (((B2.trans (B5.mono z1)).trans (b8.mono (by omega))).trans (b9.mono (by omega))).trans (b10.mono (by omega))⟩
  · have hfit : fs.all fitF = false := by simpa using hfit
    have HO : Hid (fldsOut fs = []) := by show _ = _; unfold fldsOut; rw [hfit]; rfl
    have HN : Hid (fs.all fitF = false) := hfit
    clear hfit
    go_enter Try.func6, Try.ntmps6
    go_wp2_with (first
      | (go_at_call 25; refine (kinds_not _ _ _ fs _ R hl hc HN.out).mono ?_; rintro e w1 ⟨rfl, b1⟩; have R1 := R.below b1)
      | (go_at_call 20; refine (fields_any _ _ _ fs _ R1 (by omega) (by omega)).mono ?_; rintro e w2 ⟨v2, rfl, o2, b2⟩; rw [HO.out] at o2; obtain ⟨a4, c4, hv4⟩ := own_len o2; replace hv4 : v2 = .slice a4 0 c4 := hv4; subst hv4)
      | (go_at_call 19; refine (awake_any _).mono ?_; rintro e w4 ⟨rfl, b4⟩))
    go_ret
    exact ⟨rfl, (b1.trans (b2.mono b1.size)).trans (b4.mono (by have := b1.size; have := b2.size; omega))⟩

end Go.Proofs.Ytfgniilihdimgaa
