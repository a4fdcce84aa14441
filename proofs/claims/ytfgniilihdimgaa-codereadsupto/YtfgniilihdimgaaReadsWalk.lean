/-
  The law CodeReads, walked.
-/
import Derived.Test.YtfgniilihdimgaaAwake
import Derived.Test.YtfgniilihdimgaaRefRead
import Derived.Test.YtfgniilihdimgaaSame
namespace Go.Proofs.Ytfgniilihdimgaa
open Go.ChangeShapes Go.WideShapes Go.ChangeAt Go.RowKit
set_option linter.unusedVariables false

theorem rread_error (a : Option Addr) (len cap : Nat) (zs : List Int) (a2 : Option Addr) (len2 cap2 : Nat) (ks : List Int) (w : World) (R : Row .u8 w a len cap zs) (K : Row .i64 w a2 len2 cap2 ks)
    (hl : len ≤ 70368744170000) (hc : cap ≤ 9223372036854775807) (hl2 : len2 ≤ 1099511627776) (c : Int) (h : rd ks zs = .error c) :
    Calls Try.prog 23 #[.slice a len cap, .slice a2 len2 cap2] w fun e w' => e = .returned (.tuple #[.slice none 0 0, .int .i64 0, .int .i64 c]) ∧ Below w.heap.size w w' :=
  (rread_out a len cap zs a2 len2 cap2 ks w R K hl hc hl2 _ h).mono fun e w' h => ⟨h.2, h.1⟩
theorem rread_fields (a : Option Addr) (len cap : Nat) (zs : List Int) (a2 : Option Addr) (len2 cap2 : Nat) (ks : List Int) (w : World) (R : Row .u8 w a len cap zs) (K : Row .i64 w a2 len2 cap2 ks)
    (hl : len ≤ 70368744170000) (hc : cap ≤ 9223372036854775807) (hl2 : len2 ≤ 1099511627776) (fs : List Fld) (n : Nat) (h : rd ks zs = .ok (fs, n)) :
    Calls Try.prog 23 #[.slice a len cap, .slice a2 len2 cap2] w fun e w' => ∃ v, e = .returned (.tuple #[v, .int .i64 n, .int .i64 0]) ∧ OwnF w.heap.size w' v fs ∧ Below w.heap.size w w' :=
  (rread_out a len cap zs a2 len2 cap2 ks w R K hl hc hl2 _ h).mono fun e w' h => let ⟨v, h1, h2⟩ := h.2; ⟨v, h1, h2, h.1⟩
theorem rdF_len {ks zs : List Int} {acc fs : List Fld} {i n : Nat} (h : rdF ks zs acc i = .ok (fs, n)) : fs.length = acc.length + ks.length := by
  induction ks generalizing acc i with
  | nil => simp [rdF] at h; rw [h.1]; simp
  | cons k ks ih =>
    simp only [rdF] at h
    split at h
    · have := ih h; simp at this ⊢; omega
    · cases h
theorem rd_len {ks zs : List Int} {fs : List Fld} {n : Nat} (h : rd ks zs = .ok (fs, n)) : fs.length = ks.length := by
  have := rdF_len h; simpa using this
theorem fs_nil (w : World) : FsAt w none 0 [] := ⟨rfl, .inl rfl⟩

set_option maxHeartbeats 4000000 in
theorem reads_walk (a : Option Addr) (len cap : Nat) (zs : List Int) (a2 : Option Addr) (len2 cap2 : Nat) (ks : List Int) (w : World) (R : Row .u8 w a len cap zs) (K : Row .i64 w a2 len2 cap2 ks)
    (hl : len ≤ 70368744170000) (hc : cap ≤ 9223372036854775807) (hl2 : len2 ≤ 1099511627776) :
    Calls Try.prog 5 #[.slice a len cap, .slice a2 len2 cap2] w fun e w' => e = .returned (.bool true) ∧ Below w.heap.size w w' := by
  cases hr : rd ks zs with
  | error c =>
    have HR : Hid (rd ks zs = .error c) := hr
    clear hr
    go_enter Try.func5, Try.ntmps5
    go_wp2_with (first
      | (go_at_call 22; refine (read_error _ _ _ zs _ _ _ ks _ R K hl hc hl2 c HR.out).mono ?_; rintro e w1 ⟨rfl, b1⟩; have R1 := R.below b1; have K1 := K.below b1)
      | (go_at_call 23; refine (rread_error _ _ _ zs _ _ _ ks _ R1 K1 hl hc hl2 c HR.out).mono ?_; rintro e w2 ⟨rfl, b2⟩)
      | (go_at_call 24; refine (same_true _ _ 0 _ _ [] _ (fs_nil _) (fs_nil _) (by omega)).mono ?_; rintro e w3 ⟨rfl, b3⟩)
      | (go_at_call 19; refine (awake_any _).mono ?_; rintro e w4 ⟨rfl, b4⟩))
    go_ret
    exact ⟨rfl, ((b1.trans (b2.mono b1.size)).trans (b3.mono (by have := b1.size; have := b2.size; omega))).trans (b4.mono (by have := b1.size; have := b2.size; have := b3.size; omega))⟩
  | ok r =>
    obtain ⟨fs, n⟩ := r
    have HR : Hid (rd ks zs = .ok (fs, n)) := hr
    have hfl : fs.length ≤ 9223372036854775806 := by have := rd_len hr; have := K.size; omega
    clear hr
    go_enter Try.func5, Try.ntmps5
    go_wp2_with (first
      | (go_at_call 22; refine (read_fields _ _ _ zs _ _ _ ks _ R K hl hc hl2 fs n HR.out).mono ?_; rintro e w1 ⟨v1, rfl, o1, b1⟩; have R1 := R.below b1; have K1 := K.below b1; obtain ⟨a3, c3, hv, F1⟩ := o1.fs; subst hv)
      | (go_at_call 23; refine (rread_fields _ _ _ zs _ _ _ ks _ R1 K1 hl hc hl2 fs n HR.out).mono ?_; rintro e w2 ⟨v2, rfl, o2, b2⟩; obtain ⟨a4, c4, hv, F2⟩ := o2.fs; subst hv)
      | (go_at_call 24; refine (same_true _ _ _ _ _ fs _ (F1.below b2) F2 hfl).mono ?_; rintro e w3 ⟨rfl, b3⟩)
      | (go_at_call 19; refine (awake_any _).mono ?_; rintro e w4 ⟨rfl, b4⟩))
    go_ret
    exact ⟨rfl, ((b1.trans (b2.mono b1.size)).trans (b3.mono (by have := b1.size; have := b2.size; omega))).trans (b4.mono (by have := b1.size; have := b2.size; have := b3.size; omega))⟩

end Go.Proofs.Ytfgniilihdimgaa
