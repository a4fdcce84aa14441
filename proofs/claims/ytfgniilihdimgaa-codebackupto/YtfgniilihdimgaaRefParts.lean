/-
  The document's own reader: Whole, Int, Truth.
-/
import Derived.Test.YtfgniilihdimgaaRefNum
import Derived.Test.YtfgniilihdimgaaParts
namespace Go.Proofs.Ytfgniilihdimgaa
open Go.ChangeShapes Go.WideShapes Go.ChangeAt Go.RowKit
set_option linter.unusedVariables false

theorem rnum_ok (W0 : World) (a : Option Addr) (len cap : Nat) (zs : List Int) (p i : Nat) (w : World) (P : Rp W0 a len cap zs p i 0 w) (x : Int) (n : Nat) (h : num (zs.drop i) = .ok (x, n)) :
    Calls Try.prog 47 #[.pointer (some ⟨p, 0, none⟩)] w fun e w' => e = .returned (.int .u64 x) ∧ Rp W0 a len cap zs p (i + n) 0 w' ∧ Kp p w w' :=
  (rnum_out W0 a len cap zs p i w P _ h).mono fun e w' h => ⟨h.2.1, h.2.2, h.1⟩
theorem rnum_err (W0 : World) (a : Option Addr) (len cap : Nat) (zs : List Int) (p i : Nat) (w : World) (P : Rp W0 a len cap zs p i 0 w) (c : Int) (h : num (zs.drop i) = .error c) :
    Calls Try.prog 47 #[.pointer (some ⟨p, 0, none⟩)] w fun e w' => e = .returned (.int .u64 0) ∧ (∃ j, Rp W0 a len cap zs p j c w') ∧ Kp p w w' :=
  (rnum_out W0 a len cap zs p i w P _ h).mono fun e w' h => ⟨h.2.1, h.2.2, h.1⟩
theorem rnum_at {W0 : World} {a : Option Addr} {len cap : Nat} {zs : List Int} {p i : Nat} {c : Int} {w : World} (P : Rp W0 a len cap zs p i c w) {x : Int} {n : Nat} (h : num (zs.drop i) = .ok (x, n)) :
    0 ≤ x ∧ x ≤ 18446744073709551615 ∧ i + n ≤ len := by
  obtain ⟨h1, h2, h3, h4, h5⟩ := num_ok (fun c hc => P.row.byte c (List.mem_of_mem_drop hc)) h
  have hl := P.row.size
  have hle := P.le
  rw [List.length_drop, hl] at h4
  omega
theorem err_pos {c : Int} {bs : List Int} (h : num bs = .error c) : c = 20 ∨ c = 21 := numF_err h

def i64R : Except Int (Int × Nat) → Except Int (Value × Nat)
  | .ok (x, n) => .ok (.int .i64 x, n)
  | .error c => .error c
def strR : Except Int (ByteArray × Nat) → Except Int (Value × Nat)
  | .ok (x, n) => .ok (.string x, n)
  | .error c => .error c
def boolR : Except Int (Bool × Nat) → Except Int (Value × Nat)
  | .ok (x, n) => .ok (.bool x, n)
  | .error c => .error c

set_option maxHeartbeats 2000000 in
theorem rwhole_out (W0 : World) (a : Option Addr) (len cap : Nat) (zs : List Int) (p i : Nat) (w : World) (P : Rp W0 a len cap zs p i 0 w) :
    Calls Try.prog 38 #[.pointer (some ⟨p, 0, none⟩)] w (Rout W0 a len cap zs p i w (.int .i64 0) (i64R (natR (num (zs.drop i))))) := by
  cases hn : num (zs.drop i) with
  | error c =>
    have HN : Hid (num (zs.drop i) = .error c) := hn
    rcases err_pos hn with rfl | rfl
    all_goals
      clear hn
      go_enter Try.func38, Try.ntmps38
      go_wp2_with (go_at_call 47; refine (rnum_err W0 a len cap zs p i _ P _ HN.out).mono ?_; rintro e w1 ⟨rfl, ⟨j, hp1⟩, hk1⟩; obtain ⟨m0, m1, m2, f0, f1, f2, hz⟩ := id hp1.three)
      go_ret
      exact ⟨hk1, rfl, j, hp1⟩
  | ok r =>
    obtain ⟨x, n⟩ := r
    obtain ⟨x0, x1, _⟩ := rnum_at P hn
    have HN : Hid (num (zs.drop i) = .ok (x, n)) := hn
    clear hn
    by_cases hlt : 9223372036854775807 < x
    · have E : i64R (natR (.ok (x, n))) = .error 20 := by simp only [natR, if_pos hlt, i64R]
      rw [E]
      clear E
      go_enter Try.func38, Try.ntmps38
      go_wp2_with (go_at_call 47; refine (rnum_ok W0 a len cap zs p i _ P x n HN.out).mono ?_; rintro e w1 ⟨rfl, hp1, hk1⟩; obtain ⟨m0, m1, m2, f0, f1, f2, hz⟩ := id hp1.three)
      go_ret
      exact ⟨hk1.setCell 2 _, rfl, _, hp1.fail 20⟩
    · have E : i64R (natR (.ok (x, n))) = .ok (.int .i64 x, n) := by simp only [natR, if_neg hlt, i64R]
      rw [E]
      clear E
      go_enter Try.func38, Try.ntmps38
      go_wp2_with (go_at_call 47; refine (rnum_ok W0 a len cap zs p i _ P x n HN.out).mono ?_; rintro e w1 ⟨rfl, hp1, hk1⟩; obtain ⟨m0, m1, m2, f0, f1, f2, hz⟩ := id hp1.three)
      go_ret
      exact ⟨hk1, rfl, hp1⟩

set_option maxHeartbeats 2000000 in
theorem rint_out (W0 : World) (a : Option Addr) (len cap : Nat) (zs : List Int) (p i : Nat) (w : World) (P : Rp W0 a len cap zs p i 0 w) :
    Calls Try.prog 39 #[.pointer (some ⟨p, 0, none⟩)] w (Rout W0 a len cap zs p i w (.int .i64 0) (i64R (sgR (num (zs.drop i))))) := by
  cases hn : num (zs.drop i) with
  | error c =>
    have HN : Hid (num (zs.drop i) = .error c) := hn
    clear hn
    go_enter Try.func39, Try.ntmps39
    go_wp2_with (go_at_call 47; refine (rnum_err W0 a len cap zs p i _ P _ HN.out).mono ?_; rintro e w1 ⟨rfl, ⟨j, hp1⟩, hk1⟩)
    go_ret
    exact ⟨hk1, rfl, j, hp1⟩
  | ok r =>
    obtain ⟨x, n⟩ := r
    obtain ⟨x0, x1, _⟩ := rnum_at P hn
    have HN : Hid (num (zs.drop i) = .ok (x, n)) := hn
    clear hn
    by_cases h2 : x % 2 = 1
    · have E : Hid (unsg x = -(x / 2) - 1) := by show _ = _; unfold unsg; rw [if_pos h2]
      have h2' : (x % 2 == 0) = false := by simp; omega
      clear h2
      go_enter Try.func39, Try.ntmps39
      go_wp2_with (go_at_call 47; refine (rnum_ok W0 a len cap zs p i _ P x n HN.out).mono ?_; rintro e w1 ⟨rfl, hp1, hk1⟩)
      go_ret
      refine ⟨hk1, ?_, hp1⟩
      rw [E.out]
      rfl
    · have E : Hid (unsg x = x / 2) := by show _ = _; unfold unsg; rw [if_neg h2]
      have h2' : (x % 2 == 0) = true := by simp; omega
      clear h2
      go_enter Try.func39, Try.ntmps39
      go_wp2_with (go_at_call 47; refine (rnum_ok W0 a len cap zs p i _ P x n HN.out).mono ?_; rintro e w1 ⟨rfl, hp1, hk1⟩)
      go_ret
      refine ⟨hk1, ?_, hp1⟩
      rw [E.out]
      rfl

set_option maxHeartbeats 2000000 in
theorem rtruth_out (W0 : World) (a : Option Addr) (len cap : Nat) (zs : List Int) (p i : Nat) (w : World) (P : Rp W0 a len cap zs p i 0 w) :
    Calls Try.prog 41 #[.pointer (some ⟨p, 0, none⟩)] w (Rout W0 a len cap zs p i w (.bool false) (boolR (flgR (zs.drop i)))) := by
  have hl := P.row.size
  have hle := P.le
  have hmax := P.max
  obtain ⟨m0, m1, m2, f0, f1, f2, hz⟩ := id P.three
  by_cases hlt : i < len
  · obtain ⟨c0, c1⟩ := getD_byte P.row.byte i
    obtain ⟨bb, oo, rfl, hbb, hcc⟩ := P.row.mem.resolve_left (by omega)
    have hcell := (P.old.cell (p := ⟨bb, oo + i, none⟩) hbb).trans (hcc i hlt)
    have HX : Hid (flgR (zs.drop i) = if 1 < zs.getD i 0 then .error 20 else .ok (zs.getD i 0 == 1, 1)) := flag_cons (by omega)
    obtain ⟨c, hc⟩ : ∃ c, zs.getD i 0 = c := ⟨_, rfl⟩
    rw [hc] at HX c0 c1 hcell
    clear hc hcc hl
    have hI : (i : Int) < (len : Int) := by omega
    by_cases h1 : 1 < c
    · have E : flgR (zs.drop i) = .error 20 := by rw [HX.out, if_pos h1]
      rw [E]
      clear E
      go_enter Try.func41, Try.ntmps41
      go_wp2
      go_quiet (fail)
      go_wp2
      go_quiet (fail)
      go_wp2
      go_ret
      exact ⟨((Kp.refl _ _).drewN _).setCell 2 _, rfl, _, (P.drewN _).fail 20⟩
    · have E : flgR (zs.drop i) = .ok (c == 1, 1) := by rw [HX.out, if_neg h1]
      rw [E]
      clear E
      go_enter Try.func41, Try.ntmps41
      go_wp2
      go_quiet (fail)
      go_wp2
      go_quiet (fail)
      go_wp2
      go_ret
      exact ⟨((Kp.refl _ _).drewN _).setCell 1 _, rfl, P.to _ _ _ (by omega) (by omega)⟩
  · have E : flgR (zs.drop i) = .error 21 := by rw [List.drop_eq_nil_of_le (by omega)]; rfl
    rw [E]
    clear E hl
    have hI : (len : Int) ≤ (i : Int) := by omega
    go_enter Try.func41, Try.ntmps41
    go_wp2
    go_quiet (fail)
    go_wp2
    go_ret
    exact ⟨((Kp.refl _ _).drewN _).setCell 2 _, rfl, _, (P.drewN _).fail 21⟩

end Go.Proofs.Ytfgniilihdimgaa
