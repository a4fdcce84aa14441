/-
  Reading the parts of a field (package code, read.go): natural, signed, text, flag.
-/
import Derived.Test.YticmjlnpjopfbaaDoorCNumber
import Derived.Test.YticmjlnpjopfbaaDoorCWrite
import Derived.Deep.RegionWith
namespace Go.Proofs.YticmjlnpjopfbaaDoor.C
open Go.ChangeShapes Go.WideShapes Go.ChangeAt Go.RowKit
set_option linter.unusedVariables false

theorem number_ok (W0 : World) (a : Option Addr) (len cap : Nat) (zs : List Int) (p i : Nat) (w : World) (P : Pl W0 a len cap zs p i w) (x : Int) (n : Nat) (h : num (zs.drop i) = .ok (x, n)) :
    Calls Tryd.prog 96 #[.pointer (some ⟨p, 0, none⟩)] w fun e w' => e = .returned (.int .u64 x) ∧ Pl W0 a len cap zs p (i + n) w' ∧ Kp p w w' :=
  (number_out W0 a len cap zs p i w P _ h).mono fun e w' h => h
theorem number_err (W0 : World) (a : Option Addr) (len cap : Nat) (zs : List Int) (p i : Nat) (w : World) (P : Pl W0 a len cap zs p i w) (c : Int) (h : num (zs.drop i) = .error c) :
    Calls Tryd.prog 96 #[.pointer (some ⟨p, 0, none⟩)] w fun e w' => e = thrown c ∧ Kp p w w' :=
  (number_out W0 a len cap zs p i w P _ h).mono fun e w' h => h
theorem num_at {W0 : World} {a : Option Addr} {len cap : Nat} {zs : List Int} {p i : Nat} {w : World} (P : Pl W0 a len cap zs p i w) {x : Int} {n : Nat} (h : num (zs.drop i) = .ok (x, n)) :
    0 ≤ x ∧ x ≤ 18446744073709551615 ∧ i + n ≤ len := by
  obtain ⟨h1, h2, h3, h4, h5⟩ := num_ok (fun c hc => P.row.byte c (List.mem_of_mem_drop hc)) h
  have hl := P.row.size
  have hle := P.le
  rw [List.length_drop, hl] at h4
  omega

/-- A number that is to be a Num. -/
def natR : Except Int (Int × Nat) → Except Int (Int × Nat)
  | .ok (x, n) => if 9223372036854775807 < x then .error 20 else .ok (x, n)
  | .error c => .error c
/-- A signed number, out of the one that was written. -/
def unsg (x : Int) : Int := if x % 2 = 1 then -(x / 2) - 1 else x / 2
def sgR : Except Int (Int × Nat) → Except Int (Int × Nat)
  | .ok (x, n) => .ok (unsg x, n)
  | .error c => .error c
/-- A text. -/
def txtR (bs : List Int) : Except Int (ByteArray × Nat) :=
  match num bs with
  | .ok (x, n) => if (bs.length : Int) - n < x then .error 21 else .ok (strOfNums ((bs.drop n).take x.toNat), n + x.toNat)
  | .error c => .error c
/-- A truth. -/
def flgR : List Int → Except Int (Bool × Nat)
  | [] => .error 21
  | c :: _ => if 1 < c then .error 20 else .ok (c == 1, 1)

set_option maxHeartbeats 2000000 in
theorem natural_ok (W0 : World) (a : Option Addr) (len cap : Nat) (zs : List Int) (p i : Nat) (w : World) (P : Pl W0 a len cap zs p i w) (x : Int) (n : Nat) (h : natR (num (zs.drop i)) = .ok (x, n)) :
    Calls Tryd.prog 91 #[.pointer (some ⟨p, 0, none⟩)] w fun e w' => e = .returned (.int .i64 x) ∧ Pl W0 a len cap zs p (i + n) w' ∧ Kp p w w' := by
  cases hn : num (zs.drop i) with
  | error c => rw [hn] at h; cases h
  | ok r =>
    obtain ⟨y, m⟩ := r
    rw [hn] at h
    simp only [natR] at h
    split at h
    · cases h
    · rename_i hlt
      cases h
      obtain ⟨x0, x1, _⟩ := num_at P hn
      have HN : Hid (num (zs.drop i) = .ok (x, n)) := hn
      clear hn
      go_enter Tryd.func91, Tryd.ntmps91
      go_wp2_with (go_at_call 96; refine (number_ok W0 a len cap zs p i _ P x n HN.out).mono ?_; rintro e w1 ⟨rfl, hp1, hk1⟩)
      go_ret
      exact ⟨rfl, hp1, hk1⟩

set_option maxHeartbeats 2000000 in
theorem natural_err (W0 : World) (a : Option Addr) (len cap : Nat) (zs : List Int) (p i : Nat) (w : World) (P : Pl W0 a len cap zs p i w) (c : Int) (h : natR (num (zs.drop i)) = .error c) :
    Calls Tryd.prog 91 #[.pointer (some ⟨p, 0, none⟩)] w fun e w' => e = thrown c ∧ Kp p w w' := by
  cases hn : num (zs.drop i) with
  | error c' =>
    rw [hn] at h
    cases h
    have HN : Hid (num (zs.drop i) = .error c) := hn
    clear hn
    go_enter Tryd.func91, Tryd.ntmps91
    go_wp2_with (go_at_call 96; refine (number_err W0 a len cap zs p i _ P c HN.out).mono ?_; rintro e w1 ⟨rfl, hk1⟩)
    exact ⟨rfl, rfl, hk1⟩
  | ok r =>
    obtain ⟨y, m⟩ := r
    rw [hn] at h
    simp only [natR] at h
    split at h
    · rename_i hlt
      cases h
      obtain ⟨x0, x1, _⟩ := num_at P hn
      have HN : Hid (num (zs.drop i) = .ok (y, m)) := hn
      clear hn
      go_enter Tryd.func91, Tryd.ntmps91
      go_wp2_with (first
        | (go_at_call 96; refine (number_ok W0 a len cap zs p i _ P y m HN.out).mono ?_; rintro e w1 ⟨rfl, hp1, hk1⟩)
        | (go_at_call 95; refine (throw_any _ _).mono ?_; rintro e w' ⟨rfl, hw⟩; rw [hw]; clear hw))
      exact ⟨rfl, rfl, hk1⟩
    · cases h

theorem and_one (x : Int) (h0 : 0 ≤ x) (h1 : x < 18446744073709551616) : bits .and .u64 x 1 = x % 2 := by go_bits2

set_option maxHeartbeats 2000000 in
theorem signedr_ok (W0 : World) (a : Option Addr) (len cap : Nat) (zs : List Int) (p i : Nat) (w : World) (P : Pl W0 a len cap zs p i w) (x : Int) (n : Nat) (hn : num (zs.drop i) = .ok (x, n)) :
    Calls Tryd.prog 92 #[.pointer (some ⟨p, 0, none⟩)] w fun e w' => e = .returned (.int .i64 (unsg x)) ∧ Pl W0 a len cap zs p (i + n) w' ∧ Kp p w w' := by
  obtain ⟨x0, x1, _⟩ := num_at P hn
  have HN : Hid (num (zs.drop i) = .ok (x, n)) := hn
  clear hn
  have ha := and_one x x0 (by omega)
  have hnot := not64 (x / 2) (by omega) (by omega)
  by_cases h2 : x % 2 = 1
  · have E : unsg x = -(x / 2) - 1 := by unfold unsg; rw [if_pos h2]
    have h2' : (x % 2 == 1) = true := by simpa using h2
    clear h2
    go_enter Tryd.func92, Tryd.ntmps92
    go_wp2_with (go_at_call 96; refine (number_ok W0 a len cap zs p i _ P x n HN.out).mono ?_; rintro e w1 ⟨rfl, hp1, hk1⟩)
    go_ret
    refine ⟨ret_i64 ?_, hp1, hk1⟩
    unfold wrap64
    omega
  · have E : unsg x = x / 2 := by unfold unsg; rw [if_neg h2]
    have h2' : (x % 2 == 1) = false := by simpa using h2
    clear h2
    go_enter Tryd.func92, Tryd.ntmps92
    go_wp2_with (go_at_call 96; refine (number_ok W0 a len cap zs p i _ P x n HN.out).mono ?_; rintro e w1 ⟨rfl, hp1, hk1⟩)
    go_ret
    exact ⟨ret_i64 (by omega), hp1, hk1⟩

set_option maxHeartbeats 2000000 in
theorem signedr_err (W0 : World) (a : Option Addr) (len cap : Nat) (zs : List Int) (p i : Nat) (w : World) (P : Pl W0 a len cap zs p i w) (c : Int) (hn : num (zs.drop i) = .error c) :
    Calls Tryd.prog 92 #[.pointer (some ⟨p, 0, none⟩)] w fun e w' => e = thrown c ∧ Kp p w w' := by
  have HN : Hid (num (zs.drop i) = .error c) := hn
  clear hn
  go_enter Tryd.func92, Tryd.ntmps92
  go_wp2_with (go_at_call 96; refine (number_err W0 a len cap zs p i _ P c HN.out).mono ?_; rintro e w1 ⟨rfl, hk1⟩)
  exact ⟨rfl, rfl, hk1⟩

theorem flag_cons {zs : List Int} {i : Nat} (h : i < zs.length) : flgR (zs.drop i) = if 1 < zs.getD i 0 then .error 20 else .ok (zs.getD i 0 == 1, 1) := by
  rw [drop_cons h]; rfl

set_option maxHeartbeats 2000000 in
theorem flagr_ok (W0 : World) (a : Option Addr) (len cap : Nat) (zs : List Int) (p i : Nat) (w : World) (P : Pl W0 a len cap zs p i w) (b : Bool) (n : Nat) (h : flgR (zs.drop i) = .ok (b, n)) :
    Calls Tryd.prog 94 #[.pointer (some ⟨p, 0, none⟩)] w fun e w' => e = .returned (.bool b) ∧ Pl W0 a len cap zs p (i + n) w' ∧ Kp p w w' := by
  have hl := P.row.size
  have hlt : i < len := by
    rcases Nat.lt_or_ge i len with h' | h'
    · exact h'
    · rw [List.drop_eq_nil_of_le (by omega)] at h; cases h
  obtain ⟨c0, c1⟩ := getD_byte P.row.byte i
  rw [flag_cons (by omega)] at h
  obtain ⟨c, hc⟩ : ∃ c, zs.getD i 0 = c := ⟨_, rfl⟩
  rw [hc] at h c0 c1
  have HC : Hid (zs.getD i 0 = c) := hc
  clear hc
  split at h
  · cases h
  · rename_i h1
    cases h
    go_enter Tryd.func94, Tryd.ntmps94
    go_wp2_with (go_at_call 98; refine (one_ok W0 a len cap zs p i _ P hlt).mono ?_; rintro e w1 ⟨rfl, hp1, hk1⟩; rw [HC.out])
    go_ret
    exact ⟨rfl, hp1, hk1⟩

set_option maxHeartbeats 2000000 in
theorem flagr_err (W0 : World) (a : Option Addr) (len cap : Nat) (zs : List Int) (p i : Nat) (w : World) (P : Pl W0 a len cap zs p i w) (e : Int) (h : flgR (zs.drop i) = .error e) :
    Calls Tryd.prog 94 #[.pointer (some ⟨p, 0, none⟩)] w fun x w' => x = thrown e ∧ Kp p w w' := by
  have hl := P.row.size
  have hle := P.le
  by_cases hlt : i < len
  · obtain ⟨c0, c1⟩ := getD_byte P.row.byte i
    rw [flag_cons (by omega)] at h
    obtain ⟨c, hc⟩ : ∃ c, zs.getD i 0 = c := ⟨_, rfl⟩
    rw [hc] at h c0 c1
    have HC : Hid (zs.getD i 0 = c) := hc
    clear hc
    split at h
    · rename_i h1
      cases h
      go_enter Tryd.func94, Tryd.ntmps94
      go_wp2_with (first
        | (go_at_call 98; refine (one_ok W0 a len cap zs p i _ P hlt).mono ?_; rintro e w1 ⟨rfl, hp1, hk1⟩; rw [HC.out])
        | (go_at_call 95; refine (throw_any _ _).mono ?_; rintro e w' ⟨rfl, hw⟩; rw [hw]; clear hw))
      exact ⟨rfl, rfl, hk1⟩
    · cases h
  · rw [List.drop_eq_nil_of_le (by omega)] at h
    cases h
    go_enter Tryd.func94, Tryd.ntmps94
    go_wp2_with (go_at_call 98; refine (one_err W0 a len cap zs p i _ P (by omega)).mono ?_; rintro e w1 ⟨rfl, hk1⟩)
    exact ⟨rfl, rfl, hk1⟩

end Go.Proofs.YticmjlnpjopfbaaDoor.C
