/-
  What num.Sum and the document's own Sum return for every list of int64.
-/
import Derived.Test.YtkhinpapiommiaaInts
import Derived.Test.YtkhinpapiommiaaSquares
import Derived.Deep.LoopGhost
namespace Go.Proofs.Ytkhinpapiommiaa
open Go.ChangeShapes Go.WideShapes Go.ChangeAt Go.RowKit
set_option linter.unusedVariables false

/-- The sum of a list, as long as all its numbers fit. -/
def tot : Int → List Int → Option Int
  | t, [] => some t
  | t, x :: l => if fitsB x then tot (wrap64 (t + x)) l else none
def sumV (zs : List Int) : Int := match tot 0 zs with | some t => chkV t | none => 0
def sumE (zs : List Int) : Int := match tot 0 zs with | some t => chkE t | none => 10
theorem sum_none {zs : List Int} (h : tot 0 zs = none) : sumV zs = 0 ∧ sumE zs = 10 := by simp [sumV, sumE, h]
theorem sum_some {zs : List Int} {t : Int} (h : tot 0 zs = some t) : sumV zs = chkV t ∧ sumE zs = chkE t := by simp [sumV, sumE, h]
theorem drop_one (zs : List Int) (k : Nat) (h : k < zs.length) : zs.drop k = zs.getD k 0 :: zs.drop (k + 1) := by
  rw [List.drop_eq_getElem_cons h]; simp [List.getD, h]
theorem tot_no {zs : List Int} {t : Int} {k : Nat} (hk : k < zs.length) (HP : tot 0 zs = tot t (zs.drop k)) (no : fitsB (zs.getD k 0) = false) : tot 0 zs = none := by
  rw [HP, drop_one zs k hk, tot, if_neg (by rw [no]; simp)]
theorem tot_ok {zs : List Int} {t : Int} {k : Nat} (hk : k < zs.length) (HP : tot 0 zs = tot t (zs.drop k)) (ok : fitsB (zs.getD k 0) = true) : tot 0 zs = tot (wrap64 (t + zs.getD k 0)) (zs.drop (k + 1)) := by
  rw [HP, drop_one zs k hk, tot, if_pos ok]
theorem tot_end {zs : List Int} {t : Int} {k : Nat} (hk : zs.length ≤ k) (HP : tot 0 zs = tot t (zs.drop k)) : tot 0 zs = some t := by
  rw [HP, List.drop_eq_nil_of_le hk, tot]
theorem ret_two {a b c d : Int} (h : a = c) (l : b = d) :
    Ending.returned (.tuple #[.int .i64 a, .int .i64 b]) = .returned (.tuple #[.int .i64 c, .int .i64 d]) := by rw [h, l]

set_option maxHeartbeats 1000000 in
theorem rsum_any (a : Option Addr) (len cap : Nat) (zs : List Int) (w : World) (R : Row w a len zs) :
    Calls Try.prog 21 #[.slice a len cap] w fun e w' => e = .returned (.tuple #[.int .i64 (sumV zs), .int .i64 (sumE zs)]) ∧ w' = w := by
  have hm := R.max
  unfold maxLen at hm
  go_enter Try.func21, Try.ntmps21
  go_wp2
  go_loop [4, 5] (fun s i => ∃ (k : Nat) (t : Int), k ≤ len ∧ i = .int .i64 k ∧ s = .int .i64 t ∧ Hid (tot 0 zs = tot t (zs.drop k)))
    (fun _ i => len - (intOf i).toNat)
  case atStart => exact ⟨0, 0, Nat.zero_le _, rfl, rfl, rfl⟩
  case round =>
    obtain ⟨k, t, hk, rfl, rfl, HP⟩ := hrel
    by_cases hlt : k < len
    · obtain ⟨b, off, rfl, hb, hc⟩ := R.mem.resolve_left (by omega)
      have c0 := hc k hlt
      have hI : (k : Int) < (len : Int) := by omega
      have Hl : Hid (k < zs.length) := by have := R.size; show k < zs.length; omega
      clear hc
      by_cases ok : fitsB (zs.getD k 0) = true
      · have N : Hid _ := tot_ok Hl.out HP.out ok
        obtain ⟨x, hx⟩ : ∃ x, zs.getD k 0 = x := ⟨_, rfl⟩
        rw [hx] at c0 ok N
        clear hx R
        go_wp2_with (go_at_call 12; refine (rfits_any _ _).mono ?_; rintro e w' ⟨rfl, rfl⟩)
        go_round
        case rel => exact ⟨k + 1, wrap64 (t + x), by omega, by go_num, rfl, N⟩
        case measure => simp [intOf]; omega
      · have ok : fitsB (zs.getD k 0) = false := by simpa using ok
        have N : Hid _ := sum_none (tot_no Hl.out HP.out ok)
        obtain ⟨x, hx⟩ : ∃ x, zs.getD k 0 = x := ⟨_, rfl⟩
        rw [hx] at c0 ok
        clear hx R
        go_wp2_with (go_at_call 12; refine (rfits_any _ _).mono ?_; rintro e w' ⟨rfl, rfl⟩)
        go_ret2
        exact ⟨ret_two N.out.1.symm N.out.2.symm, rfl⟩
    · have N : Hid _ := sum_some (tot_end (by have := R.size; omega) HP.out)
      go_wp2_with (go_at_call 36; refine (told_any _ _).mono ?_; rintro e w' ⟨rfl, rfl⟩)
      go_ret2
      exact ⟨ret_two N.out.1.symm N.out.2.symm, rfl⟩

/-- The wrapped sum; whether it wrapped round is not asked. -/
theorem addI_any (a b : Int) (w : World) :
    Calls Try.prog 34 #[.int .i64 a, .int .i64 b] w fun e w' => ∃ c : Bool, e = .returned (.tuple #[.int .i64 (wrap64 (a + b)), .bool c]) ∧ w' = w := by
  go_enter Try.func34, Try.ntmps34
  go_wp2
  go_ret2
  exact ⟨_, rfl, rfl⟩

set_option maxHeartbeats 1000000 in
theorem sum_any (a : Option Addr) (len cap : Nat) (zs : List Int) (w : World) (R : Row w a len zs) :
    Calls Try.prog 20 #[.slice a len cap] w fun e w' => e = .returned (.tuple #[.int .i64 (sumV zs), .int .i64 (sumE zs)]) ∧ w' = w := by
  have hm := R.max
  unfold maxLen at hm
  go_enter Try.func20, Try.ntmps20
  go_wp2
  go_step3
  go_wp2
  go_step3
  go_wp2
  go_loop [4, 5, 9] (fun s f i => ∃ (k : Nat) (t : Int), k ≤ len ∧ i = .int .i64 k ∧ s = .int .i64 t ∧ f = .bool true ∧ Hid (tot 0 zs = tot t (zs.drop k)))
    (fun _ _ i => len - (intOf i).toNat)
  case atStart => exact ⟨0, 0, Nat.zero_le _, rfl, rfl, rfl, rfl⟩
  case round =>
    obtain ⟨k, t, hk, rfl, rfl, rfl, HP⟩ := hrel
    by_cases hlt : k < len
    · obtain ⟨b, off, rfl, hb, hc⟩ := R.mem.resolve_left (by omega)
      have c0 := hc k hlt
      have hI : (k : Int) < (len : Int) := by omega
      have Hl : Hid (k < zs.length) := by have := R.size; show k < zs.length; omega
      clear hc
      by_cases ok : fitsB (zs.getD k 0) = true
      · have N : Hid _ := tot_ok Hl.out HP.out ok
        obtain ⟨x, hx⟩ : ∃ x, zs.getD k 0 = x := ⟨_, rfl⟩
        rw [hx] at c0 ok N
        clear hx R
        go_wp2_with (first | (go_at_call 11; refine (fits_any _ _).mono ?_; rintro e w' ⟨rfl, rfl⟩) | (go_at_call 34; refine (addI_any _ _ _).mono ?_; rintro e w' ⟨c, rfl, rfl⟩))
        go_round
        case rel => exact ⟨k + 1, wrap64 (t + x), by omega, by go_num, rfl, rfl, N⟩
        case measure => simp [intOf]; omega
      · have ok : fitsB (zs.getD k 0) = false := by simpa using ok
        have N : Hid _ := sum_none (tot_no Hl.out HP.out ok)
        obtain ⟨x, hx⟩ : ∃ x, zs.getD k 0 = x := ⟨_, rfl⟩
        rw [hx] at c0 ok
        clear hx R
        go_wp2_with (go_at_call 11; refine (fits_any _ _).mono ?_; rintro e w' ⟨rfl, rfl⟩)
        try rw [Exit.noGoto_ret]
        go_ret2
        exact ⟨ret_two N.out.1.symm N.out.2.symm, rfl⟩
    · have N : Hid _ := sum_some (tot_end (by have := R.size; omega) HP.out)
      go_wp2_with (go_at_call 35; refine (checked_any _ _).mono ?_; rintro e w' ⟨rfl, rfl⟩)
      try rw [Exit.noGoto_ret]
      go_ret2
      exact ⟨ret_two N.out.1.symm N.out.2.symm, rfl⟩

end Go.Proofs.Ytkhinpapiommiaa
