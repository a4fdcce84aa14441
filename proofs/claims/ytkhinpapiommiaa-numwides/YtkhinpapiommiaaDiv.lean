/-
  What num's splitDigit returns for every wide number: it divided by ten, and its last digit as a byte; with math/bits.Div64 at the divisor ten.
-/
import Derived.Test.YtkhinpapiommiaaWides
import Derived.Deep.QuietTactic
import Derived.BigQuiet
import Derived.LoopN
import Derived.WalkSmall
namespace Go.Proofs.Ytkhinpapiommiaa
open Go.ChangeShapes Go.WideShapes Go.ChangeAt Go.RowKit
set_option linter.unusedVariables false

/-! ### Plain: words put together out of parts that do not meet -/
theorem or_add60 {r q : Int} (hr : 0 ≤ r) (hr' : r ≤ 15) (hq : 0 ≤ q) (hq' : q < 1152921504606846976) : bits .or .u64 (r * 1152921504606846976) q = r * 1152921504606846976 + q := by
  obtain ⟨a, rfl⟩ := Int.eq_ofNat_of_zero_le hr
  obtain ⟨b, rfl⟩ := Int.eq_ofNat_of_zero_le hq
  have h := bits_or_u64_nat (a * 1152921504606846976) b (by omega) (by omega)
  have e : a * 1152921504606846976 ||| b = a * 1152921504606846976 + b := by
    have := Nat.two_pow_add_eq_or_of_lt (i := 60) (b := b) (by omega) a
    rw [Nat.mul_comm a, show (1152921504606846976 : Nat) = 2 ^ 60 from rfl]
    exact this.symm
  rw [e] at h
  rw [show ((a : Int) * 1152921504606846976) = ((a * 1152921504606846976 : Nat) : Int) by omega, h]
  omega
theorem and_low60 {v : Int} (hv : 0 ≤ v) (hv' : v ≤ 15) : bits .and .u64 (v * 1152921504606846976) 4294967295 = 0 := by
  obtain ⟨a, rfl⟩ := Int.eq_ofNat_of_zero_le hv
  have h := maskN (a * 1152921504606846976) (by omega)
  rw [show ((a : Int) * 1152921504606846976) = ((a * 1152921504606846976 : Nat) : Int) by omega, h]
  omega
theorem and_ten60 : bits .and .u64 11529215046068469760 4294967295 = 0 := by
  have := and_low60 (v := 10) (by omega) (by omega)
  exact this
theorem shl60 {l : Int} : IntKind.u64.wrap (l * 1152921504606846976) = (l % 16) * 1152921504606846976 := by rw [IntKind.wrap_u64]; omega

theorem ret_words {a b c d : Int} (h : a = c) (l : b = d) : Ending.returned (.tuple #[.int .u64 a, .int .u64 b]) = .returned (.tuple #[.int .u64 c, .int .u64 d]) := by rw [h, l]
theorem div_quo {r l U V R : Int} (hU : r * 1152921504606846976 + l / 16 = U) (hV : l % 16 = V) (eR : R = (U % 2684354560) * 4294967296 + V * 268435456) :
    U / 2684354560 * 4294967296 + R / 2684354560 = (r * 18446744073709551616 + l) / 10 := by
  have hN : r * 18446744073709551616 + l = 16 * U + V := by omega
  have hR : R / 2684354560 = (16 * (U % 2684354560) + V) / 10 := by omega
  rw [hN, hR]
  omega
theorem div_rem {r l U V R : Int} (hU : r * 1152921504606846976 + l / 16 = U) (hV : l % 16 = V) (eR : R = (U % 2684354560) * 4294967296 + V * 268435456) (r1 : 0 ≤ R) (r2 : R ≤ 11529215046068469759) :
    IntKind.u64.wrap (IntKind.u64.wrap (IntKind.u64.wrap (R * 4294967296)) - IntKind.u64.wrap (R / 2684354560 * 11529215046068469760)) / 1152921504606846976 = (r * 18446744073709551616 + l) % 10 := by
  have hN : r * 18446744073709551616 + l = 16 * U + V := by omega
  have eS : IntKind.u64.wrap (IntKind.u64.wrap (IntKind.u64.wrap (R * 4294967296)) - IntKind.u64.wrap (R / 2684354560 * 11529215046068469760)) = (R % 2684354560) * 4294967296 := by simp only [IntKind.wrap_u64]; omega
  have hR : R % 2684354560 = (16 * (U % 2684354560) + V) % 10 * 268435456 := by omega
  rw [hN, eS, hR]
  omega

set_option maxRecDepth 100000 in
set_option maxHeartbeats 1000000 in
theorem len10_any (w : World) : Calls Try.prog 51 #[.int .u64 10] w fun e w' => e = .returned (.int .i64 4) ∧ w' = w := by
  go_enter Try.func51, Try.ntmps51
  go_wp2
  go_ret
  exact ⟨by kernel_rfl, rfl⟩

set_option maxHeartbeats 1000000 in
theorem lz10_any (w : World) : Calls Try.prog 50 #[.int .u64 10] w fun e w' => e = .returned (.int .i64 60) ∧ w' = w := by
  go_enter Try.func50, Try.ntmps50
  go_wp2_with (go_at_call 51; refine (len10_any _).mono ?_; rintro e w' ⟨rfl, rfl⟩)
  go_ret
  exact ⟨rfl, rfl⟩

set_option maxHeartbeats 1000000 in
theorem div10_0 (l : Int) (w : World) (h : 0 ≤ l) (h' : l ≤ 18446744073709551615) :
    Calls Try.prog 49 #[.int .u64 0, .int .u64 l, .int .u64 10] w fun e w' => ∃ n, e = .returned (.tuple #[.int .u64 (l / 10), .int .u64 (l % 10)]) ∧ w' = w.drewN n := by
  go_enter Try.func49, Try.ntmps49
  go_wp2
  go_quiet (fail)
  go_wp2
  go_ret2
  exact ⟨_, rfl, rfl⟩

set_option maxHeartbeats 1000000 in
theorem div10_any (r l : Int) (w : World) (hr : 1 ≤ r) (hr' : r ≤ 9) (h : 0 ≤ l) (h' : l ≤ 18446744073709551615) :
    Calls Try.prog 49 #[.int .u64 r, .int .u64 l, .int .u64 10] w fun e w' => e = .returned (.tuple #[.int .u64 ((r * 18446744073709551616 + l) / 10), .int .u64 ((r * 18446744073709551616 + l) % 10)]) ∧ w' = w := by
  have k0 : (r == 0) = false := by simp; omega
  have hA := and_ten60
  obtain ⟨U, hU⟩ : ∃ U, r * 1152921504606846976 + l / 16 = U := ⟨_, rfl⟩
  obtain ⟨V, hV⟩ : ∃ V, l % 16 = V := ⟨_, rfl⟩
  have hO : bits .or .u64 (r * 1152921504606846976) (l / 16) = U := by rw [← hU]; exact or_add60 (by omega) (by omega) (by omega) (by omega)
  have hL : IntKind.u64.wrap (l * 1152921504606846976) = V * 1152921504606846976 := by rw [← hV]; exact shl60
  have hM : bits .and .u64 (V * 1152921504606846976) 4294967295 = 0 := and_low60 (by omega) (by omega)
  have u1 : 0 ≤ U := by omega
  have u2 : U ≤ 11529215046068469759 := by omega
  have v1 : 0 ≤ V := by omega
  have v2 : V ≤ 15 := by omega
  obtain ⟨R, hR⟩ : ∃ R, IntKind.u64.wrap (IntKind.u64.wrap (IntKind.u64.wrap (U * 4294967296) + V * 1152921504606846976 / 4294967296) - IntKind.u64.wrap (U / 2684354560 * 11529215046068469760)) = R := ⟨_, rfl⟩
  have eR : R = (U % 2684354560) * 4294967296 + V * 268435456 := by rw [← hR]; simp only [IntKind.wrap_u64]; omega
  have r1 : 0 ≤ R := by omega
  have r2 : R ≤ 11529215046068469759 := by omega
  have ER : Hid _ := eR
  clear eR
  have HU : Hid _ := hU
  have HV : Hid _ := hV
  clear hU hV
  go_enter Try.func49, Try.ntmps49
  go_wp2_with (go_at_call 50; refine (lz10_any _).mono ?_; rintro e w' ⟨rfl, rfl⟩)
  refine wp_loop_rounds 1 ?_
  rw [rounds_succ]
  go_wp2
  refine wp_loop_rounds 1 ?_
  rw [rounds_succ]
  go_wp2
  go_ret2
  exact ⟨ret_words (a := U / 2684354560 * 4294967296 + R / 2684354560) (b := IntKind.u64.wrap (IntKind.u64.wrap (IntKind.u64.wrap (R * 4294967296)) - IntKind.u64.wrap (R / 2684354560 * 11529215046068469760)) / 1152921504606846976)
    (div_quo HU.out HV.out ER.out) (div_rem HU.out HV.out ER.out r1 r2), rfl⟩

/-! ### splitDigit -/
theorem split_hi {h l : Int} (h1 : 0 ≤ h) (h1' : h ≤ 18446744073709551615) (h2 : 0 ≤ l) (h2' : l ≤ 18446744073709551615) : h / 10 = hiW (val h l / 10) := by
  have e : val h l / 10 = h / 10 * 18446744073709551616 + (h % 10 * 18446744073709551616 + l) / 10 := by unfold val; omega
  have b : 0 ≤ (h % 10 * 18446744073709551616 + l) / 10 ∧ (h % 10 * 18446744073709551616 + l) / 10 < 18446744073709551616 := by omega
  rw [e]
  generalize (h % 10 * 18446744073709551616 + l) / 10 = q at *
  unfold hiW hi64 lo64
  omega
theorem ret_wideb {a b c d p q : Int} (h : a = c) (l : b = d) (k : p = q) :
    Ending.returned (.tuple #[.agg #[.int .u64 a, .int .u64 b], .int .u8 p]) = .returned (.tuple #[.agg #[.int .u64 c, .int .u64 d], .int .u8 q]) := by rw [h, l, k]

set_option maxHeartbeats 1000000 in
theorem split_any (h l : Int) (w : World) (h1 : 0 ≤ h) (h1' : h ≤ 18446744073709551615) (h2 : 0 ≤ l) (h2' : l ≤ 18446744073709551615) :
    Calls Try.prog 44 #[wide h l] w fun e w' => e = .returned (.tuple #[wide (hiW (val h l / 10)) (lo64 (val h l / 10)), .int .u8 (48 + val h l % 10)]) ∧ Below w.heap.size w w' := by
  have E1 : Hid (h / 10 = hiW (val h l / 10)) := split_hi h1 h1' h2 h2'
  have E2 : Hid ((h % 10 * 18446744073709551616 + l) / 10 = lo64 (val h l / 10)) := by show _ = _; unfold lo64 val; omega
  have E3 : Hid ((h % 10 * 18446744073709551616 + l) % 10 = val h l % 10) := by show _ = _; unfold val; omega
  by_cases c : h % 10 = 0
  · have D := fun W => div10_0 l W h2 h2'
    have E2' : Hid (l / 10 = lo64 (val h l / 10)) := by show _ = _; have := E2.out; rw [c] at this; simpa using this
    have E3' : Hid (l % 10 = val h l % 10) := by show _ = _; have := E3.out; rw [c] at this; simpa using this
    have D : Hid _ := D
    go_enter Try.func44, Try.ntmps44
    go_wp2
    go_quiet (fail)
    go_wp2_with (go_at_call 49; refine (D.out _).mono ?_; rintro e w1 ⟨n, rfl, rfl⟩)
    refine bodyPost_ret (v := .tuple #[wide (h / 10) (l / 10), .int .u8 (48 + l % 10)]) (by simp [results, Try.results44, go_sem]) rfl ⟨ret_wideb E1.out E2'.out (by rw [E3'.out]), ?_⟩
    exact ((below_drewN (by go_grown) _).setCell (by simp) _).setCell (by simp) _
  · have D := fun W => div10_any (h % 10) l W (by omega) (by omega) h2 h2'
    rw [E2.out, E3.out] at D
    have D : Hid _ := D
    obtain ⟨l1, l2⟩ := lo64_bd (val h l / 10)
    have m1 : 0 ≤ val h l % 10 := by omega
    have m2 : val h l % 10 ≤ 9 := by omega
    go_enter Try.func44, Try.ntmps44
    go_wp2
    go_quiet (fail)
    go_wp2_with (go_at_call 49; refine (D.out _).mono ?_; rintro e w1 ⟨rfl, rfl⟩)
    refine bodyPost_ret (v := .tuple #[wide (h / 10) (lo64 (val h l / 10)), .int .u8 (48 + val h l % 10)]) (by simp [results, Try.results44, go_sem]) rfl ⟨ret_wideb E1.out rfl rfl, ?_⟩
    exact ((below_drewN (by go_grown) _).setCell (by simp) _).setCell (by simp) _
end Go.Proofs.Ytkhinpapiommiaa
