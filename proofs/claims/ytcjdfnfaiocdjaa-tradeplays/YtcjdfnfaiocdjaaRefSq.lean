/-
  What the document's own Squares returns for every list of int64: the two words of the sum of the squares, modulo 2^128.
-/
import Derived.Test.YtcjdfnfaiocdjaaRefs
namespace Go.Proofs.Ytcjdfnfaiocdjaa
open Go.ChangeShapes Go.WideShapes Go.ChangeAt Go.RowKit
set_option linter.unusedVariables false

theorem rsize_any (x : Int) (w : World) (hx : -9223372036854775808 ≤ x) (hx' : x ≤ 9223372036854775807) :
    Calls Try.prog 46 #[.int .i64 x] w fun e w' => e = .returned (.int .u64 (x.natAbs : Nat)) ∧ w' = w := by
  by_cases c : x < 0
  · have E : Hid (IntKind.u64.wrap (-IntKind.u64.wrap x) = ((x.natAbs : Nat) : Int)) := by show IntKind.u64.wrap (-IntKind.u64.wrap x) = _; simp only [IntKind.wrap_u64]; omega
    go_enter Try.func46, Try.ntmps46
    go_wp2
    rw [E.out]
    go_ret
    exact ⟨rfl, rfl⟩
  · have E : Hid (x = ((x.natAbs : Nat) : Int)) := by show x = ((x.natAbs : Nat) : Int); omega
    go_enter Try.func46, Try.ntmps46
    go_wp2
    go_ret
    exact ⟨by rw [← E.out]; rfl, rfl⟩

theorem sq_split (x : Nat) : x * x = (x / 4294967296) * (x / 4294967296) * 18446744073709551616 + 2 * ((x / 4294967296) * (x % 4294967296)) * 4294967296 + (x % 4294967296) * (x % 4294967296) := by
  have e := Lib.split_mul (x / 4294967296) (x % 4294967296) (x / 4294967296) (x % 4294967296) 4294967296
  have d : x / 4294967296 * 4294967296 + x % 4294967296 = x := by omega
  rw [d, Nat.mul_comm (x % 4294967296) (x / 4294967296)] at e
  rw [e]
  generalize x / 4294967296 * (x / 4294967296) = a
  generalize x / 4294967296 * (x % 4294967296) = b
  generalize x % 4294967296 * (x % 4294967296) = c
  clear e d
  omega

theorem modN (a : Nat) : (a : Int) % 4294967296 = ((a % 4294967296 : Nat) : Int) := by omega

/-- The three products of halves, as integers: they are small, and make the square. -/
theorem rsq_sum (x : Nat) (hx : x ≤ 9223372036854775808) :
    let pp := (x : Int) / 4294967296 * ((x : Int) / 4294967296); let rr := (x : Int) % 4294967296 * ((x : Int) % 4294967296); let m := (x : Int) / 4294967296 * ((x : Int) % 4294967296)
    (0 ≤ pp ∧ pp ≤ 18446744065119617025) ∧ (0 ≤ rr ∧ rr ≤ 18446744065119617025) ∧ (0 ≤ m ∧ m ≤ 18446744065119617025) ∧
    val pp rr + val (m / 2147483648) (lo64 (m * 8589934592)) = (x : Int) * x := by
  intro pp rr m
  have h1 := Lib.half_mul_le (a := x / 4294967296) (b := x / 4294967296) (by omega) (by omega)
  have h2 := Lib.half_mul_le (a := x % 4294967296) (b := x % 4294967296) (by omega) (by omega)
  have h3 := Lib.half_mul_le (a := x / 4294967296) (b := x % 4294967296) (by omega) (by omega)
  have e := sq_split x
  have e1 : pp = ((x / 4294967296 * (x / 4294967296) : Nat) : Int) := by simp only [pp]; rw [divN, mulN]
  have e2 : rr = ((x % 4294967296 * (x % 4294967296) : Nat) : Int) := by simp only [rr]; rw [modN, mulN]
  have e3 : m = ((x / 4294967296 * (x % 4294967296) : Nat) : Int) := by simp only [m]; rw [divN, modN, mulN]
  rw [e1, e2, e3, mulN x x, e]
  clear e e1 e2 e3 pp rr m
  generalize x / 4294967296 * (x / 4294967296) = a at *
  generalize x / 4294967296 * (x % 4294967296) = b at *
  generalize x % 4294967296 * (x % 4294967296) = c at *
  unfold val lo64
  refine ⟨by omega, by omega, by omega, by omega⟩
theorem sqx_bd (x : Nat) (hx : x ≤ 9223372036854775808) : 0 ≤ (x : Int) * x ∧ (x : Int) * x < 340282366920938463463374607431768211456 := by
  have := sq_bd (n := (x : Int)) (by omega) (by omega)
  omega

set_option maxHeartbeats 1000000 in
theorem rsquare_any (x : Nat) (w : World) (hx : x ≤ 9223372036854775808) :
    Calls Try.prog 45 #[.int .u64 x] w fun e w' => e = .returned (wide (hiW ((x : Int) * x)) (lo64 ((x : Int) * x))) ∧ Below w.heap.size w w' := by
  have M : bits .and .u64 (x : Int) 4294967295 = ((x % 4294967296 : Nat) : Int) := maskN x (by omega)
  obtain ⟨⟨p1, p2⟩, ⟨r1, r2⟩, ⟨m1, m2⟩, S⟩ := rsq_sum x hx
  have S : Hid _ := S
  have B : Hid _ := sqx_bd x hx
  have W4 : IntKind.u64.wrap ((x : Int) / 4294967296 * ((x : Int) % 4294967296) * 8589934592) = lo64 ((x : Int) / 4294967296 * ((x : Int) % 4294967296) * 8589934592) := wrap_lo _
  obtain ⟨l1, l2⟩ := lo64_bd ((x : Int) / 4294967296 * ((x : Int) % 4294967296) * 8589934592)
  go_enter Try.func45, Try.ntmps45
  go_wp2_with fail
  refine (rplus_any _ _ _ _ _ (by omega) (by omega) (by omega) (by omega) (by omega) (by omega) (by omega) (by omega)).mono ?_
  rintro e w1 ⟨rfl, hb⟩
  rw [S.out]
  have o : ovW ((x : Int) * x) = false := by unfold ovW; have := B.out.2; simp; omega
  have e1 : plH ((x : Int) * x) = hiW ((x : Int) * x) := by simp [plH, o]
  have e2 : plL ((x : Int) * x) = lo64 ((x : Int) * x) := by simp [plL, o]
  rw [e1, e2]
  clear e1 e2 o
  obtain ⟨q0, q1, g0, g1, z⟩ := ((((Two.new _ _ _ _).alloc _).alloc _).below hb).at (k' := w.heap.size) (by simp)
  have hB : Below w.heap.size w w1 := Below.trans (by go_grown) (hb.mono (by simp; omega))
  clear hb
  go_wp2
  exact bodyPost_ret (v := wide (hiW ((x : Int) * x)) (lo64 ((x : Int) * x))) (by simp [results, Try.results45, go_sem, q0, q1, z]) rfl ⟨rfl, by go_grown⟩

set_option maxHeartbeats 1000000 in
theorem rsquares_any (a : Option Addr) (len cap : Nat) (zs : List Int) (w : World) (R : Row w a len zs) :
    Calls Try.prog 28 #[.slice a len cap] w fun e w' => e = .returned (wide (hiW (sqs zs)) (lo64 (sqs zs))) ∧ Below w.heap.size w w' := by
  have hm := R.max
  unfold maxLen at hm
  go_enter Try.func28, Try.ntmps28
  go_wp2
  go_loopw [4] (fun i wr => ∃ k : Nat, k ≤ len ∧ i = .int .i64 k ∧ Two wr (w.heap.size + 1) (.int .u64 (hiW (sqs (zs.take k)))) (.int .u64 (lo64 (sqs (zs.take k)))) ∧ Two wr w.heap.size (.int .u64 0) (.int .u64 0) ∧ Below w.heap.size w wr)
    (fun i _ => len - (intOf i).toNat)
  case atStart => exact ⟨0, Nat.zero_le _, rfl, (Two.new _ _ _ _).at (by simp), (Two.new _ _ _ _).alloc _, by go_grown⟩
  case round =>
    obtain ⟨k, hk, rfl, T1, T0, hB⟩ := hrel
    by_cases hlt : k < len
    · obtain ⟨b, off, rfl, hb, hc⟩ := R.mem.resolve_left (by omega)
      have bd := R.bd k
      have c0 := (hB.cell (p := ⟨b, off + k, none⟩) hb).trans (hc k hlt)
      obtain ⟨x, hx⟩ : ∃ x, x = zs.getD k 0 := ⟨_, rfl⟩
      obtain ⟨S, hS⟩ : ∃ S, S = sqs (zs.take k) := ⟨_, rfl⟩
      rw [← hx] at c0 bd
      rw [← hS] at T1
      have HX : Hid (x = zs.getD k 0) := hx
      have HS : Hid (S = sqs (zs.take k)) := hS
      have HC : Hid _ := hc
      clear hx hS hc
      obtain ⟨b1, b2⟩ := bd
      obtain ⟨q0, q1, g0, g1, z⟩ := id T1
      have hI : (k : Int) < (len : Int) := by omega
      have NA : Hid ((x.natAbs : Int) * x.natAbs = x * x) := Int.natAbs_mul_self
      obtain ⟨n11, n12⟩ := hiW_bd S
      obtain ⟨n21, n22⟩ := lo64_bd S
      obtain ⟨n31, n32⟩ := hiW_bd (x * x)
      obtain ⟨n41, n42⟩ := lo64_bd (x * x)
      go_wp2
      go_region_with (first
        | (go_at_call 46; refine (rsize_any _ _ (by assumption) (by assumption)).mono ?_; rintro e w' ⟨rfl, rfl⟩)
        | (go_at_call 45; refine (rsquare_any _ _ (by omega)).mono ?_; rintro e w1 ⟨rfl, hb1⟩; rw [NA.out]; have U1 : Two w1 (w.heap.size + 1) (.int .u64 (hiW S)) (.int .u64 (lo64 S)) := Two.below (W := wr.drew) T1 hb1; obtain ⟨p0, p1, r0, r1, y⟩ := id U1)
        | (go_at_call 44; refine (rsumw_any _ _ _ _ _ (by assumption) (by assumption) (by assumption) (by assumption) (by assumption) (by assumption) (by assumption) (by assumption)).mono ?_; rintro e w2 ⟨rfl, hb2⟩; have U2 : Two w2 (w.heap.size + 1) (.int .u64 (hiW S)) (.int .u64 (lo64 S)) := Two.below ⟨p0, p1, r0, r1, y⟩ hb2; obtain ⟨s0, s1, t0, t1, y2⟩ := id U2))
      all_goals go_wp2
      all_goals
        go_roundw
        case rel =>
          have hsn : sqs (zs.take (k + 1)) = S + x * x := by rw [take_snoc zs k (by have := R.size; omega), sqs_snoc, HS.out, HX.out]
          refine ⟨k + 1, by omega, by go_num, ?_, ?_, ?_⟩
          · rw [hsn]
            exact (Two.set U2 _ _).vals (by rw [hiW_add]) (by rw [lo64_add])
          · exact Two.far (Two.far (Two.below (Two.below (W := wr.drew) T0 hb1) hb2) _ _ _ (by omega)) _ _ _ (by omega)
          · have hs1 := hb1.size
            have hB2 : Below w.heap.size w w2 := (Below.drew hB).trans ((hb1.mono (by have := hB.size; simpa using this)).trans (hb2.mono (by omega)))
            exact (hB2.setCell (by simp) _).setCell (by simp) _
        case measure => simp [intOf]; omega
    · obtain ⟨q0, q1, g0, g1, z⟩ := T1
      obtain ⟨s0, s1, t0, t1, y⟩ := T0
      have e : zs.take k = zs := List.take_of_length_le (by have := R.size; omega)
      rw [e] at q0 q1
      clear e
      go_wp2
      exact bodyPost_ret (v := wide (hiW (sqs zs)) (lo64 (sqs zs))) (by simp [results, Try.results28, go_sem, s0, s1]) rfl ⟨rfl, by go_grown⟩

end Go.Proofs.Ytcjdfnfaiocdjaa
