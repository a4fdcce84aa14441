/-
  What standing returns.
-/
import Derived.Test.YticmjlnpjopfbaaDoorSSums
import Derived.BigQuiet
import Derived.Lib.SlicesS
import Derived.Lib.Bytes
namespace Go.Proofs.YticmjlnpjopfbaaDoor.S
open Go.ChangeShapes Go.WideShapes Go.ChangeAt Go.RowKit
set_option linter.unusedVariables false

/-- How many bytes the frame has that stands at the beginning, its sum not looked at. -/
def stand (l : List Int) : Except Int Nat :=
  if (0 < l.length ∧ l.getD 0 0 ≠ 237) ∨ (1 < l.length ∧ l.getD 1 0 ≠ 91) then .error 20
  else if l.length < 4 then .error 21
  else if l.length < lenAt l + 8 then .error 21
  else .ok (lenAt l + 8)

theorem Row.drewN {kd : IntKind} {w : World} {a : Option Addr} {len cap : Nat} {zs : List Int} (R : Row kd w a len cap zs) : ∀ n, Row kd (w.drewN n) a len cap zs := fun n => ⟨R.size, R.le, R.nil, R.wf, R.mem⟩

theorem u8_beq (z : Int) (h : 0 ≤ z ∧ z < 256) (c : Nat) (hc : c < 256) : (UInt8.ofNat z.toNat == UInt8.ofNat c) = decide (z = (c : Int)) := by
  by_cases e : z = (c : Int)
  · subst e
    simp
  · rw [decide_eq_false e]
    apply beq_false_of_ne
    intro h2
    have h3 := congrArg UInt8.toNat h2
    simp only [UInt8.toNat_ofNat'] at h3
    rw [Nat.mod_eq_of_lt (by omega), Nat.mod_eq_of_lt (by omega)] at h3
    omega
theorem nums_list (l : List Int) : (strOfNums l).toList = l.map fun n => UInt8.ofNat n.toNat := Lib.strOfNums_toList l
theorem ext1 : ((⟨#[237, 91]⟩ : ByteArray).extract 0 1).toList = [UInt8.ofNat 237] := by decide +kernel
theorem ext2 : ((⟨#[237, 91]⟩ : ByteArray).extract 0 2).toList = [UInt8.ofNat 237, UInt8.ofNat 91] := by decide +kernel
theorem mark1 (z0 : Int) (h : 0 ≤ z0 ∧ z0 < 256) : ((strOfNums [z0]).toList == ((⟨#[237, 91]⟩ : ByteArray).extract 0 1).toList) = decide (z0 = 237) := by
  rw [nums_list, ext1]
  simp only [List.map_cons, List.map_nil]
  have := u8_beq z0 h 237 (by decide)
  show ((UInt8.ofNat z0.toNat == UInt8.ofNat 237) && true) = _
  rw [this, Bool.and_true]
  rfl
theorem mark2 (z0 z1 : Int) (h : 0 ≤ z0 ∧ z0 < 256) (h' : 0 ≤ z1 ∧ z1 < 256) : ((strOfNums [z0, z1]).toList == ((⟨#[237, 91]⟩ : ByteArray).extract 0 2).toList) = (decide (z0 = 237) && decide (z1 = 91)) := by
  rw [nums_list, ext2]
  simp only [List.map_cons, List.map_nil]
  have a := u8_beq z0 h 237 (by decide)
  have b := u8_beq z1 h' 91 (by decide)
  show ((UInt8.ofNat z0.toNat == UInt8.ofNat 237) && ((UInt8.ofNat z1.toNat == UInt8.ofNat 91) && true)) = _
  rw [a, b, Bool.and_true]
  rfl
theorem mark0 : (strOfNums []).toList.isEmpty = true := by rw [nums_list]; rfl

set_option maxHeartbeats 1000000 in
theorem standing_empty (a : Option Addr) (cap : Nat) (w : World) (R : Row .u8 w a 0 cap []) (hcap : cap ≤ 9223372036854775807) :
    Calls Tryd.prog 64 #[.slice a 0 cap] w fun e w' => e = .returned (.tuple #[.int .i64 0, .int .i64 21]) ∧ ∃ n, w' = w.drewN n := by
  have hcv := fun n => conv_row (R.drewN n)
  have hq := mark0
  go_enter Tryd.func64, Tryd.ntmps64
  go_wp2
  go_quiet (fail)
  go_wp2
  go_ret2
  exact ⟨rfl, _, rfl⟩

theorem Row.at {kd : IntKind} {w : World} {b off len cap : Nat} {zs : List Int} (R : Row kd w (some ⟨b, off, none⟩) len cap zs) (k : Nat) (hk : k < len) : w.cell? ⟨b, off + k, none⟩ = some (.int kd (zs.getD k 0)) := by
  obtain ⟨b', off', e, hb, hc⟩ := R.mem.resolve_left (by omega)
  cases e
  exact hc k hk
theorem Row.pre {kd : IntKind} {w : World} {a : Addr} {len cap : Nat} {zs : List Int} (R : Row kd w (some a) len cap zs) (k : Nat) (hk : k ≤ len) : Row kd w (some a) k cap (zs.take k) := by
  have h := R.part 0 k (by omega) hk
  have e : a.add 0 = a := by unfold Addr.add; split <;> simp_all
  rw [e] at h
  simpa using h

set_option maxHeartbeats 1000000 in
theorem standing_one (b off cap : Nat) (z0 : Int) (w : World) (R : Row .u8 w (some ⟨b, off, none⟩) 1 cap [z0]) (hcap : cap ≤ 9223372036854775807) :
    Calls Tryd.prog 64 #[.slice (some ⟨b, off, none⟩) 1 cap] w fun e w' => e = .returned (.tuple #[.int .i64 0, .int .i64 (if z0 = 237 then 21 else 20)]) ∧ ∃ n, w' = w.drewN n := by
  have hle := R.le
  have hcv := fun n => conv_row (R.drewN n)
  have hq := mark1 z0 (R.byte z0 (by simp))
  obtain ⟨s, hs⟩ : ∃ s, strOfNums [z0] = s := ⟨_, rfl⟩
  rw [hs] at hcv hq
  clear hs R
  by_cases h : z0 = 237
  · rw [if_pos h]
    rw [decide_eq_true h] at hq
    clear h
    go_enter Tryd.func64, Tryd.ntmps64
    go_wp2
    go_quiet (fail)
    go_wp2
    go_ret2
    exact ⟨rfl, _, rfl⟩
  · rw [if_neg h]
    rw [decide_eq_false h] at hq
    clear h
    go_enter Tryd.func64, Tryd.ntmps64
    go_wp2
    go_quiet (fail)
    go_wp2
    go_ret2
    exact ⟨rfl, _, rfl⟩

theorem join8 (x y : Int) (hx : 0 ≤ x ∧ x < 256) (hy : 0 ≤ y ∧ y < 256) : bits .or .i64 x (256 * y) = x + 256 * y := by
  obtain ⟨a, rfl⟩ := Int.eq_ofNat_of_zero_le hx.1
  obtain ⟨c, rfl⟩ := Int.eq_ofNat_of_zero_le hy.1
  show IntKind.i64.wrap ((BitVec.ofInt 64 (a : Int) ||| BitVec.ofInt 64 (256 * (c : Int))).toNat : Int) = _
  have e : (256 * (c : Int)) = ((256 * c : Nat) : Int) := by omega
  rw [e, BitVec.toNat_or, ofInt_u64 a (by omega), ofInt_u64 (256 * c) (by omega), Nat.or_comm, nat_join 8 (256 * c) a (by omega) (by omega), IntKind.wrap_i64]
  omega

set_option maxHeartbeats 2000000 in
theorem standing_two (b off len cap : Nat) (z0 z1 : Int) (zs : List Int) (w : World) (R : Row .u8 w (some ⟨b, off, none⟩) len cap (z0 :: z1 :: zs)) (hcap : cap ≤ 9223372036854775807) :
    Calls Tryd.prog 64 #[.slice (some ⟨b, off, none⟩) len cap] w fun e w' => e = .returned (match stand (z0 :: z1 :: zs) with | .ok n => .tuple #[.int .i64 n, .int .i64 0] | .error c => .tuple #[.int .i64 0, .int .i64 c]) ∧ ∃ n, w' = w.drewN n := by
  have hle := R.le
  have hsz := R.size
  simp only [List.length_cons] at hsz
  have hcv := fun n => conv_row ((R.pre 2 (by omega)).drewN n)
  simp only [List.take_succ_cons, List.take_zero] at hcv
  have hq := mark2 z0 z1 (R.byte z0 (by simp)) (R.byte z1 (by simp))
  obtain ⟨s, hs⟩ : ∃ s, strOfNums [z0, z1] = s := ⟨_, rfl⟩
  rw [hs] at hcv hq
  clear hs
  have hst : stand (z0 :: z1 :: zs) = if z0 ≠ 237 ∨ z1 ≠ 91 then .error 20 else if len < 4 then .error 21 else if len < lenAt (z0 :: z1 :: zs) + 8 then .error 21 else .ok (lenAt (z0 :: z1 :: zs) + 8) := by
    unfold stand
    rw [show (z0 :: z1 :: zs).length = len from R.size]
    congr 1
    simp
    omega
  rw [hst]
  by_cases h : z0 = 237 ∧ z1 = 91
  · have hq2 : (s.toList == ((⟨#[237, 91]⟩ : ByteArray).extract 0 2).toList) = true := by rw [hq, decide_eq_true h.1, decide_eq_true h.2]; rfl
    rw [if_neg (by omega)]
    clear hq
    by_cases h4 : len < 4
    · rw [if_pos h4]
      clear hst h
      rcases (show len = 2 ∨ 2 < len by omega) with e | h2
      · subst e
        clear R
        go_enter Tryd.func64, Tryd.ntmps64
        go_wp2
        go_quiet (fail)
        go_wp2
        go_ret2
        exact ⟨rfl, _, rfl⟩
      · go_enter Tryd.func64, Tryd.ntmps64
        go_wp2
        go_quiet (fail)
        go_wp2
        go_ret2
        exact ⟨rfl, _, rfl⟩
    · rw [if_neg h4]
      have c2 := R.at 2 (by omega)
      have c3 := R.at 3 (by omega)
      have b2 := byt_at R.byte 2 (by rw [R.size]; omega)
      have b3 := byt_at R.byte 3 (by rw [R.size]; omega)
      have hj := join8 _ _ b2 b3
      have HL : Hid ((((z0 :: z1 :: zs).getD 2 0).toNat + 256 * ((z0 :: z1 :: zs).getD 3 0).toNat) = lenAt (z0 :: z1 :: zs)) := rfl
      obtain ⟨N, hN⟩ : ∃ N, lenAt (z0 :: z1 :: zs) = N := ⟨_, rfl⟩
      rw [hN] at HL ⊢
      obtain ⟨x, hx⟩ : ∃ x, (z0 :: z1 :: zs).getD 2 0 = x := ⟨_, rfl⟩
      obtain ⟨y, hy⟩ : ∃ x, (z0 :: z1 :: zs).getD 3 0 = x := ⟨_, rfl⟩
      rw [hx] at c2 b2 hj HL
      rw [hy] at c3 b3 hj HL
      have hxy : x + 256 * y = (N : Int) := by have := HL.out; omega
      rw [hxy] at hj
      have hNb : N ≤ 65535 := by omega
      have hj2 : bits .or .i64 x (y * 256) = (N : Int) := by rw [Int.mul_comm]; exact hj
      clear hst h hx hy hN HL hxy
      by_cases h5 : len < N + 8
      · rw [if_pos h5]
        go_enter Tryd.func64, Tryd.ntmps64
        go_wp2
        go_quiet (fail)
        go_wp2
        go_quiet (fail)
        go_wp2
        go_ret2
        exact ⟨rfl, _, rfl⟩
      · rw [if_neg h5]
        go_enter Tryd.func64, Tryd.ntmps64
        go_wp2
        go_quiet (fail)
        go_wp2
        go_quiet (fail)
        go_wp2
        go_ret2
        exact ⟨by first | rfl | (simp; omega), _, rfl⟩
  · have hq2 : (s.toList == ((⟨#[237, 91]⟩ : ByteArray).extract 0 2).toList) = false := by
      rw [hq, ← Bool.decide_and]
      exact decide_eq_false h
    rw [if_pos (by omega)]
    clear hq hst h
    rcases (show len = 2 ∨ 2 < len by omega) with e | h2
    · subst e
      clear R
      go_enter Tryd.func64, Tryd.ntmps64
      go_wp2
      go_quiet (fail)
      go_wp2
      go_ret2
      exact ⟨rfl, _, rfl⟩
    · go_enter Tryd.func64, Tryd.ntmps64
      go_wp2
      go_quiet (fail)
      go_wp2
      go_ret2
      exact ⟨rfl, _, rfl⟩

/-- What standing tells, as the program hands it back. -/
def stdV : Except Int Nat → Value
  | .ok n => .tuple #[.int .i64 n, .int .i64 0]
  | .error c => .tuple #[.int .i64 0, .int .i64 c]
theorem standing_any (a : Option Addr) (len cap : Nat) (zs : List Int) (w : World) (R : Row .u8 w a len cap zs) (hcap : cap ≤ 9223372036854775807) :
    Calls Tryd.prog 64 #[.slice a len cap] w fun e w' => e = .returned (stdV (stand zs)) ∧ ∃ n, w' = w.drewN n := by
  have hsz := R.size
  rcases zs with _ | ⟨z0, _ | ⟨z1, zs⟩⟩
  · obtain rfl : len = 0 := hsz.symm
    exact standing_empty a cap w R hcap
  · obtain rfl : len = 1 := hsz.symm
    obtain ⟨b, off, rfl, _, _⟩ := R.mem.resolve_left (by omega)
    refine (standing_one b off cap z0 w R hcap).mono ?_
    rintro e w' ⟨rfl, h⟩
    refine ⟨?_, h⟩
    have e : stand [z0] = .error (if z0 = 237 then 21 else 20) := by
      unfold stand
      by_cases h : z0 = 237
      · subst h; rfl
      · rw [if_pos (.inl ⟨by simp, by simpa using h⟩), if_neg h]
    rw [e]
    rfl
  · simp only [List.length_cons] at hsz
    obtain ⟨b, off, rfl, _, _⟩ := R.mem.resolve_left (by omega)
    refine (standing_two b off len cap z0 z1 zs w R hcap).mono ?_
    rintro e w' ⟨rfl, h⟩
    refine ⟨?_, h⟩
    cases stand (z0 :: z1 :: zs) <;> rfl

end Go.Proofs.YticmjlnpjopfbaaDoor.S
