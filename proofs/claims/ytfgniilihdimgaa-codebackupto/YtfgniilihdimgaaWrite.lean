/-
  What the calls Signed, Text and Flag of package code return, and the document's own.
-/
import Derived.Test.YtfgniilihdimgaaRow
namespace Go.Proofs.Ytfgniilihdimgaa
open Go.ChangeShapes Go.WideShapes Go.ChangeAt Go.RowKit
set_option linter.unusedVariables false

/-- The number from 0 on as which a signed one is written. -/
def sg (x : Int) : Int := if x < 0 then -2 * x - 1 else 2 * x
theorem sg_bd {x : Int} (h0 : -9223372036854775808 ≤ x) (h1 : x ≤ 9223372036854775807) : 0 ≤ sg x ∧ sg x ≤ 18446744073709551615 := by unfold sg; split <;> omega
/-- A text's bytes. -/
def bytesL (s : ByteArray) : List Int := s.data.toList.map fun b => (b.toNat : Int)
theorem bytesL_length (s : ByteArray) : (bytesL s).length = s.size := by simp [bytesL]
theorem bytesL_byte (s : ByteArray) : ∀ c ∈ bytesL s, 0 ≤ c ∧ c < 256 := by
  intro c hc
  simp only [bytesL, List.mem_map] at hc
  obtain ⟨b, _, rfl⟩ := hc
  have := b.toNat_lt
  omega
theorem strCells_eq (s : ByteArray) : Lib.strCells s = (bytesL s).map bv := by simp [Lib.strCells, bytesL]
/-- A text, a truth. -/
def txt (s : ByteArray) : List Int := enc s.size ++ bytesL s
def flg (b : Bool) : List Int := [if b then 1 else 0]

theorem not64 (y : Int) (h0 : 0 ≤ y) (h1 : y < 18446744073709551616) : bits .xor .u64 IntKind.u64.max y = 18446744073709551615 - y := by
  have hm : IntKind.u64.max = 18446744073709551615 := rfl
  rw [hm, u64_xor _ _ (by omega) (by omega) h0 h1]
  have key := BitVec.toNat_not (x := BitVec.ofNat 64 y.toNat)
  rw [BitVec.not_def, BitVec.toNat_xor, BitVec.toNat_allOnes, BitVec.toNat_ofNat, Nat.mod_eq_of_lt (by omega)] at key
  have e : ((18446744073709551615 : Int).toNat ^^^ y.toNat) = 2 ^ 64 - 1 - y.toNat := key
  rw [e]
  omega

theorem fold_any (x : Int) (w : World) (h0 : -9223372036854775808 ≤ x) (h1 : x ≤ 9223372036854775807) :
    Calls Try.prog 28 #[.int .i64 x] w fun e w' => e = .returned (.int .u64 (sg x)) ∧ w' = w := by
  by_cases hx : x < 0
  · go_enter Try.func28, Try.ntmps28
    go_wp2
    go_ret
    refine ⟨ret_u64 ?_, rfl⟩
    unfold sg
    rw [if_pos hx]
    simp only [IntKind.wrap_u64]
    rw [not64 _ (by omega) (by omega)]
    omega
  · go_enter Try.func28, Try.ntmps28
    go_wp2
    go_ret
    refine ⟨ret_u64 ?_, rfl⟩
    unfold sg
    rw [if_neg (by omega)]
    omega

set_option maxHeartbeats 1000000 in
theorem signed_any (a : Option Addr) (len cap : Nat) (zs : List Int) (x : Int) (w : World) (R : Row .u8 w a len cap zs) (hl : len ≤ 70368744170000) (h0 : -9223372036854775808 ≤ x) (h1 : x ≤ 9223372036854775807) :
    Calls Try.prog 11 #[.slice a len cap, .int .i64 x] w fun e w' => ∃ v, e = .returned v ∧ Own w.heap.size w' v (zs ++ enc (sg x)) ∧ Below w.heap.size w w' := by
  obtain ⟨s0, s1⟩ := sg_bd h0 h1
  go_enter Try.func11, Try.ntmps11
  go_wp2_with (first
    | (go_at_call 28; refine (fold_any _ _ h0 h1).mono ?_; rintro e w' ⟨rfl, hw⟩; rw [hw]; clear hw)
    | (go_at_call 9; refine (number_any _ _ _ _ _ _ R hl s0 s1).mono ?_; rintro e w1 ⟨v1, rfl, ho1, hb1⟩))
  go_ret
  exact ⟨_, rfl, ho1, hb1⟩

set_option maxHeartbeats 1000000 in
theorem putText_any (base : Nat) (v : Value) (zs : List Int) (s : ByteArray) (w : World) (h : Own base w v zs) (hb : base ≤ w.heap.size) (hn : zs.length + s.size ≤ 70368744170000) :
    Calls Try.prog 29 #[v, .string s] w fun e w' => ∃ v', e = .returned v' ∧ Own base w' v' (zs ++ txt s) ∧ Below base w w' := by
  obtain ⟨i0, hi, hz0, hz1, hz2⟩ := info_parts info5
  have hel := (enc_length (s.size : Int)).2
  go_enter Try.func29, Try.ntmps29
  go_wp2_with (first
    | (go_at_call 26; refine (putNumber_any base _ _ _ _ h hb (by omega) (by omega) (by omega)).mono ?_; rintro e w1 ⟨v1, rfl, ho1, hb1⟩)
    | (at_builtin; refine Lib.wpList_append_own_string _ rfl _ _ 22 9 rfl base 5 i0 Try.underlying22 Try.underlying9 hi hz0 hz1 hz2 _ _ _ rfl ho1 s rfl (by unfold maxLen; simp; omega) (by simp; omega) (by have := hb1.size; omega) ?_))
  intro v' w2 ho2 hg2 _
  go_wp2
  go_ret
  refine ⟨_, rfl, ?_, hb1.grown hg2 (by have := hb1.size; omega) ho1.lt⟩
  rw [strCells_eq] at ho2
  simpa [Own, txt, bytesL_length, Nat.add_assoc] using ho2

set_option maxHeartbeats 1000000 in
theorem putFlag_any (base : Nat) (v : Value) (zs : List Int) (is : Bool) (w : World) (h : Own base w v zs) (hb : base ≤ w.heap.size) (hn : zs.length ≤ 70368744170000) :
    Calls Try.prog 30 #[v, .bool is] w fun e w' => ∃ v', e = .returned v' ∧ Own base w' v' (zs ++ flg is) ∧ Below base w w' := by
  obtain ⟨i0, hi, hz0, hz1, hz2⟩ := info_parts info5
  have hown : w.ownsRow base 5 1 v zs.length (zs.map bv) := h
  cases is
  · go_enter Try.func30, Try.ntmps30
    go_wp2_with (at_builtin; refine wpList_append_own _ rfl _ _ 22 rfl base 5 i0 (.int .u8 0) 1 1 Try.underlying22 hi hz0 hz1 hz2 rfl (by decide) _ _ _ rfl (hown.alloc _) ⟨w.heap.size, 0, none⟩ 1 1 [.int .u8 0] rfl rfl (cell_one_new _ _ _) (by simp [Value.oneCell']) (by unfold maxLen; omega) (by omega) (by simp; omega) ?_)
    intro v' w1 hown1 hg1 _
    go_wp2
    go_ret
    exact ⟨_, rfl, by simpa [Own, flg] using hown1, ((Below.refl _ _).alloc hb _).grown hg1 (by simp; omega) h.lt⟩
  · go_enter Try.func30, Try.ntmps30
    go_wp2_with (at_builtin; refine wpList_append_own _ rfl _ _ 22 rfl base 5 i0 (.int .u8 0) 1 1 Try.underlying22 hi hz0 hz1 hz2 rfl (by decide) _ _ _ rfl (hown.alloc _) ⟨w.heap.size, 0, none⟩ 1 1 [.int .u8 1] rfl rfl (cell_one_new _ _ _) (by simp [Value.oneCell']) (by unfold maxLen; omega) (by omega) (by simp; omega) ?_)
    intro v' w1 hown1 hg1 _
    go_wp2
    go_ret
    exact ⟨_, rfl, by simpa [Own, flg] using hown1, ((Below.refl _ _).alloc hb _).grown hg1 (by simp; omega) h.lt⟩

set_option maxHeartbeats 1000000 in
theorem text_any (a : Option Addr) (len cap : Nat) (zs : List Int) (s : ByteArray) (w : World) (R : Row .u8 w a len cap zs) (hl : len + s.size ≤ 70368744170000) :
    Calls Try.prog 13 #[.slice a len cap, .string s] w fun e w' => ∃ v, e = .returned v ∧ Own w.heap.size w' v (zs ++ txt s) ∧ Below w.heap.size w w' := by
  have hel := (enc_length (s.size : Int)).2
  have hlz := R.size
  go_enter Try.func13, Try.ntmps13
  go_wp2_with (first
    | (go_at_call 17; refine (size_any _ _ (by omega) (by omega)).mono ?_; rintro e w' ⟨rfl, hw⟩; rw [hw]; clear hw)
    | (go_at_call 27; rw [show ((enc (s.size : Int)).length : Int) + (s.size : Int) = (((enc (s.size : Int)).length + s.size : Nat) : Int) by omega]; refine (fresh_any _ _ _ _ _ _ R (by omega)).mono ?_; rintro e w1 ⟨v1, rfl, ho1, hb1⟩)
    | (go_at_call 29; refine (putText_any w.heap.size _ _ _ _ ho1 hb1.size (by omega)).mono ?_; rintro e w2 ⟨v2, rfl, ho2, hb2⟩))
  go_ret
  exact ⟨_, rfl, ho2, hb1.trans hb2⟩

set_option maxHeartbeats 1000000 in
theorem flag_any (a : Option Addr) (len cap : Nat) (zs : List Int) (is : Bool) (w : World) (R : Row .u8 w a len cap zs) (hl : len ≤ 70368744170000) :
    Calls Try.prog 15 #[.slice a len cap, .bool is] w fun e w' => ∃ v, e = .returned v ∧ Own w.heap.size w' v (zs ++ flg is) ∧ Below w.heap.size w w' := by
  have hlz := R.size
  go_enter Try.func15, Try.ntmps15
  go_wp2_with (first
    | (go_at_call 27; refine (fresh_any _ _ _ _ 1 _ R (by omega)).mono ?_; rintro e w1 ⟨v1, rfl, ho1, hb1⟩)
    | (go_at_call 30; refine (putFlag_any w.heap.size _ _ _ _ ho1 hb1.size (by omega)).mono ?_; rintro e w2 ⟨v2, rfl, ho2, hb2⟩))
  go_ret
  exact ⟨_, rfl, ho2, hb1.trans hb2⟩

end Go.Proofs.Ytfgniilihdimgaa
