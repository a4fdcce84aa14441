/-
  What the calls Signed, Text and Flag of package code return, and the document's own.
-/
import Derived.Test.YticmjlnpjopfbaaDoorCRow
namespace Go.Proofs.YticmjlnpjopfbaaDoor.C
open Go.ChangeShapes Go.WideShapes Go.ChangeAt Go.RowKit
set_option linter.unusedVariables false

/-- The number from 0 on as which a signed one is written. -/
def sg (x : Int) : Int := if x < 0 then -2 * x - 1 else 2 * x
theorem sg_bd {x : Int} (h0 : -9223372036854775808 ≤ x) (h1 : x ≤ 9223372036854775807) : 0 ≤ sg x ∧ sg x ≤ 18446744073709551615 := by unfold sg; split <;> omega
/-- A text's bytes. -/
def bytesL (s : ByteArray) : List Int := s.data.toList.map fun b => (b.toNat : Int)
theorem bytesL_length (s : ByteArray) : (bytesL s).length = s.size := by simp [bytesL]
theorem bytesL_byte (s : ByteArray) : ∀ c ∈ bytesL s, 0 ≤ c ∧ c < 256 := by
  intro c hc
  simp only [bytesL, List.mem_map] at hc
  obtain ⟨b, _, rfl⟩ := hc
  have := b.toNat_lt
  omega
theorem strCells_eq (s : ByteArray) : Lib.strCells s = (bytesL s).map bv := by simp [Lib.strCells, bytesL]
/-- A text, a truth. -/
def txt (s : ByteArray) : List Int := enc s.size ++ bytesL s
def flg (b : Bool) : List Int := [if b then 1 else 0]

theorem not64 (y : Int) (h0 : 0 ≤ y) (h1 : y < 18446744073709551616) : bits .xor .u64 IntKind.u64.max y = 18446744073709551615 - y := by
  have hm : IntKind.u64.max = 18446744073709551615 := rfl
  rw [hm, u64_xor _ _ (by omega) (by omega) h0 h1]
  have key := BitVec.toNat_not (x := BitVec.ofNat 64 y.toNat)
  rw [BitVec.not_def, BitVec.toNat_xor, BitVec.toNat_allOnes, BitVec.toNat_ofNat, Nat.mod_eq_of_lt (by omega)] at key
  have e : ((18446744073709551615 : Int).toNat ^^^ y.toNat) = 2 ^ 64 - 1 - y.toNat := key
  rw [e]
  omega

theorem fold_any (x : Int) (w : World) (h0 : -9223372036854775808 ≤ x) (h1 : x ≤ 9223372036854775807) :
    Calls Tryd.prog 79 #[.int .i64 x] w fun e w' => e = .returned (.int .u64 (sg x)) ∧ w' = w := by
  by_cases hx : x < 0
  · go_enter Tryd.func79, Tryd.ntmps79
    go_wp2
    go_ret
    refine ⟨ret_u64 ?_, rfl⟩
    unfold sg
    rw [if_pos hx]
    simp only [IntKind.wrap_u64]
    rw [not64 _ (by omega) (by omega)]
    omega
  · go_enter Tryd.func79, Tryd.ntmps79
    go_wp2
    go_ret
    refine ⟨ret_u64 ?_, rfl⟩
    unfold sg
    rw [if_neg (by omega)]
    omega

set_option maxHeartbeats 1000000 in
theorem putText_any (base : Nat) (v : Value) (zs : List Int) (s : ByteArray) (w : World) (h : Own base w v zs) (hb : base ≤ w.heap.size) (hn : zs.length + s.size ≤ 70368744170000) :
    Calls Tryd.prog 80 #[v, .string s] w fun e w' => ∃ v', e = .returned v' ∧ Own base w' v' (zs ++ txt s) ∧ Below base w w' := by
  obtain ⟨i0, hi, hz0, hz1, hz2⟩ := info_parts info5
  have hel := (enc_length (s.size : Int)).2
  go_enter Tryd.func80, Tryd.ntmps80
  go_wp2_with (first
    | (go_at_call 78; refine (putNumber_any base _ _ _ _ h hb (by omega) (by omega) (by omega)).mono ?_; rintro e w1 ⟨v1, rfl, ho1, hb1⟩)
    | (at_builtin; refine Lib.wpList_append_own_string _ rfl _ _ 27 9 rfl base 5 i0 Tryd.underlying27 Tryd.underlying9 hi hz0 hz1 hz2 _ _ _ rfl ho1 s rfl (by unfold maxLen; simp; omega) (by simp; omega) (by have := hb1.size; omega) ?_))
  intro v' w2 ho2 hg2 _
  go_wp2
  go_ret
  refine ⟨_, rfl, ?_, hb1.grown hg2 (by have := hb1.size; omega) ho1.lt⟩
  rw [strCells_eq] at ho2
  simpa [Own, txt, bytesL_length, Nat.add_assoc] using ho2

set_option maxHeartbeats 1000000 in
theorem putFlag_any (base : Nat) (v : Value) (zs : List Int) (is : Bool) (w : World) (h : Own base w v zs) (hb : base ≤ w.heap.size) (hn : zs.length ≤ 70368744170000) :
    Calls Tryd.prog 81 #[v, .bool is] w fun e w' => ∃ v', e = .returned v' ∧ Own base w' v' (zs ++ flg is) ∧ Below base w w' := by
  obtain ⟨i0, hi, hz0, hz1, hz2⟩ := info_parts info5
  have hown : w.ownsRow base 5 1 v zs.length (zs.map bv) := h
  cases is
  · go_enter Tryd.func81, Tryd.ntmps81
    go_wp2_with (at_builtin; refine wpList_append_own _ rfl _ _ 27 rfl base 5 i0 (.int .u8 0) 1 1 Tryd.underlying27 hi hz0 hz1 hz2 rfl (by decide) _ _ _ rfl (hown.alloc _) ⟨w.heap.size, 0, none⟩ 1 1 [.int .u8 0] rfl rfl (cell_one_new _ _ _) (by simp [Value.oneCell']) (by unfold maxLen; omega) (by omega) (by simp; omega) ?_)
    intro v' w1 hown1 hg1 _
    go_wp2
    go_ret
    exact ⟨_, rfl, by simpa [Own, flg] using hown1, ((Below.refl _ _).alloc hb _).grown hg1 (by simp; omega) h.lt⟩
  · go_enter Tryd.func81, Tryd.ntmps81
    go_wp2_with (at_builtin; refine wpList_append_own _ rfl _ _ 27 rfl base 5 i0 (.int .u8 0) 1 1 Tryd.underlying27 hi hz0 hz1 hz2 rfl (by decide) _ _ _ rfl (hown.alloc _) ⟨w.heap.size, 0, none⟩ 1 1 [.int .u8 1] rfl rfl (cell_one_new _ _ _) (by simp [Value.oneCell']) (by unfold maxLen; omega) (by omega) (by simp; omega) ?_)
    intro v' w1 hown1 hg1 _
    go_wp2
    go_ret
    exact ⟨_, rfl, by simpa [Own, flg] using hown1, ((Below.refl _ _).alloc hb _).grown hg1 (by simp; omega) h.lt⟩

end Go.Proofs.YticmjlnpjopfbaaDoor.C
