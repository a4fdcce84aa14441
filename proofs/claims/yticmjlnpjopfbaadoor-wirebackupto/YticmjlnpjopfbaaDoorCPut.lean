/-
  What the writing calls of package code return: the bytes behind those that are there.
-/
import Derived.Test.YticmjlnpjopfbaaDoorCSize
import Derived.OwnWalk
import Derived.Lib.AppendStr
import Derived.Laws.AppendOwnNone
import Derived.Deep.LoopGhost
import Derived.WalkSpells
namespace Go.Proofs.YticmjlnpjopfbaaDoor.C
open Go.ChangeShapes Go.WideShapes Go.ChangeAt Go.RowKit
set_option linter.unusedVariables false

abbrev bv (n : Int) : Value := .int .u8 n
theorem info5 : (Tryd.prog.info? 5).map (fun i => (i.zero, i.size, i.bytes)) = some (some (.int .u8 0), 1, 1) := by kernel_rfl

theorem low_more (y : Int) (h0 : 0 ≤ y) (h1 : y < 18446744073709551616) : bits .or .u8 (y % 256) 128 = y % 128 + 128 := by
  have e : y % 256 = y % 128 ∨ y % 256 = y % 128 + 128 := by omega
  rcases e with e | e
  · rw [e]; exact u8_or128_right _ (by omega) (by omega)
  · have h : ∀ z : Int, 0 ≤ z → z < 128 → bits .or .u8 (z + 128) 128 = z + 128 := by
      intro z hz0 hz1
      go_bits2
      have hz : (z + 128).toNat = 2 ^ 7 * 1 + z.toNat := by omega
      rw [hz, Nat.two_pow_add_eq_or_of_lt (by omega), Nat.or_assoc, Nat.or_comm z.toNat, ← Nat.or_assoc]
      rw [show (2 ^ 7 * 1 ||| 128 : Nat) = 2 ^ 7 * 1 by decide, ← Nat.two_pow_add_eq_or_of_lt (by omega)]
      omega
    rw [e]; exact h _ (by omega) (by omega)

set_option maxHeartbeats 1000000 in
theorem put_any (base : Nat) (v : Value) (n : Nat) (xs : List Value) (x : Int) (w : World) (hown : w.ownsRow base 5 1 v n xs) (hb : base ≤ w.heap.size) (hn : n ≤ 70368744177664)
    (h0 : 0 ≤ x) (h1 : x ≤ 18446744073709551615) :
    Calls Tryd.prog 78 #[v, .int .u64 x] w fun e w' => ∃ v', e = .returned v' ∧ w'.ownsRow base 5 1 v' (n + (enc x).length) (xs ++ (enc x).map bv) ∧ Below base w w' := by
  obtain ⟨i0, hi, hz0, hz1, hz2⟩ := info_parts info5
  have HX : Hid (0 ≤ x ∧ x ≤ 18446744073709551615) := ⟨h0, h1⟩
  go_enter Tryd.func78, Tryd.ntmps78
  go_wp2
  go_loopg [0, 1] 9 (fun g b z wr => ∃ (y : Int) (ys : List Int), z = .int .u64 y ∧ 0 ≤ y ∧ y ≤ 18446744073709551615 ∧ Hid (y < 2 * 128 ^ g) ∧ wr.ownsRow base 5 1 b (n + ys.length) (xs ++ ys.map bv) ∧ Hid (ys ++ encF g y = enc x) ∧ ys.length + g = 9 ∧ Below base w wr ∧ base ≤ wr.heap.size)
  case atStart => exact ⟨x, [], rfl, h0, h1, by show x < 2 * 128 ^ 9; rw [top_eq]; omega, by simpa using hown, rfl, rfl, Below.refl _ _, hb⟩
  case round =>
    obtain ⟨y, ys, rfl, hy0, hy1, HY, hown, HE, hg, hB, hbs⟩ := hrel
    by_cases hc : 128 ≤ y
    · have hbit := low_more y hy0 (by omega)
      have hgp : 0 < gk := by
        rcases Nat.eq_zero_or_pos gk with h | h
        · subst h; have := left_none HY.out; omega
        · exact h
      obtain ⟨g', rfl⟩ : ∃ g', gk = g' + 1 := ⟨gk - 1, by omega⟩
      have HL : Hid (ys.length + (g' + 1) = 9) := hg
      have hyl : ys.length ≤ 8 := by omega
      clear hg
      go_wp2_with (at_builtin; refine wpList_append_own _ rfl _ _ 27 rfl base 5 i0 (.int .u8 0) 1 1 Tryd.underlying27 hi hz0 hz1 hz2 rfl (by decide) _ _ _ rfl (hown.alloc _) ⟨wr.heap.size, 0, none⟩ 1 1 [.int .u8 (y % 128 + 128)] rfl rfl (cell_one_new _ _ _) (by simp [Value.oneCell']) (by unfold maxLen; omega) (by omega) (by simp; omega) ?_)
      intro v' w1 hown1 hg1 _
      have hB1 : Below base w w1 := (hB.alloc hbs _).grown hg1 (by simp; omega) (fun k hk => (hown.lt k hk).1)
      have hs1 : base ≤ w1.heap.size := by have := hg1.size; simp at this; omega
      clear hg1 hown hB
      go_wp2
      go_roundg g'
      case measure => omega
      case rel =>
        refine ⟨y / 128, ys ++ [y % 128 + 128], by first | rfl | go_num, by omega, by omega, left_step hy0 HY.out, ?_, ?_, by have := HL.out; simp; omega, hB1, hs1⟩
        · simpa [Nat.add_assoc] using hown1
        · show _ = _
          rw [← HE.out, encF_more (by omega)]; simp
    · have hlow : IntKind.u8.wrap y = y := by rw [IntKind.wrap_u8]; omega
      have hyl : ys.length ≤ 9 := by omega
      have HL : Hid (ys.length + gk = 9) := hg
      clear hg
      go_wp2_with (at_builtin; refine wpList_append_own _ rfl _ _ 27 rfl base 5 i0 (.int .u8 0) 1 1 Tryd.underlying27 hi hz0 hz1 hz2 rfl (by decide) _ _ _ rfl (hown.alloc _) ⟨wr.heap.size, 0, none⟩ 1 1 [.int .u8 y] rfl rfl (cell_one_new _ _ _) (by simp [Value.oneCell']) (by unfold maxLen; omega) (by omega) (by simp; omega) ?_)
      intro v' w1 hown1 hg1 _
      have hB1 : Below base w w1 := (hB.alloc hbs _).grown hg1 (by simp; omega) (fun k hk => (hown.lt k hk).1)
      clear hg1 hown hB
      go_wp2
      go_ret
      refine ⟨_, rfl, ?_, hB1⟩
      rw [← HE.out, encF_last (by omega)]
      simpa [Nat.add_assoc] using hown1

end Go.Proofs.YticmjlnpjopfbaaDoor.C
