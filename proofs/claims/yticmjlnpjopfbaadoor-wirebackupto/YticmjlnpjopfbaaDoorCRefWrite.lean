/-
  What the document's own writing calls return.
-/
import Derived.Test.YticmjlnpjopfbaaDoorCWrite
namespace Go.Proofs.YticmjlnpjopfbaaDoor.C
open Go.ChangeShapes Go.WideShapes Go.ChangeAt Go.RowKit
set_option linter.unusedVariables false

theorem and127 (y : Int) (h0 : 0 ≤ y) (h1 : y < 18446744073709551616) : bits .and .u64 y 127 = y % 128 := by go_bits2

/-- append(b, c...): bytes of one's own, behind them bytes that lie anywhere. -/
theorem wpList_append_row (w : World) {ops : Array Oper} {rest : List Oper} {o : Oper} {a : Act} {Q : Exit → Act → World → Prop} (hg : o.guard = none)
    (s x : Operand) (hop : o.op = Op.call { callee := Callee.builtin Builtin.append, args := #[s, x], argTypes := #[27, 27] })
    (base : Nat) (v : Value) (zs : List Int) (hs : a.eval s = v) (hown : Own base w v zs) (ao : Option Addr) (m c : Nat) (ys : List Int) (hx : a.eval x = .slice ao m c) (R : Row .u8 w ao m c ys)
    (hb : base ≤ w.heap.size) (hl : zs.length + m ≤ 70368744177664)
    (hK : ∀ v' w', Own base w' v' (zs ++ ys) → Below base w w' → wpList Tryd.prog ops Q rest (a.put o.dst v') w') : wpList Tryd.prog ops Q (o :: rest) a w := by
  obtain ⟨i0, hi, hz0, hz1, hz2⟩ := info_parts info5
  have hlz := R.size
  subst hlz
  cases ao with
  | none =>
    obtain ⟨e1, rfl⟩ := R.nil rfl
    have e : ys = [] := List.eq_nil_of_length_eq_zero e1
    subst e
    exact wpList_append_own_none hg s x 27 hop base 5 i0 1 Tryd.underlying27 hi v zs.length (zs.map bv) hs hown hx (hK v w (by simpa using hown) (Below.refl _ _))
  | some ad =>
    refine wpList_append_own w hg s x 27 hop base 5 i0 (.int .u8 0) 1 1 Tryd.underlying27 hi hz0 hz1 hz2 rfl (by decide) v zs.length (zs.map bv) hs hown ad ys.length c (ys.map bv) hx (by simp) R.cells (ints_oneCell _ _) (by unfold maxLen; omega) (by omega) hb ?_
    intro v' w' ho hgr _
    exact hK v' w' (by simpa [Own] using ho) ((Below.refl _ _).grown hgr hb hown.lt)

set_option maxHeartbeats 2000000 in
theorem rnumber_any (a : Option Addr) (len cap : Nat) (zs : List Int) (x : Int) (w : World) (R : Row .u8 w a len cap zs) (hl : len ≤ 70368744170000) (h0 : 0 ≤ x) (h1 : x ≤ 18446744073709551615) :
    Calls Tryd.prog 38 #[.slice a len cap, .int .u64 x] w fun e w' => ∃ v, e = .returned v ∧ Own w.heap.size w' v (zs ++ enc x) ∧ Below w.heap.size w w' := by
  obtain ⟨i0, hi, hz0, hz1, hz2⟩ := info_parts info5
  have hlz := R.size
  subst hlz
  go_enter Tryd.func38, Tryd.ntmps38
  go_wp2_with (at_builtin; refine wpList_append_row _ rfl _ _ rfl w.heap.size _ [] rfl (Own.nil _ _) _ _ _ zs rfl R (Nat.le_refl _) (by simp; omega) ?_)
  intro v0 w0 hown0 hB0
  replace hown0 : Own w.heap.size w0 v0 zs := hown0
  go_wp2
  go_loopg [5, 1] 9 (fun g b z wr => ∃ (y : Int) (ys : List Int), z = .int .u64 y ∧ 0 ≤ y ∧ y ≤ 18446744073709551615 ∧ Hid (y < 2 * 128 ^ g) ∧ wr.ownsRow w.heap.size 5 1 b (zs.length + ys.length) (zs.map bv ++ ys.map bv) ∧ Hid (ys ++ encF g y = enc x) ∧ ys.length + g = 9 ∧ Below w.heap.size w wr)
  case atStart => exact ⟨x, [], rfl, h0, h1, by show x < 2 * 128 ^ 9; rw [top_eq]; omega, by simpa [Own] using hown0, rfl, rfl, hB0⟩
  case round =>
    obtain ⟨y, ys, rfl, hy0, hy1, HY, hown, HE, hg, hB⟩ := hrel
    have hbs := hB.size
    by_cases hc : 127 < y
    · have hand := and127 y hy0 (by omega)
      have hbit := u8_or128_right (y % 128) (by omega) (by omega)
      have hgp : 0 < gk := by
        rcases Nat.eq_zero_or_pos gk with h | h
        · subst h; have := left_none HY.out; omega
        · exact h
      obtain ⟨g', rfl⟩ : ∃ g', gk = g' + 1 := ⟨gk - 1, by omega⟩
      have HL : Hid (ys.length + (g' + 1) = 9) := hg
      have hyl : ys.length ≤ 8 := by omega
      clear hg
      go_wp2_with (at_builtin; refine wpList_append_own _ rfl _ _ 27 rfl w.heap.size 5 i0 (.int .u8 0) 1 1 Tryd.underlying27 hi hz0 hz1 hz2 rfl (by decide) _ _ _ rfl (hown.alloc _) ⟨wr.heap.size, 0, none⟩ 1 1 [.int .u8 (y % 128 + 128)] rfl rfl (cell_one_new _ _ _) (by simp [Value.oneCell']) (by unfold maxLen; omega) (by omega) (by simp; omega) ?_)
      intro v' w1 hown1 hg1 _
      have hB1 : Below w.heap.size w w1 := (hB.alloc hbs _).grown hg1 (by simp; omega) (fun k hk => (hown.lt k hk).1)
      clear hg1 hown hB
      go_wp2
      go_roundg g'
      case measure => omega
      case rel =>
        refine ⟨y / 128, ys ++ [y % 128 + 128], by first | rfl | go_num, by omega, by omega, left_step hy0 HY.out, ?_, ?_, by have := HL.out; simp; omega, hB1⟩
        · simpa [Nat.add_assoc] using hown1
        · show _ = _
          rw [← HE.out, encF_more (by omega)]; simp
    · have hyl : ys.length ≤ 9 := by omega
      have HL : Hid (ys.length + gk = 9) := hg
      clear hg
      go_wp2_with (at_builtin; refine wpList_append_own _ rfl _ _ 27 rfl w.heap.size 5 i0 (.int .u8 0) 1 1 Tryd.underlying27 hi hz0 hz1 hz2 rfl (by decide) _ _ _ rfl (hown.alloc _) ⟨wr.heap.size, 0, none⟩ 1 1 [.int .u8 y] rfl rfl (cell_one_new _ _ _) (by simp [Value.oneCell']) (by unfold maxLen; omega) (by omega) (by simp; omega) ?_)
      intro v' w1 hown1 hg1 _
      have hB1 : Below w.heap.size w w1 := (hB.alloc hbs _).grown hg1 (by simp; omega) (fun k hk => (hown.lt k hk).1)
      clear hg1 hown hB
      go_wp2
      go_ret
      refine ⟨_, rfl, ?_, hB1⟩
      rw [← HE.out, encF_last (by omega)]
      simpa [Own, Nat.add_assoc] using hown1

set_option maxHeartbeats 1000000 in
theorem rsigned_any (a : Option Addr) (len cap : Nat) (zs : List Int) (x : Int) (w : World) (R : Row .u8 w a len cap zs) (hl : len ≤ 70368744170000) (h0 : -9223372036854775808 ≤ x) (h1 : x ≤ 9223372036854775807) :
    Calls Tryd.prog 61 #[.slice a len cap, .int .i64 x] w fun e w' => ∃ v, e = .returned v ∧ Own w.heap.size w' v (zs ++ enc (sg x)) ∧ Below w.heap.size w w' := by
  by_cases hx : x < 0
  · have E : sg x = 2 * -(x + 1) + 1 := by unfold sg; rw [if_pos hx]; omega
    rw [E]
    clear E
    go_enter Tryd.func61, Tryd.ntmps61
    go_wp2_with (go_at_call 38; refine (rnumber_any _ _ _ _ _ _ R hl (by omega) (by omega)).mono ?_; rintro e w1 ⟨v1, rfl, ho1, hb1⟩)
    go_ret
    exact ⟨_, rfl, ho1, hb1⟩
  · have E : sg x = 2 * x := by unfold sg; rw [if_neg hx]
    rw [E]
    clear E
    go_enter Tryd.func61, Tryd.ntmps61
    go_wp2_with (go_at_call 38; refine (rnumber_any _ _ _ _ _ _ R hl (by omega) (by omega)).mono ?_; rintro e w1 ⟨v1, rfl, ho1, hb1⟩)
    go_ret
    exact ⟨_, rfl, ho1, hb1⟩

set_option maxHeartbeats 1000000 in
theorem rtext_any (a : Option Addr) (len cap : Nat) (zs : List Int) (s : ByteArray) (w : World) (R : Row .u8 w a len cap zs) (hl : len + s.size ≤ 70368744170000) :
    Calls Tryd.prog 59 #[.slice a len cap, .string s] w fun e w' => ∃ v, e = .returned v ∧ Own w.heap.size w' v (zs ++ txt s) ∧ Below w.heap.size w w' := by
  obtain ⟨i0, hi, hz0, hz1, hz2⟩ := info_parts info5
  have hel := (enc_length (s.size : Int)).2
  have hlz := R.size
  subst hlz
  go_enter Tryd.func59, Tryd.ntmps59
  go_wp2_with (first
    | (go_at_call 38; refine (rnumber_any _ _ _ _ _ _ R (by omega) (by omega) (by omega)).mono ?_; rintro e w1 ⟨v1, rfl, ho1, hb1⟩)
    | (at_builtin; refine Lib.wpList_append_own_string _ rfl _ _ 27 9 rfl w.heap.size 5 i0 Tryd.underlying27 Tryd.underlying9 hi hz0 hz1 hz2 _ _ _ rfl ho1 s rfl (by unfold maxLen; simp; omega) (by simp; omega) hb1.size ?_))
  intro v' w2 ho2 hg2 _
  go_wp2
  go_ret
  refine ⟨_, rfl, ?_, hb1.grown hg2 hb1.size ho1.lt⟩
  rw [strCells_eq] at ho2
  simpa [Own, txt, bytesL_length, Nat.add_assoc] using ho2

set_option maxHeartbeats 1000000 in
theorem rflag_any (a : Option Addr) (len cap : Nat) (zs : List Int) (is : Bool) (w : World) (R : Row .u8 w a len cap zs) (hl : len ≤ 70368744170000) :
    Calls Tryd.prog 60 #[.slice a len cap, .bool is] w fun e w' => ∃ v, e = .returned v ∧ Own w.heap.size w' v (zs ++ flg is) ∧ Below w.heap.size w w' := by
  cases is
  · have E : flg false = enc 0 := by decide
    rw [E]
    clear E
    go_enter Tryd.func60, Tryd.ntmps60
    go_wp2_with (go_at_call 38; refine (rnumber_any _ _ _ _ _ _ R hl (by omega) (by omega)).mono ?_; rintro e w1 ⟨v1, rfl, ho1, hb1⟩)
    go_ret
    exact ⟨_, rfl, ho1, hb1⟩
  · have E : flg true = enc 1 := by decide
    rw [E]
    clear E
    go_enter Tryd.func60, Tryd.ntmps60
    go_wp2_with (go_at_call 38; refine (rnumber_any _ _ _ _ _ _ R hl (by omega) (by omega)).mono ?_; rintro e w1 ⟨v1, rfl, ho1, hb1⟩)
    go_ret
    exact ⟨_, rfl, ho1, hb1⟩

theorem own_len {base : Nat} {w : World} {v : Value} {zs : List Int} (h : Own base w v zs) : ∃ a cap, v = .slice a zs.length cap := by
  have h0 : w.ownsRow base 5 1 v zs.length (zs.map bv) := h
  rcases h0.2 with ⟨rfl, hn⟩ | ⟨g, cap, cur, rfl, hg, hh, hn, hc, hcs, ht⟩
  · have e : zs = [] := by simpa using hn
    subst e
    exact ⟨none, 0, rfl⟩
  · exact ⟨_, _, rfl⟩

end Go.Proofs.YticmjlnpjopfbaaDoor.C
