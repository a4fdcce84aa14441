/-
  The law SealBack, walked.
-/
import Derived.Test.YteadkfcbgphgnaaDoorAwake
import Derived.Test.YteadkfcbgphgnaaDoorSame
namespace Go.Proofs.YteadkfcbgphgnaaDoor
open Go.ChangeShapes Go.WideShapes Go.ChangeAt Go.RowKit
set_option linter.unusedVariables false

theorem own_row_len {base : Nat} {w : World} {v : Value} {zs : List Int} {n : Nat} (h : Own base w v zs) (hb : Byt zs) (hn : zs.length = n) : ∃ a cap, v = .slice a n cap ∧ Row .u8 w a n cap zs ∧ cap ≤ 9223372036854775807 ∧ (0 < n → ∃ g, a = some ⟨g, 0, none⟩ ∧ base ≤ g) := by
  obtain ⟨a, cap, rfl, R⟩ := h.row hb
  have hc := h.cap
  rw [hn] at R hc
  refine ⟨a, cap, by rw [hn], R, hc.2.2, fun hp => ?_⟩
  obtain ⟨g, c, e, h1, h2, h3, h4⟩ := h.some (by intro e; rw [e] at hn; simp at hn; omega)
  cases e
  exact ⟨g, rfl, h1⟩

theorem rem_u64 (x : Int) (n : Nat) (hn : 0 < n) (hn2 : n ≤ 9223372036854775807) : ∃ k : Nat, (IntKind.u64.wrap x).tmod (n : Int) = (k : Int) ∧ k < n := by
  have h0 : 0 ≤ IntKind.u64.wrap x := by rw [IntKind.wrap_u64]; omega
  obtain ⟨y, hy⟩ := Int.eq_ofNat_of_zero_le h0
  rw [hy]
  refine ⟨y % n, ?_, Nat.mod_lt _ hn⟩
  rw [Int.tmod_eq_emod_of_nonneg (by omega)]
  rfl

set_option maxRecDepth 100000 in
set_option maxHeartbeats 4000000 in
theorem back_long (a : Option Addr) (len cap : Nat) (zs : List Int) (v : Value) (cut : Int) (w : World) (R : Row .u8 w a len cap zs) (ht : Tab w) (hl : len ≤ 9223372036854775807) (hL : 65535 < len) :
    Calls Tryd.prog 6 #[.slice a len cap, v, .int .i64 cut] w fun e w' => e = .returned (.bool true) ∧ Below w.heap.size w w' := by
  have K1 := seal_no _ _ _ _ w R ht hL hl
  go_enter Tryd.func6, Tryd.ntmps6
  go_wp2_with (first
    | (go_at_call 10; refine K1.mono ?_; rintro e w1 ⟨rfl, b1⟩; have K2 := awake_any w1 (ht.below b1))
    | (go_at_call 14; refine K2.mono ?_; rintro e w2 ⟨rfl, b2⟩))
  go_ret
  exact ⟨rfl, b1.trans (b2.mono b1.size)⟩

set_option maxRecDepth 100000 in
set_option maxHeartbeats 4000000 in
theorem back_short (a : Option Addr) (len cap : Nat) (zs : List Int) (a2 : Option Addr) (len2 cap2 : Nat) (ys : List Int) (cut : Int) (w : World) (R : Row .u8 w a len cap zs) (R2 : Row .u8 w a2 len2 cap2 ys) (ht : Tab w)
    (hL : len ≤ 65535) (hl2 : len2 ≤ 1099511627776) (hc0 : -9223372036854775808 ≤ cut) (hc1 : cut ≤ 9223372036854775807) :
    Calls Tryd.prog 6 #[.slice a len cap, .slice a2 len2 cap2, .int .i64 cut] w fun e w' => e = .returned (.bool true) ∧ Below w.heap.size w w' := by
  have hsz := R.size
  have hfb := byt_frm R.byte (by omega)
  have hfl : (frm zs).length = len + 8 := by rw [frm_len, hsz]
  have K1 := seal_ok _ _ _ _ w R ht hL
  go_enter Tryd.func6, Tryd.ntmps6
  go_wp2_with fail
  refine K1.mono ?_
  rintro e w1 ⟨v1, rfl, o1, b1⟩
  obtain ⟨a1, c1, rfl, F1, hc1', hg1⟩ := own_row_len o1 hfb hfl
  obtain ⟨g1, rfl, hgb⟩ := hg1 (by omega)
  have K2 := copied_any _ _ _ _ w1 F1 (by omega)
  clear K1 o1
  go_wp2_with fail
  refine K2.mono ?_
  rintro e w2 ⟨v2, rfl, o2, b2⟩
  have S2 := (R2.below b1).below b2
  clear K2
  have hb2 : w1.heap.size ≤ w2.heap.size := b2.size
  have happ : (frm zs).length + len2 ≤ 140737488355328 := by rw [hfl]; omega
  have hys := R2.byte
  go_wp2_with (at_builtin; refine wpList_append_row _ rfl _ _ rfl w1.heap.size _ _ rfl o2 _ _ _ _ rfl S2 hb2 happ ?_)
  intro v3 w3 o3 b3
  have b13 : Below w1.heap.size w1 w3 := b2.trans b3
  have bw3 : Below w.heap.size w w3 := b1.trans (b13.mono b1.size)
  obtain ⟨a3, c3, rfl, F3, hc3, _⟩ := own_row_len o3 (byt_app hfb hys) (n := len + 8 + len2) (by rw [List.length_append, hfl, R2.size])
  have ho := opn_frm zs ys (by omega)
  rw [hsz] at ho
  have K3 := open_ok _ _ _ _ w3 F3 (ht.below bw3) (by omega) hc3 _ _ ho
  clear o2 o3 S2
  go_wp2_with fail
  refine K3.mono ?_
  rintro e w4 ⟨v4, rfl, o4, b4⟩
  have bw4 : Below w.heap.size w w4 := bw3.trans (b4.mono bw3.size)
  have F4 := (F1.below b13).below b4
  obtain ⟨a4, c4, rfl, X4, hc4, _⟩ := own_row_len o4 R.byte hsz
  clear K3 F3
  obtain ⟨k, hk, hkl⟩ := rem_u64 cut (len + 8) (by omega) (by omega)
  rw [show ((len + 8 : Nat) : Int) = (len : Int) + 8 by omega] at hk
  have P4 := F4.pre k (by omega)
  have hF4 := F4.le
  have hkc : (k : Int) ≤ (c1 : Int) := by omega
  have K5 := open_no _ _ _ _ w4 P4 (ht.below bw4) (by omega) hc1' _ (opn_cut zs k (by omega) (by rw [hfl]; exact hkl))
  go_wp2_with fail
  refine K5.mono ?_
  rintro e w5 ⟨rfl, b5⟩
  have bw5 : Below w.heap.size w w5 := bw4.trans (b5.mono bw4.size)
  have v1 := conv_row (X4.below b5)
  have v2 := conv_row (R.below bw5)
  have K6 := awake_any w5 (ht.below bw5)
  obtain ⟨s, hs⟩ : ∃ s, strOfNums zs = s := ⟨_, rfl⟩
  rw [hs] at v1 v2
  have hq := beq_refl_bytes s
  clear K5 P4 hs F4 X4 hk
  go_wp2_with (go_at_call 14; refine K6.mono ?_; rintro e w6 ⟨rfl, b6⟩)
  go_ret
  exact ⟨rfl, bw5.trans (b6.mono bw5.size)⟩

theorem back_walk (a : Option Addr) (len cap : Nat) (zs : List Int) (a2 : Option Addr) (len2 cap2 : Nat) (ys : List Int) (cut : Int) (w : World) (R : Row .u8 w a len cap zs) (R2 : Row .u8 w a2 len2 cap2 ys) (ht : Tab w)
    (hl : len ≤ 9223372036854775807) (hl2 : len2 ≤ 1099511627776) (hc0 : -9223372036854775808 ≤ cut) (hc1 : cut ≤ 9223372036854775807) :
    Calls Tryd.prog 6 #[.slice a len cap, .slice a2 len2 cap2, .int .i64 cut] w fun e w' => e = .returned (.bool true) ∧ Below w.heap.size w w' := by
  by_cases hL : len ≤ 65535
  · exact back_short a len cap zs a2 len2 cap2 ys cut w R R2 ht hL hl2 hc0 hc1
  · exact back_long a len cap zs _ cut w R ht hl (by omega)

end Go.Proofs.YteadkfcbgphgnaaDoor
