/-
  What Open returns, of bytes of any length; and the law SealBack, walked without a bound.
-/
import Derived.Test.YteadkfcbgphgnaaDoorBackWalk
import Derived.Deep.DeepAppendWide
namespace Go.Proofs.YteadkfcbgphgnaaDoor
open Go.ChangeShapes Go.WideShapes Go.ChangeAt Go.RowKit
set_option linter.unusedVariables false

theorem getD_le {l : List Int} (h : Byt l) (k : Nat) : (l.getD k 0).toNat ≤ 255 := by
  by_cases hk : k < l.length
  · have := byt_at h k hk
    omega
  · rw [List.getD_eq_getElem?_getD, List.getElem?_eq_none (by omega)]
    decide
theorem lenAt_le {l : List Int} (h : Byt l) : lenAt l ≤ 65535 := by
  have h2 := getD_le h 2
  have h3 := getD_le h 3
  unfold lenAt
  omega
/-- append(b, c...), as far as growslice lets it. -/
theorem wpList_append_wide (w : World) {ops : Array Oper} {rest : List Oper} {o : Oper} {a : Act} {Q : Exit → Act → World → Prop} (hg : o.guard = none)
    (s x : Operand) (hop : o.op = Op.call { callee := Callee.builtin Builtin.append, args := #[s, x], argTypes := #[22, 22] })
    (base : Nat) (v : Value) (zs : List Int) (hs : a.eval s = v) (hown : Own base w v zs) (ao : Option Addr) (m c : Nat) (ys : List Int) (hx : a.eval x = .slice ao m c) (R : Row .u8 w ao m c ys)
    (hb : base ≤ w.heap.size) (hl : zs.length + m ≤ 200000000000000)
    (hK : ∀ v' w', Own base w' v' (zs ++ ys) → Below base w w' → wpList Tryd.prog ops Q rest (a.put o.dst v') w') : wpList Tryd.prog ops Q (o :: rest) a w := by
  obtain ⟨i0, hi, hz0, hz1, hz2⟩ := info_parts info5
  have hlz := R.size
  subst hlz
  cases ao with
  | none =>
    obtain ⟨e1, rfl⟩ := R.nil rfl
    have e : ys = [] := List.eq_nil_of_length_eq_zero e1
    subst e
    exact wpList_append_own_none hg s x 22 hop base 5 i0 1 Tryd.underlying22 hi v zs.length (zs.map bv) hs hown hx (hK v w (by simpa using hown) (Below.refl _ _))
  | some ad =>
    refine wpList_append_own_wide w hg s x 22 hop base 5 i0 (.int .u8 0) 1 1 Tryd.underlying22 hi hz0 hz1 hz2 rfl (by decide) v zs.length (zs.map bv) hs hown ad ys.length c (ys.map bv) hx (by simp) R.cells (ints_oneCell _ _) (by unfold maxLen; omega) (by omega) hb ?_
    intro v' w' ho hgr _
    exact hK v' w' (by simpa [Own] using ho) ((Below.refl _ _).grown hgr hb hown.lt)

set_option maxHeartbeats 2000000 in
theorem open_wide (a : Option Addr) (len cap : Nat) (zs : List Int) (w : World) (R : Row .u8 w a len cap zs) (ht : Tab w) (hl : len ≤ 281474976710656) (hcap : cap ≤ 9223372036854775807) :
    Calls Tryd.prog 16 #[.slice a len cap] w fun e w' => OpenOut w.heap.size w' (opn zs) e ∧ Below w.heap.size w w' := by
  have hle := R.le
  have hsz := R.size
  have KS := standing_any a len cap zs w R hcap
  rw [opn_stand zs R.byte]
  cases hst : stand zs with
  | error c =>
    have hc := neq_err (stand_err hst)
    rw [hst] at KS
    simp only [stdV] at KS
    simp only [OpenOut]
    clear hst
    go_enter Tryd.func16, Tryd.ntmps16
    go_wp2_with (go_at_call 24; refine KS.mono ?_; rintro e w' ⟨rfl, n0, hw⟩; rw [hw]; clear hw)
    go_ret3
    exact ⟨rfl, below_drewN (Below.refl _ _) _⟩
  | ok n =>
    obtain ⟨hn, hnl⟩ := stand_ok hst
    rw [hst] at KS
    simp only [stdV] at KS
    have hn8 : 8 ≤ n := by omega
    have hn65 : n ≤ 65543 := by have := lenAt_le R.byte; omega
    clear hn hst
    obtain ⟨b, off, rfl, hb, _⟩ := R.mem.resolve_left (by omega)
    have hA : (⟨b, off, none⟩ : Addr).add 2 = ⟨b, off + 2, none⟩ := by unfold Addr.add; split <;> simp_all
    have P2 := R.part 2 (n - 4) (by omega) (by omega)
    rw [hA, show n - 4 - 2 = n - 6 by omega] at P2
    replace hnl : n ≤ len := by omega
    have P1 := R.pre n hnl
    have KI := fun w' R' => sumIn_any b off n cap (zs.take n) w' R' (by omega) hcap
    have KU := fun w' R' ht' => sum_any (some ⟨b, off + 2, none⟩) (n - 6) (cap - 2) ((zs.drop 2).take (n - 6)) w' R' ht' (show n - 6 ≤ 9223372036854775807 by omega)
    have KB := fun w' R' => bodyIn_any b off n cap (zs.take n) w' R' (by omega) (by omega) hcap
    have HB : Hid (((zs.take n).drop 4).take (n - 8) = (zs.drop 4).take (n - 8)) := by
      show _ = _
      rw [List.drop_take, List.take_take]
      congr 1
      omega
    simp only
    obtain ⟨S, hS⟩ : ∃ S, num4 ((zs.take n).drop (n - 4)) = S := ⟨_, rfl⟩
    obtain ⟨U, hU⟩ : ∃ U, sumB ((zs.drop 2).take (n - 6)) = U := ⟨_, rfl⟩
    rw [hS] at KI
    rw [hU] at KU
    rw [hS, hU]
    clear hS hU
    have i1 : (0 : Int) ≤ (n : Int) := by omega
    have i2 : (n : Int) ≤ (len : Int) := by omega
    have i3 : (n : Int) ≤ (cap : Int) := by omega
    have i4 : (2 : Int) ≤ (n : Int) - 4 := by omega
    have i5 : (n : Int) - 4 ≤ (cap : Int) := by omega
    have i6 : ((n : Int) - 4 - 2).toNat = n - 6 := by omega
    by_cases hc : S = U
    · rw [if_neg (by simpa using hc)]
      simp only [OpenOut]
      have hc2 : ((S : Int) != (U : Int)) = false := by simp [hc]
      clear hc
      go_enter Tryd.func16, Tryd.ntmps16
      go_wp2_with (go_at_call 24; refine KS.mono ?_; rintro e w1 ⟨rfl, n0, hw⟩; have Q1 : Row .u8 w1 (some ⟨b, off, none⟩) n cap (zs.take n) := (by rw [hw]; exact P1.drewN n0); have Q2 : Row .u8 w1 (some ⟨b, off + 2, none⟩) (n - 6) (cap - 2) ((zs.drop 2).take (n - 6)) := (by rw [hw]; exact P2.drewN n0); have T1 : Tab w1 := (by rw [hw]; exact ht.drewN n0); have B1 : Below w.heap.size w w1 := (by rw [hw]; exact below_drewN (Below.refl _ _) n0); clear hw)
      go_quiet (first
        | (go_at_call 25; exact Calls.quiet_of (KI _ (Q1.drewN _)))
        | (go_at_call 12; exact Calls.quiet_of_same (KU _ (Q2.drewN _) (T1.drewN _))))
      go_wp2_with (go_at_call 26; refine (KB _ (Q1.drewN _)).mono ?_; rintro e w2 ⟨v, rfl, ho, hb1⟩)
      go_ret3
      rw [HB.out] at ho
      exact ⟨⟨_, rfl, ho.at B1.size⟩, (below_drewN B1 _).trans (hb1.mono B1.size)⟩
    · rw [if_pos (by simpa using hc)]
      simp only [OpenOut]
      have hc2 : ((S : Int) != (U : Int)) = true := by simp; omega
      clear hc
      go_enter Tryd.func16, Tryd.ntmps16
      go_wp2_with (go_at_call 24; refine KS.mono ?_; rintro e w1 ⟨rfl, n0, hw⟩; have Q1 : Row .u8 w1 (some ⟨b, off, none⟩) n cap (zs.take n) := (by rw [hw]; exact P1.drewN n0); have Q2 : Row .u8 w1 (some ⟨b, off + 2, none⟩) (n - 6) (cap - 2) ((zs.drop 2).take (n - 6)) := (by rw [hw]; exact P2.drewN n0); have T1 : Tab w1 := (by rw [hw]; exact ht.drewN n0); have B1 : Below w.heap.size w w1 := (by rw [hw]; exact below_drewN (Below.refl _ _) n0); clear hw)
      go_quiet (first
        | (go_at_call 25; exact Calls.quiet_of (KI _ (Q1.drewN _)))
        | (go_at_call 12; exact Calls.quiet_of_same (KU _ (Q2.drewN _) (T1.drewN _))))
      go_wp2
      go_ret3
      exact ⟨rfl, below_drewN B1 _⟩

theorem open_wide_ok (a : Option Addr) (len cap : Nat) (zs : List Int) (w : World) (R : Row .u8 w a len cap zs) (ht : Tab w) (hl : len ≤ 281474976710656) (hcap : cap ≤ 9223372036854775807) (b : List Int) (n : Nat) (h : opn zs = .ok (b, n)) :
    Calls Tryd.prog 16 #[.slice a len cap] w fun e w' => ∃ v, e = .returned (.tuple #[v, .int .i64 n, .int .i64 0]) ∧ Own w.heap.size w' v b ∧ Below w.heap.size w w' :=
  (open_wide a len cap zs w R ht hl hcap).mono fun e w' ⟨h1, h2⟩ => by
    rw [h] at h1
    obtain ⟨v, h3, h4⟩ := h1
    exact ⟨v, h3, h4, h2⟩

set_option maxRecDepth 100000 in
set_option maxHeartbeats 4000000 in
theorem back_short2 (a : Option Addr) (len cap : Nat) (zs : List Int) (a2 : Option Addr) (len2 cap2 : Nat) (ys : List Int) (cut : Int) (w : World) (R : Row .u8 w a len cap zs) (R2 : Row .u8 w a2 len2 cap2 ys) (ht : Tab w)
    (hL : len ≤ 65535) (hl2 : len2 ≤ 140737488355328) (hc0 : -9223372036854775808 ≤ cut) (hc1 : cut ≤ 9223372036854775807) :
    Calls Tryd.prog 6 #[.slice a len cap, .slice a2 len2 cap2, .int .i64 cut] w fun e w' => e = .returned (.bool true) ∧ Below w.heap.size w w' := by
  have hsz := R.size
  have hfb := byt_frm R.byte (by omega)
  have hfl : (frm zs).length = len + 8 := by rw [frm_len, hsz]
  have K1 := seal_ok _ _ _ _ w R ht hL
  go_enter Tryd.func6, Tryd.ntmps6
  go_wp2_with fail
  refine K1.mono ?_
  rintro e w1 ⟨v1, rfl, o1, b1⟩
  obtain ⟨a1, c1, rfl, F1, hc1', hg1⟩ := own_row_len o1 hfb hfl
  obtain ⟨g1, rfl, hgb⟩ := hg1 (by omega)
  have K2 := copied_any _ _ _ _ w1 F1 (by omega)
  clear K1 o1
  go_wp2_with fail
  refine K2.mono ?_
  rintro e w2 ⟨v2, rfl, o2, b2⟩
  have S2 := (R2.below b1).below b2
  clear K2
  have hb2 : w1.heap.size ≤ w2.heap.size := b2.size
  have happ : (frm zs).length + len2 ≤ 200000000000000 := by rw [hfl]; omega
  have hys := R2.byte
  go_wp2_with (at_builtin; refine wpList_append_wide _ rfl _ _ rfl w1.heap.size _ _ rfl o2 _ _ _ _ rfl S2 hb2 happ ?_)
  intro v3 w3 o3 b3
  have b13 : Below w1.heap.size w1 w3 := b2.trans b3
  have bw3 : Below w.heap.size w w3 := b1.trans (b13.mono b1.size)
  obtain ⟨a3, c3, rfl, F3, hc3, _⟩ := own_row_len o3 (byt_app hfb hys) (n := len + 8 + len2) (by rw [List.length_append, hfl, R2.size])
  have ho := opn_frm zs ys (by omega)
  rw [hsz] at ho
  have K3 := open_wide_ok _ _ _ _ w3 F3 (ht.below bw3) (by omega) hc3 _ _ ho
  clear o2 o3 S2
  go_wp2_with fail
  refine K3.mono ?_
  rintro e w4 ⟨v4, rfl, o4, b4⟩
  have bw4 : Below w.heap.size w w4 := bw3.trans (b4.mono bw3.size)
  have F4 := (F1.below b13).below b4
  obtain ⟨a4, c4, rfl, X4, hc4, _⟩ := own_row_len o4 R.byte hsz
  clear K3 F3
  obtain ⟨k, hk, hkl⟩ := rem_u64 cut (len + 8) (by omega) (by omega)
  rw [show ((len + 8 : Nat) : Int) = (len : Int) + 8 by omega] at hk
  have P4 := F4.pre k (by omega)
  have hF4 := F4.le
  have hkc : (k : Int) ≤ (c1 : Int) := by omega
  have K5 := open_no _ _ _ _ w4 P4 (ht.below bw4) (by omega) hc1' _ (opn_cut zs k (by omega) (by rw [hfl]; exact hkl))
  go_wp2_with fail
  refine K5.mono ?_
  rintro e w5 ⟨rfl, b5⟩
  have bw5 : Below w.heap.size w w5 := bw4.trans (b5.mono bw4.size)
  have v1 := conv_row (X4.below b5)
  have v2 := conv_row (R.below bw5)
  have K6 := awake_any w5 (ht.below bw5)
  obtain ⟨s, hs⟩ : ∃ s, strOfNums zs = s := ⟨_, rfl⟩
  rw [hs] at v1 v2
  have hq := beq_refl_bytes s
  clear K5 P4 hs F4 X4 hk
  go_wp2_with (go_at_call 14; refine K6.mono ?_; rintro e w6 ⟨rfl, b6⟩)
  go_ret
  exact ⟨rfl, bw5.trans (b6.mono bw5.size)⟩

theorem back_walk2 (a : Option Addr) (len cap : Nat) (zs : List Int) (a2 : Option Addr) (len2 cap2 : Nat) (ys : List Int) (cut : Int) (w : World) (R : Row .u8 w a len cap zs) (R2 : Row .u8 w a2 len2 cap2 ys) (ht : Tab w)
    (hl : len ≤ 9223372036854775807) (hl2 : len2 ≤ 140737488355328) (hc0 : -9223372036854775808 ≤ cut) (hc1 : cut ≤ 9223372036854775807) :
    Calls Tryd.prog 6 #[.slice a len cap, .slice a2 len2 cap2, .int .i64 cut] w fun e w' => e = .returned (.bool true) ∧ Below w.heap.size w w' := by
  by_cases hL : len ≤ 65535
  · exact back_short2 a len cap zs a2 len2 cap2 ys cut w R R2 ht hL hl2 hc0 hc1
  · exact back_long a len cap zs _ cut w R ht hl (by omega)

end Go.Proofs.YteadkfcbgphgnaaDoor
