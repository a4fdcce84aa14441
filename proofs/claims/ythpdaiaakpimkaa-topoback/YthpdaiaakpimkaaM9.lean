/-
  The document's Turns and Wait; two lists held against each other.
-/
import Derived.Test.YthpdaiaakpimkaaM8
namespace Go.Proofs.Ythpdaiaakpimkaa
open Go.ChangeShapes Go.WideShapes Go.ChangeAt Go.RowKit
set_option linter.unusedVariables false
set_option linter.unusedSimpArgs false

theorem turns_all (a : Option Addr) (len cap : Nat) (zs : List Int) (t : Nat) (n : Int) (w : World) (R : Row w a len cap zs) (ht : t < len ∨ t = 0) : Calls Try.prog 22 #[.slice a len cap, .int .i64 (t : Int), .int .i64 n] w fun e w' => ∃ a' c', e = .returned (.slice a' (tn zs n) c') ∧ Row w' a' (tn zs n) c' (tr zs t (tn zs n)) ∧ Below w.heap.size w w' := by
  have HS : zs.length = len := R.size
  by_cases hn : n < 1
  · have h0 : tn zs n = 0 := by unfold tn; split <;> omega
    refine (turns_few a len cap t n w hn).mono ?_
    rintro e w' ⟨rfl, b⟩
    rw [h0]
    exact ⟨none, 0, rfl, row_none w', b⟩
  · by_cases hl : len = 0
    · have h0 : tn zs n = 0 := by unfold tn; rw [if_pos (by omega)]
      subst hl
      refine (turns_empty a cap t n w hn).mono ?_
      rintro e w' ⟨rfl, b⟩
      rw [h0]
      exact ⟨none, 0, rfl, row_none w', b⟩
    · exact turns_many a len cap zs t n w R (by omega) hn
set_option maxRecDepth 100000 in
set_option maxHeartbeats 4000000 in
theorem rturns_many (a : Option Addr) (len cap : Nat) (zs : List Int) (t : Nat) (n : Int) (w : World) (R : Row w a len cap zs) (hl : len ≤ 10000) (ht : t < len) : Calls Try.prog 23 #[.slice a len cap, .int .i64 (t : Int), .int .i64 n] w fun e w' => ∃ a' c', e = .returned (.slice a' (tn zs n) c') ∧ Row w' a' (tn zs n) c' (tr zs t (tn zs n)) ∧ Below w.heap.size w w' := by
  have HS : Hid (zs.length = len) := R.size
  have HL : Hid (len ≤ 10000 ∧ t < len) := ⟨hl, ht⟩
  obtain ⟨N, hN⟩ : ∃ N, tn zs n = N := ⟨_, rfl⟩
  have HN : Hid (N = (if len = 0 then 0 else (min n 100000).toNat) ∧ N ≤ 100000) := by
    show _ ∧ _
    rw [← hN]
    unfold tn
    rw [HS.out]
    refine ⟨rfl, ?_⟩
    split <;> omega
  rw [hN]
  clear hN hl ht
  go_enter Try.func23, Try.ntmps23
  go_wp2
  go_loopg [7, 8] N (fun gk v7 v8 wr => ∃ (i : Nat) (vv : Value), vv = v7 ∧ v8 = .int .i64 (i : Int) ∧ i + gk = N ∧ wr.ownsRow w.heap.size 3 1 vv i ((tr zs t i).map iv) ∧ Below w.heap.size w wr)
  case atStart => exact ⟨0, _, rfl, by first | rfl | go_num, by omega, World.ownsRow_nil _ _ 3 1, Below.refl _ _⟩
  case round =>
    obtain ⟨i, vv, rfl, rfl, hgk, O, B⟩ := hrel
    have HG : Hid (i + gk = N) := hgk
    by_cases hi : i < N
    · have HI : Hid (i < N) := hi
      have hl0 : 0 < len := by have := HN.out.1; split at this <;> omega
      have htl : t < len := by have := HL.out; omega
      have hn1 : (i : Int) < n := by have := HN.out.1; rw [if_neg (by omega)] at this; omega
      have hn2 : (i : Int) < 100000 := by have := HN.out.2; omega
      have hl0I : (0 : Int) < (len : Int) := by omega
      have hT1 : (tr zs t (i + 1)).map iv = (tr zs t i).map iv ++ [iv (zs.getD ((t + i) % len) 0)] := by rw [tr_succ, List.map_append, HS.out]; rfl
      obtain ⟨b, off, rfl, hb, hc⟩ := (R.below B).mem.resolve_left (by omega)
      obtain ⟨m, hm⟩ : ∃ m, (t + i) % len = m := ⟨_, rfl⟩
      have hml : m < len := by rw [← hm]; exact Nat.mod_lt _ hl0
      have c0 := hc m hml
      rw [hm] at hT1
      obtain ⟨u, hu⟩ : ∃ u, zs.getD m 0 = u := ⟨_, rfl⟩
      rw [hu] at hT1 c0
      obtain ⟨ys, hys⟩ : ∃ ys, (tr zs t i).map iv = ys := ⟨_, rfl⟩
      rw [hys] at O hT1
      have HY : Hid ((tr zs t (i + 1)).map iv = ys ++ [iv u]) := hT1
      have hw1 : IntKind.i64.wrap ((t : Int) + (i : Int)) = (t : Int) + (i : Int) := by rw [IntKind.wrap_i64]; have := HL.out; have := HN.out; omega
      have hrm0 : ((t : Int) + (i : Int)).tmod (len : Int) = (m : Int) := by
        have := tmod_nat (t + i) len
        rw [hm] at this
        rw [← this]
        congr 1
      have hrm : IntKind.i64.wrap (((t : Int) + (i : Int)).tmod (len : Int)) = (m : Int) := by
        rw [hrm0, IntKind.wrap_i64]
        have := HL.out
        omega
      have hwr : IntKind.i64.wrap ((i : Int) + 1) = (i : Int) + 1 := by rw [IntKind.wrap_i64]; have := HN.out; omega
      have hmI : (m : Int) < (len : Int) := by omega
      have hle : ¬ (len : Int) = 0 := by omega
      clear hT1 hys hu hc hm hgk hi
      go_wp2_with ((with_reducible show wpList _ _ _ (Oper.mk _ (Op.call { callee := Callee.builtin Builtin.append, args := _, argTypes := #[22, 22] }) _ _ _ _ :: _) _ _); go_must (refine wpList_append_int rfl _ _ rfl w.heap.size _ _ _ rfl (O.alloc _) ⟨wr.heap.size, 0, none⟩ u rfl (cell_one_new _ _ _) (by have := HN.out; have := HI.out; omega) (by have := B.size; simp; omega) ?_; intro g3 cap3 w3 O3 r3))
      have B3 : Below w.heap.size w w3 := (B.alloc B.size _).grown r3 (by have := B.size; simp; omega) (fun j e => (O.lt j e).1)
      go_roundg (gk - 1)
      case measure => have := HG.out; have := HI.out; omega
      case rel => exact ⟨i + 1, _, rfl, by first | rfl | go_num, by have := HG.out; have := HI.out; omega, by rw [HY.out]; exact O3, B3⟩
    · have hin : i = N := by omega
      have HI : Hid (i = N) := hin
      obtain ⟨av, cv, rfl⟩ := owns_slice O
      have hx : (¬ (i : Int) < n) ∨ ((i : Int) < n ∧ ¬ (i : Int) < 100000) := by
        have hNo := HN.out
        have hLo := HL.out
        rw [if_neg (by omega)] at hNo
        omega
      clear hgk hi hin
      rcases hx with h1 | ⟨h1, h2⟩
      · go_wp2
        go_ret
        rw [← HI.out]
        exact ⟨_, _, rfl, owns_row O, B⟩
      · go_wp2
        go_ret
        rw [← HI.out]
        exact ⟨_, _, rfl, owns_row O, B⟩
set_option maxRecDepth 100000 in
set_option maxHeartbeats 4000000 in
theorem rturns_empty (a : Option Addr) (cap : Nat) (t : Nat) (n : Int) (w : World) : Calls Try.prog 23 #[.slice a 0 cap, .int .i64 (t : Int), .int .i64 n] w fun e w' => e = .returned (.slice none 0 0) ∧ w' = w := by
  go_enter Try.func23, Try.ntmps23
  go_wp2
  go_loopg [7, 8] 0 (fun gk v7 v8 wr => v7 = .slice none 0 0 ∧ v8 = .int .i64 0 ∧ wr = w)
  case atStart => exact ⟨rfl, rfl, rfl⟩
  case round =>
    obtain ⟨rfl, rfl, rfl⟩ := hrel
    by_cases h1 : 0 < n
    · go_wp2
      go_ret
      exact ⟨rfl, rfl⟩
    · go_wp2
      go_ret
      exact ⟨rfl, rfl⟩
theorem rturns_any (a : Option Addr) (len cap : Nat) (zs : List Int) (t : Nat) (n : Int) (w : World) (R : Row w a len cap zs) (hl : len ≤ 10000) (ht : t < len ∨ t = 0) : Calls Try.prog 23 #[.slice a len cap, .int .i64 (t : Int), .int .i64 n] w fun e w' => ∃ a' c', e = .returned (.slice a' (tn zs n) c') ∧ Row w' a' (tn zs n) c' (tr zs t (tn zs n)) ∧ Below w.heap.size w w' := by
  by_cases h0 : len = 0
  · have h1 : tn zs n = 0 := by unfold tn; rw [if_pos (by rw [R.size]; exact h0)]
    subst h0
    refine (rturns_empty a cap t n w).mono ?_
    rintro e w' ⟨rfl, rfl⟩
    rw [h1]
    exact ⟨none, 0, rfl, row_none _, Below.refl _ _⟩
  · exact rturns_many a len cap zs t n w R hl (by omega)
set_option maxRecDepth 100000 in
set_option maxHeartbeats 4000000 in
theorem rwait_any (a : Option Addr) (len cap : Nat) (zs : List Int) (t : Nat) (v : Int) (w : World) (R : Row w a len cap zs) (hl : len ≤ 10000) (ht : t < len ∨ t = 0) : Calls Try.prog 21 #[.slice a len cap, .int .i64 (t : Int), .int .i64 v] w fun e w' => e = .returned (.int .i64 (wt zs t v)) ∧ w' = w := by
  have HS : Hid (zs.length = len) := R.size
  have K1 := place_any a len cap zs v w R
  by_cases h : ix v zs < zs.length
  · obtain ⟨k, hk⟩ : ∃ k, ix v zs = k := ⟨_, rfl⟩
    rw [show px v zs = (k : Int) from by unfold px; rw [if_pos h, hk]] at K1
    obtain ⟨d, hd⟩ : ∃ d, ds (ix v zs) zs.length t = d := ⟨_, rfl⟩
    rw [show wt zs t v = (d : Int) + 1 from by unfold wt; rw [if_pos h, hd]]
    rw [hk, HS.out] at h
    rw [hk, HS.out] at hd
    have htl : t < len := by omega
    have hdl : d < len := by rw [← hd]; exact ds_lt htl
    have hk0 : ¬ (k : Int) < 0 := by omega
    have hw1 : IntKind.i64.wrap ((k : Int) - (t : Int)) = (k : Int) - (t : Int) := by rw [IntKind.wrap_i64]; omega
    have hw2 : IntKind.i64.wrap ((k : Int) - (t : Int) + (len : Int)) = (k : Int) - (t : Int) + (len : Int) := by rw [IntKind.wrap_i64]; omega
    have hrm0 : ((k : Int) - (t : Int) + (len : Int)).tmod (len : Int) = (d : Int) := by
      have := tmod_nat (k + len - t) len
      rw [show ((k + len - t : Nat) : Int) = (k : Int) - (t : Int) + (len : Int) by omega] at this
      rw [this]
      unfold ds at hd
      rw [hd]
    have hrm : IntKind.i64.wrap (((k : Int) - (t : Int) + (len : Int)).tmod (len : Int)) = (d : Int) := by rw [hrm0, IntKind.wrap_i64]; omega
    have hw3 : IntKind.i64.wrap ((d : Int) + 1) = (d : Int) + 1 := by rw [IntKind.wrap_i64]; omega
    have hle : ¬ (len : Int) = 0 := by omega
    have hle2 : ((len : Int) == 0) = false := by simp; omega
    clear R h hk hd hdl htl ht hl
    go_enter Try.func21, Try.ntmps21
    go_wp2_with (go_at_call 28; refine K1.mono ?_; clear K1; rintro e w1 ⟨rfl, hw⟩; rw [hw]; clear hw w1)
    go_ret
    exact ⟨rfl, rfl⟩
  · rw [show px v zs = -1 from by unfold px; rw [if_neg h]] at K1
    rw [show wt zs t v = 0 from by unfold wt; rw [if_neg h]]
    clear R h ht hl
    go_enter Try.func21, Try.ntmps21
    go_wp2_with (go_at_call 28; refine K1.mono ?_; clear K1; rintro e w1 ⟨rfl, hw⟩; rw [hw]; clear hw w1)
    go_ret
    exact ⟨rfl, rfl⟩
set_option maxRecDepth 100000 in
set_option maxHeartbeats 4000000 in
theorem same_any (a : Option Addr) (len cap : Nat) (a' : Option Addr) (cap' : Nat) (zs : List Int) (w : World) (R : Row w a len cap zs) (R' : Row w a' len cap' zs) : Calls Try.prog 13 #[.slice a len cap, .slice a' len cap'] w fun e w' => e = .returned (.bool true) ∧ Below w.heap.size w w' := by
  have HM : Hid (len ≤ 9223372036854775807) := R.small
  go_enter Try.func13, Try.ntmps13
  go_wp2
  go_loopg [13] len (fun gk v13 wr => ∃ k : Nat, v13 = .int .i64 (k : Int) ∧ k + gk = len ∧ Below w.heap.size w wr)
  case atStart => exact ⟨0, by first | rfl | go_num, by omega, Below.refl _ _⟩
  case round =>
    obtain ⟨k, rfl, hgk, B⟩ := hrel
    have HG : Hid (k + gk = len) := hgk
    by_cases hk : k < len
    · obtain ⟨b, off, rfl, hb, hc⟩ := (R.below B).mem.resolve_left (by omega)
      obtain ⟨b', off', rfl, hb', hc'⟩ := (R'.below B).mem.resolve_left (by omega)
      have c0 := hc k hk
      have c1 := hc' k hk
      have hkI : (k : Int) < (len : Int) := by omega
      have HK : Hid (k < len) := hk
      obtain ⟨x, hx⟩ : ∃ x, zs.getD k 0 = x := ⟨_, rfl⟩
      rw [hx] at c0 c1
      have hwr : IntKind.i64.wrap ((k : Int) + 1) = (k : Int) + 1 := by rw [IntKind.wrap_i64]; have := HM.out; omega
      clear hx hc hc' hgk hk hb hb'
      go_wp2
      refine wp_region_any (by kernel_rfl) ?_
      change wpAny _ _ _ _ _ _ _ (World.drew _)
      refine wpAny_narrow (fun W' => W'.cell? ⟨b, off + k, none⟩ = some (.int .i64 x) ∧ W'.cell? ⟨b', off' + k, none⟩ = some (.int .i64 x)) _ _ _ _ ?_
      refine anyH_take 0 16 (.slice (some ⟨b, off, none⟩) len cap) rfl rfl (by kernel_rfl) (by kernel_rfl) (by kernel_rfl) (fun _ _ _ h => h) (Or.inl ⟨by rfl, by intro w hSw; go_simp⟩) (⟨c0, c1⟩) ?_
      try simp only [Act.put, List.setIfInBounds_toArray, List.set_cons_zero, List.set_cons_succ]
      refine anyH_take 1 17 (.int .i64 (k : Int)) rfl rfl (by kernel_rfl) (by kernel_rfl) (by kernel_rfl) (fun _ _ _ h => h) (Or.inl ⟨by rfl, by intro w hSw; go_simp⟩) (⟨c0, c1⟩) ?_
      try simp only [Act.put, List.setIfInBounds_toArray, List.set_cons_zero, List.set_cons_succ]
      refine anyH_take 2 18 (.pointer (some ⟨b, off + k, none⟩)) rfl rfl (by kernel_rfl) (by kernel_rfl) (by kernel_rfl) (fun _ _ _ h => h) (Or.inl ⟨by rfl, by intro w hSw; go_simp⟩) (⟨c0, c1⟩) ?_
      try simp only [Act.put, List.setIfInBounds_toArray, List.set_cons_zero, List.set_cons_succ]
      refine anyH_take 3 19 (.int .i64 x) rfl rfl (by kernel_rfl) (by kernel_rfl) (by kernel_rfl) (fun _ _ _ h => h) (Or.inl ⟨by rfl, by intro w hSw; have s1 := hSw.1; go_simp⟩) (⟨c0, c1⟩) ?_
      try simp only [Act.put, List.setIfInBounds_toArray, List.set_cons_zero, List.set_cons_succ]
      refine anyH_take 4 20 (.slice (some ⟨b', off', none⟩) len cap') rfl rfl (by kernel_rfl) (by kernel_rfl) (by kernel_rfl) (fun _ _ _ h => h) (Or.inl ⟨by rfl, by intro w hSw; go_simp⟩) (⟨c0, c1⟩) ?_
      try simp only [Act.put, List.setIfInBounds_toArray, List.set_cons_zero, List.set_cons_succ]
      refine anyH_take 5 21 (.int .i64 (k : Int)) rfl rfl (by kernel_rfl) (by kernel_rfl) (by kernel_rfl) (fun _ _ _ h => h) (Or.inl ⟨by rfl, by intro w hSw; go_simp⟩) (⟨c0, c1⟩) ?_
      try simp only [Act.put, List.setIfInBounds_toArray, List.set_cons_zero, List.set_cons_succ]
      refine anyH_take 6 22 (.pointer (some ⟨b', off' + k, none⟩)) rfl rfl (by kernel_rfl) (by kernel_rfl) (by kernel_rfl) (fun _ _ _ h => h) (Or.inl ⟨by rfl, by intro w hSw; go_simp⟩) (⟨c0, c1⟩) ?_
      try simp only [Act.put, List.setIfInBounds_toArray, List.set_cons_zero, List.set_cons_succ]
      refine anyH_take 7 23 (.int .i64 x) rfl rfl (by kernel_rfl) (by kernel_rfl) (by kernel_rfl) (fun _ _ _ h => h) (Or.inl ⟨by rfl, by intro w hSw; have s1 := hSw.2; go_simp⟩) (⟨c0, c1⟩) ?_
      try simp only [Act.put, List.setIfInBounds_toArray, List.set_cons_zero, List.set_cons_succ]
      refine anyH_take 8 24 (.bool false) rfl rfl (by kernel_rfl) (by kernel_rfl) (by kernel_rfl) (fun _ _ _ h => h) (Or.inl ⟨by rfl, by intro w hSw; go_simp⟩) (⟨c0, c1⟩) ?_
      try simp only [Act.put, List.setIfInBounds_toArray, List.set_cons_zero, List.set_cons_succ]
      refine wpAnyH_done (by kernel_rfl) ?_ _
      go_wp2
      go_roundg (gk - 1)
      case measure => have := HG.out; have := HK.out; omega
      case rel => exact ⟨k + 1, by first | rfl | go_num, by have := HG.out; have := HK.out; omega, B.drew⟩
    · have hkI : ¬ (k : Int) < (len : Int) := by omega
      clear hgk hk
      go_wp2
      go_ret
      exact ⟨rfl, B⟩
end Go.Proofs.Ythpdaiaakpimkaa
