/-
  The law BootNever, walked.
-/
import Derived.Test.YtaacggbfoejjhaaDoorB19
import Derived.Test.YtaacggbfoejjhaaDoorBIn
namespace Go.Proofs.YtaacggbfoejjhaaDoor
open Go.ChangeShapes Go.WideShapes Go.ChangeAt Go.RowKit
open D
set_option linter.unusedVariables false
set_option linter.unusedSimpArgs false

/-- What holds ahead of each call: what was told is not more than what stands; what is known is that, or one less. -/
structure Nev (S : DS) (la kn : Nat) : Prop where
  ok : S.Ok
  n4 : 4 ≤ S.n
  la : la ≤ mS S
  k0 : kn ≤ mS S
  k1 : mS S ≤ kn + 1
theorem says_lastU {w : World} (hw : Tb w) {S : DS} (h : Up S) : Says w 10 S S (.tuple #[.int .i64 ((mS S : Nat) : Int), .int .i64 0]) := by
  have := says_last hw S
  rw [h.mx, h.ldC] at this
  exact this
theorem says_lastD {w : World} (hw : Tb w) {S : DS} (h : S.gone = true) : Says w 10 S S (.tuple #[.int .i64 0, .int .i64 32]) := by
  have := says_last hw S
  have hC : ldC S = 32 := by unfold ldC; rw [h, if_pos rfl]
  rw [ldV_no (by rw [hC]; decide), mx_zr, hC] at this
  exact this
theorem nx_down {S : DS} (h : S.gone = true) : nxN S = 0 ∧ nxC S = 32 ∧ nxS S = S := by
  have hC : ldC S = 32 := by unfold ldC; rw [h, if_pos rfl]
  have e1 : nxC S = 32 := by unfold nxC; rw [if_neg (by rw [hC]; decide), hC]
  exact ⟨by unfold nxN; rw [e1]; rfl, e1, by unfold nxS; rw [if_neg (by rw [hC]; decide)]⟩
/-- A Next of a disk with power: five ways. -/
def NxtW (S : DS) : Prop :=
  (mS S = 1099511627776 ∧ nxN S = 0 ∧ nxC S = 33 ∧ nxS S = S) ∨
  (nxN S = 0 ∧ nxC S = 32 ∧ (nxS S).gone = true ∧ (nxS S).Ok ∧ (nxS S).n = S.n ∧ mS S ≤ mS (nxS S) ∧ mS (nxS S) ≤ mS S + 1) ∨
  (nxN S = (mS S : Int) + 1 ∧ nxC S = 0 ∧ Up (nxS S) ∧ mS (nxS S) = mS S + 1)
theorem nxt_way {S : DS} (h : Up S) : NxtW S := by
  have N := next_did h
  have ok := nxS_ok h
  have hml := mS_le S
  by_cases hm : mS S = 1099511627776
  · obtain ⟨n1, n2, n3⟩ := N.last hm
    exact Or.inl ⟨hm, n1, n2, n3⟩
  · have ho := mS_other S
    have hi := lS_lt S
    by_cases h0 : S.left = 0
    · obtain ⟨n1, n2, n3, n4, n5, n6, n7⟩ := N.none hm h0
      have e : mS (nxS S) = mS S := by unfold mS; rw [st_bs n4, st_bs n4]
      exact Or.inr (Or.inl ⟨n1, n2, n3, ok.1, n5, by omega, by omega⟩)
    · by_cases h1 : S.left = 1
      · obtain ⟨n1, n2, n3, n4, n5, n6, n7, n8⟩ := N.half hm h1
        have e := mS_of (S := nxS S) hi
        rw [n4, ho] at e
        exact Or.inr (Or.inl ⟨n1, n2, n3, ok.1, n6, by omega, by omega⟩)
      · obtain ⟨n1, n2, n3, n4, n5, n6, n7, n8⟩ := N.both hm h0 h1
        have e := mS_of (S := nxS S) hi
        rw [n4, ho, n5] at e
        exact Or.inr (Or.inr ⟨by rw [n1]; push_cast; rfl, n2, n3, by omega⟩)
theorem mS_cut' (S : DS) (x : Int) : mS (S.cut x) = mS S := rfl
theorem mS_on (S : DS) : mS S.on = mS S := rfl
theorem RowA.at {w : World} {a : Option Addr} {len cap : Nat} {l : List ActS} (R : RowA w a len cap l) {i : Nat} (hi : i < len) : ∃ b off, a = some ⟨b, off, none⟩ ∧ b < w.heap.size ∧ w.rangeAt b (off + i * 4) (l.getD i actsZ).cells := by
  rcases R.mem with h | ⟨b, off, e, hb, h⟩
  · omega
  · exact ⟨b, off, e, hb, h i hi⟩
theorem range_cell {w : World} {b o : Nat} {cs : List Value} (h : w.rangeAt b o cs) (j : Nat) (v : Value) (hv : cs[j]? = some v) : w.cell? ⟨b, o + j, none⟩ = some v := h j v hv
theorem range_below {w W : World} {n b o : Nat} {cs : List Value} (h : w.rangeAt b o cs) (hb : b < n) (k : Below n w W) : W.rangeAt b o cs := fun j v hv => (World.cell?_of_block (a := ⟨b, o + j, none⟩) (k.block b hb)).trans (h j v hv)
set_option maxHeartbeats 4000000 in
theorem never_ld_down (a : Option Addr) (len cap : Nat) (a2 : Option Addr) (len2 cap2 : Nat) (acts : List ActS) (S0 : DS) (w : World) (ht : Tb w) (RA : RowA w a2 len2 cap2 acts) (hl2 : len2 ≤ 9223372036854775807) (K17 : Calls Tryd.prog 17 #[.slice a len cap] w (Made w S0)) (C : Int) (hC : (C != 0) = true) (KS : Says w 10 S0 S0 (.tuple #[.int .i64 0, .int .i64 C])) : Calls Tryd.prog 5 #[.slice a len cap, .slice a2 len2 cap2] w fun e w' => e = .returned (.bool true) ∧ Below w.heap.size w w' := by
  unfold Made at *
  go_enter Tryd.func5, Tryd.ntmps5
  go_wp2_with (first
    | (go_at_call 17; refine K17.mono ?_; rintro e w1 ⟨d, rfl, hd, l, hl, D1, b1⟩; have t1 := ht.below b1)
    | (go_at_call 10; refine (KS d l _ hd hl t1 D1).mono ?_; rintro e w2 ⟨rfl, D2, o2, t2⟩; have b2 := below_far b1 o2 hd hl; clear D1 o2)
    | (go_at_call 11; refine (awake_any w2 t2).mono ?_; rintro e wz ⟨rfl, bz⟩))
  go_ret
  exact ⟨rfl, b2.trans (bz.mono b2.size)⟩
set_option maxRecDepth 100000 in
set_option maxHeartbeats 16000000 in
theorem never_ld (a : Option Addr) (len cap : Nat) (a2 : Option Addr) (len2 cap2 : Nat) (acts : List ActS) (S0 : DS) (w : World) (ht : Tb w) (RA : RowA w a2 len2 cap2 acts) (hl2 : len2 ≤ 9223372036854775807) (K17 : Calls Tryd.prog 17 #[.slice a len cap] w (Made w S0)) (U : Up S0) : Calls Tryd.prog 5 #[.slice a len cap, .slice a2 len2 cap2] w fun e w' => e = .returned (.bool true) ∧ Below w.heap.size w w' := by
  unfold Made at *
  have KS := says_lastU ht U
  have N0 : Nev S0 (mS S0) (mS S0) := ⟨U.ok, U.n4, Nat.le_refl _, Nat.le_refl _, by omega⟩
  obtain ⟨m0, hm0⟩ : ∃ m0, mS S0 = m0 := ⟨_, rfl⟩
  rw [hm0] at KS N0
  clear hm0
  go_enter Tryd.func5, Tryd.ntmps5
  go_wp2_with (first
    | (go_at_call 17; refine K17.mono ?_; rintro e w1 ⟨d, rfl, hd, l, hl, D1, b1⟩; have t1 := ht.below b1)
    | (go_at_call 10; refine (KS d l _ hd hl t1 D1).mono ?_; rintro e w2 ⟨rfl, D2, o2, t2⟩; have b2 := below_far b1 o2 hd hl; clear D1 o2))
  go_loopg [6, 8, 9] len2 (fun g v6 v8 v9 wr => ∃ (i la kn : Nat) (S : DS), v6 = .int .i64 (la : Int) ∧ v8 = .int .i64 (kn : Int) ∧ v9 = .int .i64 (i : Int) ∧ i + g = len2 ∧ Nev S la kn ∧ DkP wr d l S ∧ Tb wr ∧ Below w.heap.size w wr)
  case atStart => exact ⟨0, m0, m0, S0, rfl, rfl, rfl, by omega, N0, D2, t2, b2⟩
  case round =>
    obtain ⟨i, la, kn, S, rfl, rfl, rfl, hg, NS, D3, t3, b3⟩ := hrel
    clear D2 t2 b2 N0 KS
    by_cases hc : i < len2
    · have hcI : (i : Int) < (len2 : Int) := by omega
      obtain ⟨ab, aoff, rfl, hab, hra⟩ := RA.at hc
      have hrw := range_below hra hab b3
      obtain ⟨q, hq⟩ : ∃ q, acts.getD i actsZ = q := ⟨_, rfl⟩
      have hqm : -9223372036854775808 ≤ q.nn ∧ q.nn ≤ 9223372036854775807 := by
        rw [← hq]
        rw [List.getD_eq_getElem?_getD, List.getElem?_eq_getElem (by rw [RA.size]; exact hc)]
        exact (RA.ok _ (List.getElem_mem _)).nn
      rw [hq] at hrw
      obtain ⟨kd, nn, sc, qa, qn, qc, qz⟩ := q
      have c0 : wr.cell? ⟨ab, aoff + i * 4, none⟩ = some (.int .i64 kd) := range_cell hrw 0 _ rfl
      have c1 : wr.cell? ⟨ab, aoff + i * 4 + 1, none⟩ = some (.int .i64 nn) := range_cell hrw 1 _ rfl
      clear hq hra hrw
      simp only at hqm
      obtain ⟨hok, hn4, hla, hk0, hk1⟩ := id NS
      by_cases h1 : kd = 1
      · subst h1
        cases hgn : S.gone with
        | true =>
          obtain ⟨n1, n2, n3⟩ := nx_down hgn
          have KL := says_lastD ht hgn
          have KN := says_next ht S
          rw [n1, n2, n3] at KN
          clear n1 n2 n3 hgn hok hn4 hla hk0 hk1 c1 hqm
          go_wp2_with (first
            | (go_at_call 10; refine (KL d l _ hd hl t3 D3).mono ?_; rintro e w4 ⟨rfl, D4, o4, t4⟩; have b4 := below_far b3 o4 hd hl; clear D3 o4)
            | (go_at_call 9; refine (KN d l _ hd hl t4 D4).mono ?_; rintro e w5 ⟨rfl, D5, o5, t5⟩; have b5 := below_far b4 o5 hd hl; clear D4 o5)
            | (go_at_call 10; refine (KL d l _ hd hl t5 D5).mono ?_; rintro e w6 ⟨rfl, D6, o6, t6⟩; have b6 := below_far b5 o6 hd hl; clear D5 o6))
          go_roundg (gk - 1)
          case measure => omega
          case rel => exact ⟨i + 1, la, kn, S, rfl, rfl, by first | rfl | go_num, by omega, NS, D6, t6, b6⟩
        | false =>
          have US : Up S := ⟨hok, hgn, hn4⟩
          have KL := says_lastU ht US
          have KN := says_next ht S
          have hml := mS_le S
          rcases nxt_way US with ⟨hm, n1, n2, n3⟩ | ⟨n1, n2, n3, n4, n5, n6, n7⟩ | ⟨n1, n2, n3, n4⟩
          · rw [n1, n2, n3] at KN
            have NR : Nev S la (mS S) := ⟨hok, hn4, hla, Nat.le_refl _, by omega⟩
            rw [hm] at KL NR
            clear n1 n2 n3 hgn hok hn4 hla hk0 hk1 c1 hqm NS hml hm
            go_wp2_with (first
              | (go_at_call 10; refine (KL d l _ hd hl t3 D3).mono ?_; rintro e w4 ⟨rfl, D4, o4, t4⟩; have b4 := below_far b3 o4 hd hl; clear D3 o4)
              | (go_at_call 9; refine (KN d l _ hd hl t4 D4).mono ?_; rintro e w5 ⟨rfl, D5, o5, t5⟩; have b5 := below_far b4 o5 hd hl; clear D4 o5)
              | (go_at_call 10; refine (KL d l _ hd hl t5 D5).mono ?_; rintro e w6 ⟨rfl, D6, o6, t6⟩; have b6 := below_far b5 o6 hd hl; clear D5 o6))
            go_roundg (gk - 1)
            case measure => omega
            case rel => exact ⟨i + 1, la, 1099511627776, S, rfl, by first | rfl | go_num, by first | rfl | go_num, by omega, NR, D6, t6, b6⟩
          · rw [n1, n2] at KN
            have KL2 := says_lastD ht n3
            have NR : Nev (nxS S) la (mS S) := ⟨n4, by rw [n5]; exact hn4, by omega, n6, n7⟩
            obtain ⟨m, hm⟩ : ∃ m, mS S = m := ⟨_, rfl⟩
            rw [hm] at KL NR hml
            obtain ⟨S', hS'⟩ : ∃ S', nxS S = S' := ⟨_, rfl⟩
            rw [hS'] at KN KL2 NR
            clear n1 n2 n3 n4 n5 n6 n7 hgn hok hn4 hla hk0 hk1 c1 hqm NS hm hS' US
            go_wp2_with (first
              | (go_at_call 10; refine (KL d l _ hd hl t3 D3).mono ?_; rintro e w4 ⟨rfl, D4, o4, t4⟩; have b4 := below_far b3 o4 hd hl; clear D3 o4)
              | (go_at_call 9; refine (KN d l _ hd hl t4 D4).mono ?_; rintro e w5 ⟨rfl, D5, o5, t5⟩; have b5 := below_far b4 o5 hd hl; clear D4 o5)
              | (go_at_call 10; refine (KL2 d l _ hd hl t5 D5).mono ?_; rintro e w6 ⟨rfl, D6, o6, t6⟩; have b6 := below_far b5 o6 hd hl; clear D5 o6))
            go_roundg (gk - 1)
            case measure => omega
            case rel => exact ⟨i + 1, la, m, S', rfl, rfl, by first | rfl | go_num, by omega, NR, D6, t6, b6⟩
          · rw [n1, n2] at KN
            have KL2 := says_lastU ht n3
            rw [n4] at KL2
            have NR : Nev (nxS S) (mS S + 1) (mS S + 1) := ⟨n3.ok, n3.n4, by omega, by omega, by omega⟩
            obtain ⟨m, hm⟩ : ∃ m, mS S = m := ⟨_, rfl⟩
            rw [hm] at KL NR hml KN KL2 hla
            have e1 : ((m + 1 : Nat) : Int) = (m : Int) + 1 := by push_cast; rfl
            rw [e1] at KL2
            obtain ⟨S', hS'⟩ : ∃ S', nxS S = S' := ⟨_, rfl⟩
            rw [hS'] at KN KL2 NR
            have hlI : ¬ ((m : Int) + 1 ≤ (la : Int)) := by omega
            clear n1 n2 n3 n4 hgn hok hn4 hla hk0 hk1 c1 hqm NS hm hS' US e1
            go_wp2_with (first
              | (go_at_call 10; refine (KL d l _ hd hl t3 D3).mono ?_; rintro e w4 ⟨rfl, D4, o4, t4⟩; have b4 := below_far b3 o4 hd hl; clear D3 o4)
              | (go_at_call 9; refine (KN d l _ hd hl t4 D4).mono ?_; rintro e w5 ⟨rfl, D5, o5, t5⟩; have b5 := below_far b4 o5 hd hl; clear D4 o5)
              | (go_at_call 10; refine (KL2 d l _ hd hl t5 D5).mono ?_; rintro e w6 ⟨rfl, D6, o6, t6⟩; have b6 := below_far b5 o6 hd hl; clear D5 o6))
            go_roundg (gk - 1)
            case measure => omega
            case rel => exact ⟨i + 1, m + 1, m + 1, S', by first | rfl | go_num, by first | rfl | go_num, by first | rfl | go_num, by omega, NR, D6, t6, b6⟩
      · by_cases h2 : kd = 2
        · subst h2
          have KC := says_cut ht S nn hqm.2
          have NR : Nev (S.cut nn) la kn := ⟨hok.cut hqm.2, hn4, hla, hk0, hk1⟩
          obtain ⟨S', hS'⟩ : ∃ S', S.cut nn = S' := ⟨_, rfl⟩
          rw [hS'] at KC NR
          clear hok hn4 hla hk0 hk1 hqm NS hS' h1
          go_wp2_with ((go_at_call 19; refine (KC d l _ hd hl t3 D3).mono ?_; rintro e w4 ⟨rfl, D4, o4, t4⟩; have b4 := below_far b3 o4 hd hl; clear D3 o4))
          go_roundg (gk - 1)
          case measure => omega
          case rel => exact ⟨i + 1, la, kn, S', rfl, rfl, by first | rfl | go_num, by omega, NR, D4, t4, b4⟩
        · have h1' : (kd == 1) = false := by simp [h1]
          have h2' : (kd == 2) = false := by simp [h2]
          have UO := on_up hok hn4
          have KO := says_on ht S
          have KL := says_lastU ht UO
          rw [mS_on] at KL
          have NR : Nev S.on la (mS S) := ⟨UO.ok, hn4, hla, Nat.le_refl _, by show mS S ≤ _; omega⟩
          obtain ⟨m, hm⟩ : ∃ m, mS S = m := ⟨_, rfl⟩
          rw [hm] at KL NR hk0 hk1
          obtain ⟨S', hS'⟩ : ∃ S', S.on = S' := ⟨_, rfl⟩
          rw [hS'] at KO KL NR
          have j0 : ¬ (m : Int) < (kn : Int) := by omega
          have j1 : ¬ (kn : Int) + 1 < (m : Int) := by omega
          have hkb : kn ≤ 1099511627776 := by have := mS_le S; omega
          clear hok hn4 hla hk0 hk1 c1 hqm NS hS' hm UO h1 h2
          go_wp2_with (first
            | (go_at_call 20; refine (KO d l _ hd hl t3 D3).mono ?_; rintro e w4 ⟨rfl, D4, o4, t4⟩; have b4 := below_far b3 o4 hd hl; clear D3 o4)
            | (go_at_call 10; refine (KL d l _ hd hl t4 D4).mono ?_; rintro e w5 ⟨rfl, D5, o5, t5⟩; have b5 := below_far b4 o5 hd hl; clear D4 o5))
          go_roundg (gk - 1)
          case measure => omega
          case rel => exact ⟨i + 1, la, m, S', rfl, rfl, by first | rfl | go_num, by omega, NR, D5, t5, b5⟩
    · have hcI : ¬ (i : Int) < (len2 : Int) := by omega
      have e : i = len2 := by omega
      subst e
      go_wp2_with (go_at_call 11; refine (awake_any wr t3).mono ?_; rintro e wz ⟨rfl, bz⟩)
      go_ret
      exact ⟨rfl, b3.trans (bz.mono b3.size)⟩
set_option maxHeartbeats 4000000 in
theorem never_nw_down (a : Option Addr) (len cap : Nat) (a2 : Option Addr) (len2 cap2 : Nat) (acts : List ActS) (S0 : DS) (w : World) (ht : Tb w) (RA : RowA w a2 len2 cap2 acts) (hl2 : len2 ≤ 9223372036854775807) (K17 : Calls Tryd.prog 17 #[.slice a len cap] w fun e w' => e = .returned (.pointer none) ∧ w' = w) (K18 : Calls Tryd.prog 18 #[.int .i64 4] w (Made w S0)) (C : Int) (hC : (C != 0) = true) (KS : Says w 10 S0 S0 (.tuple #[.int .i64 0, .int .i64 C])) : Calls Tryd.prog 5 #[.slice a len cap, .slice a2 len2 cap2] w fun e w' => e = .returned (.bool true) ∧ Below w.heap.size w w' := by
  unfold Made at *
  go_enter Tryd.func5, Tryd.ntmps5
  go_wp2_with (first
    | (go_at_call 17; refine K17.mono ?_; rintro e w0 ⟨rfl, hw⟩; rw [hw]; clear hw)
    | (go_at_call 18; refine K18.mono ?_; rintro e w1 ⟨d, rfl, hd, l, hl, D1, b1⟩; have t1 := ht.below b1)
    | (go_at_call 10; refine (KS d l _ hd hl t1 D1).mono ?_; rintro e w2 ⟨rfl, D2, o2, t2⟩; have b2 := below_far b1 o2 hd hl; clear D1 o2)
    | (go_at_call 11; refine (awake_any w2 t2).mono ?_; rintro e wz ⟨rfl, bz⟩))
  go_ret
  exact ⟨rfl, b2.trans (bz.mono b2.size)⟩
set_option maxRecDepth 100000 in
set_option maxHeartbeats 16000000 in
theorem never_nw (a : Option Addr) (len cap : Nat) (a2 : Option Addr) (len2 cap2 : Nat) (acts : List ActS) (S0 : DS) (w : World) (ht : Tb w) (RA : RowA w a2 len2 cap2 acts) (hl2 : len2 ≤ 9223372036854775807) (K17 : Calls Tryd.prog 17 #[.slice a len cap] w fun e w' => e = .returned (.pointer none) ∧ w' = w) (K18 : Calls Tryd.prog 18 #[.int .i64 4] w (Made w S0)) (U : Up S0) : Calls Tryd.prog 5 #[.slice a len cap, .slice a2 len2 cap2] w fun e w' => e = .returned (.bool true) ∧ Below w.heap.size w w' := by
  unfold Made at *
  have KS := says_lastU ht U
  have N0 : Nev S0 (mS S0) (mS S0) := ⟨U.ok, U.n4, Nat.le_refl _, Nat.le_refl _, by omega⟩
  obtain ⟨m0, hm0⟩ : ∃ m0, mS S0 = m0 := ⟨_, rfl⟩
  rw [hm0] at KS N0
  clear hm0
  go_enter Tryd.func5, Tryd.ntmps5
  go_wp2_with (first
    | (go_at_call 17; refine K17.mono ?_; rintro e w0 ⟨rfl, hw⟩; rw [hw]; clear hw)
    | (go_at_call 18; refine K18.mono ?_; rintro e w1 ⟨d, rfl, hd, l, hl, D1, b1⟩; have t1 := ht.below b1)
    | (go_at_call 10; refine (KS d l _ hd hl t1 D1).mono ?_; rintro e w2 ⟨rfl, D2, o2, t2⟩; have b2 := below_far b1 o2 hd hl; clear D1 o2))
  go_loopg [6, 8, 9] len2 (fun g v6 v8 v9 wr => ∃ (i la kn : Nat) (S : DS), v6 = .int .i64 (la : Int) ∧ v8 = .int .i64 (kn : Int) ∧ v9 = .int .i64 (i : Int) ∧ i + g = len2 ∧ Nev S la kn ∧ DkP wr d l S ∧ Tb wr ∧ Below w.heap.size w wr)
  case atStart => exact ⟨0, m0, m0, S0, rfl, rfl, rfl, by omega, N0, D2, t2, b2⟩
  case round =>
    obtain ⟨i, la, kn, S, rfl, rfl, rfl, hg, NS, D3, t3, b3⟩ := hrel
    clear D2 t2 b2 N0 KS
    by_cases hc : i < len2
    · have hcI : (i : Int) < (len2 : Int) := by omega
      obtain ⟨ab, aoff, rfl, hab, hra⟩ := RA.at hc
      have hrw := range_below hra hab b3
      obtain ⟨q, hq⟩ : ∃ q, acts.getD i actsZ = q := ⟨_, rfl⟩
      have hqm : -9223372036854775808 ≤ q.nn ∧ q.nn ≤ 9223372036854775807 := by
        rw [← hq]
        rw [List.getD_eq_getElem?_getD, List.getElem?_eq_getElem (by rw [RA.size]; exact hc)]
        exact (RA.ok _ (List.getElem_mem _)).nn
      rw [hq] at hrw
      obtain ⟨kd, nn, sc, qa, qn, qc, qz⟩ := q
      have c0 : wr.cell? ⟨ab, aoff + i * 4, none⟩ = some (.int .i64 kd) := range_cell hrw 0 _ rfl
      have c1 : wr.cell? ⟨ab, aoff + i * 4 + 1, none⟩ = some (.int .i64 nn) := range_cell hrw 1 _ rfl
      clear hq hra hrw
      simp only at hqm
      obtain ⟨hok, hn4, hla, hk0, hk1⟩ := id NS
      by_cases h1 : kd = 1
      · subst h1
        cases hgn : S.gone with
        | true =>
          obtain ⟨n1, n2, n3⟩ := nx_down hgn
          have KL := says_lastD ht hgn
          have KN := says_next ht S
          rw [n1, n2, n3] at KN
          clear n1 n2 n3 hgn hok hn4 hla hk0 hk1 c1 hqm
          go_wp2_with (first
            | (go_at_call 10; refine (KL d l _ hd hl t3 D3).mono ?_; rintro e w4 ⟨rfl, D4, o4, t4⟩; have b4 := below_far b3 o4 hd hl; clear D3 o4)
            | (go_at_call 9; refine (KN d l _ hd hl t4 D4).mono ?_; rintro e w5 ⟨rfl, D5, o5, t5⟩; have b5 := below_far b4 o5 hd hl; clear D4 o5)
            | (go_at_call 10; refine (KL d l _ hd hl t5 D5).mono ?_; rintro e w6 ⟨rfl, D6, o6, t6⟩; have b6 := below_far b5 o6 hd hl; clear D5 o6))
          go_roundg (gk - 1)
          case measure => omega
          case rel => exact ⟨i + 1, la, kn, S, rfl, rfl, by first | rfl | go_num, by omega, NS, D6, t6, b6⟩
        | false =>
          have US : Up S := ⟨hok, hgn, hn4⟩
          have KL := says_lastU ht US
          have KN := says_next ht S
          have hml := mS_le S
          rcases nxt_way US with ⟨hm, n1, n2, n3⟩ | ⟨n1, n2, n3, n4, n5, n6, n7⟩ | ⟨n1, n2, n3, n4⟩
          · rw [n1, n2, n3] at KN
            have NR : Nev S la (mS S) := ⟨hok, hn4, hla, Nat.le_refl _, by omega⟩
            rw [hm] at KL NR
            clear n1 n2 n3 hgn hok hn4 hla hk0 hk1 c1 hqm NS hml hm
            go_wp2_with (first
              | (go_at_call 10; refine (KL d l _ hd hl t3 D3).mono ?_; rintro e w4 ⟨rfl, D4, o4, t4⟩; have b4 := below_far b3 o4 hd hl; clear D3 o4)
              | (go_at_call 9; refine (KN d l _ hd hl t4 D4).mono ?_; rintro e w5 ⟨rfl, D5, o5, t5⟩; have b5 := below_far b4 o5 hd hl; clear D4 o5)
              | (go_at_call 10; refine (KL d l _ hd hl t5 D5).mono ?_; rintro e w6 ⟨rfl, D6, o6, t6⟩; have b6 := below_far b5 o6 hd hl; clear D5 o6))
            go_roundg (gk - 1)
            case measure => omega
            case rel => exact ⟨i + 1, la, 1099511627776, S, rfl, by first | rfl | go_num, by first | rfl | go_num, by omega, NR, D6, t6, b6⟩
          · rw [n1, n2] at KN
            have KL2 := says_lastD ht n3
            have NR : Nev (nxS S) la (mS S) := ⟨n4, by rw [n5]; exact hn4, by omega, n6, n7⟩
            obtain ⟨m, hm⟩ : ∃ m, mS S = m := ⟨_, rfl⟩
            rw [hm] at KL NR hml
            obtain ⟨S', hS'⟩ : ∃ S', nxS S = S' := ⟨_, rfl⟩
            rw [hS'] at KN KL2 NR
            clear n1 n2 n3 n4 n5 n6 n7 hgn hok hn4 hla hk0 hk1 c1 hqm NS hm hS' US
            go_wp2_with (first
              | (go_at_call 10; refine (KL d l _ hd hl t3 D3).mono ?_; rintro e w4 ⟨rfl, D4, o4, t4⟩; have b4 := below_far b3 o4 hd hl; clear D3 o4)
              | (go_at_call 9; refine (KN d l _ hd hl t4 D4).mono ?_; rintro e w5 ⟨rfl, D5, o5, t5⟩; have b5 := below_far b4 o5 hd hl; clear D4 o5)
              | (go_at_call 10; refine (KL2 d l _ hd hl t5 D5).mono ?_; rintro e w6 ⟨rfl, D6, o6, t6⟩; have b6 := below_far b5 o6 hd hl; clear D5 o6))
            go_roundg (gk - 1)
            case measure => omega
            case rel => exact ⟨i + 1, la, m, S', rfl, rfl, by first | rfl | go_num, by omega, NR, D6, t6, b6⟩
          · rw [n1, n2] at KN
            have KL2 := says_lastU ht n3
            rw [n4] at KL2
            have NR : Nev (nxS S) (mS S + 1) (mS S + 1) := ⟨n3.ok, n3.n4, by omega, by omega, by omega⟩
            obtain ⟨m, hm⟩ : ∃ m, mS S = m := ⟨_, rfl⟩
            rw [hm] at KL NR hml KN KL2 hla
            have e1 : ((m + 1 : Nat) : Int) = (m : Int) + 1 := by push_cast; rfl
            rw [e1] at KL2
            obtain ⟨S', hS'⟩ : ∃ S', nxS S = S' := ⟨_, rfl⟩
            rw [hS'] at KN KL2 NR
            have hlI : ¬ ((m : Int) + 1 ≤ (la : Int)) := by omega
            clear n1 n2 n3 n4 hgn hok hn4 hla hk0 hk1 c1 hqm NS hm hS' US e1
            go_wp2_with (first
              | (go_at_call 10; refine (KL d l _ hd hl t3 D3).mono ?_; rintro e w4 ⟨rfl, D4, o4, t4⟩; have b4 := below_far b3 o4 hd hl; clear D3 o4)
              | (go_at_call 9; refine (KN d l _ hd hl t4 D4).mono ?_; rintro e w5 ⟨rfl, D5, o5, t5⟩; have b5 := below_far b4 o5 hd hl; clear D4 o5)
              | (go_at_call 10; refine (KL2 d l _ hd hl t5 D5).mono ?_; rintro e w6 ⟨rfl, D6, o6, t6⟩; have b6 := below_far b5 o6 hd hl; clear D5 o6))
            go_roundg (gk - 1)
            case measure => omega
            case rel => exact ⟨i + 1, m + 1, m + 1, S', by first | rfl | go_num, by first | rfl | go_num, by first | rfl | go_num, by omega, NR, D6, t6, b6⟩
      · by_cases h2 : kd = 2
        · subst h2
          have KC := says_cut ht S nn hqm.2
          have NR : Nev (S.cut nn) la kn := ⟨hok.cut hqm.2, hn4, hla, hk0, hk1⟩
          obtain ⟨S', hS'⟩ : ∃ S', S.cut nn = S' := ⟨_, rfl⟩
          rw [hS'] at KC NR
          clear hok hn4 hla hk0 hk1 hqm NS hS' h1
          go_wp2_with ((go_at_call 19; refine (KC d l _ hd hl t3 D3).mono ?_; rintro e w4 ⟨rfl, D4, o4, t4⟩; have b4 := below_far b3 o4 hd hl; clear D3 o4))
          go_roundg (gk - 1)
          case measure => omega
          case rel => exact ⟨i + 1, la, kn, S', rfl, rfl, by first | rfl | go_num, by omega, NR, D4, t4, b4⟩
        · have h1' : (kd == 1) = false := by simp [h1]
          have h2' : (kd == 2) = false := by simp [h2]
          have UO := on_up hok hn4
          have KO := says_on ht S
          have KL := says_lastU ht UO
          rw [mS_on] at KL
          have NR : Nev S.on la (mS S) := ⟨UO.ok, hn4, hla, Nat.le_refl _, by show mS S ≤ _; omega⟩
          obtain ⟨m, hm⟩ : ∃ m, mS S = m := ⟨_, rfl⟩
          rw [hm] at KL NR hk0 hk1
          obtain ⟨S', hS'⟩ : ∃ S', S.on = S' := ⟨_, rfl⟩
          rw [hS'] at KO KL NR
          have j0 : ¬ (m : Int) < (kn : Int) := by omega
          have j1 : ¬ (kn : Int) + 1 < (m : Int) := by omega
          have hkb : kn ≤ 1099511627776 := by have := mS_le S; omega
          clear hok hn4 hla hk0 hk1 c1 hqm NS hS' hm UO h1 h2
          go_wp2_with (first
            | (go_at_call 20; refine (KO d l _ hd hl t3 D3).mono ?_; rintro e w4 ⟨rfl, D4, o4, t4⟩; have b4 := below_far b3 o4 hd hl; clear D3 o4)
            | (go_at_call 10; refine (KL d l _ hd hl t4 D4).mono ?_; rintro e w5 ⟨rfl, D5, o5, t5⟩; have b5 := below_far b4 o5 hd hl; clear D4 o5))
          go_roundg (gk - 1)
          case measure => omega
          case rel => exact ⟨i + 1, la, m, S', rfl, rfl, by first | rfl | go_num, by omega, NR, D5, t5, b5⟩
    · have hcI : ¬ (i : Int) < (len2 : Int) := by omega
      have e : i = len2 := by omega
      subst e
      go_wp2_with (go_at_call 11; refine (awake_any wr t3).mono ?_; rintro e wz ⟨rfl, bz⟩)
      go_ret
      exact ⟨rfl, b3.trans (bz.mono b3.size)⟩
theorem never_law (a : Option Addr) (len cap : Nat) (zs : List Int) (a2 : Option Addr) (len2 cap2 : Nat) (acts : List ActS) (w : World) (R : Row .u8 w a len cap zs) (hc : cap ≤ 9223372036854775807) (RA : RowA w a2 len2 cap2 acts) (hl2 : len2 ≤ 9223372036854775807) (ht : Tb w) :
    Calls Tryd.prog 5 #[.slice a len cap, .slice a2 len2 cap2] w fun e w' => e = .returned (.bool true) ∧ Below w.heap.size w w' := by
  rcases start_any a len cap zs w R hc with ⟨S0, hS, K17⟩ | K17
  · by_cases h4 : 4 ≤ S0.n
    · exact never_ld a len cap a2 len2 cap2 acts S0 w ht RA hl2 K17 ⟨hS.ok, hS.gone, h4⟩
    · have hC : ldC S0 = 31 := by unfold ldC; rw [hS.gone, if_neg (by simp), if_pos (by omega)]
      have KS := says_last ht S0
      rw [ldV_no (by rw [hC]; decide), mx_zr] at KS
      exact never_ld_down a len cap a2 len2 cap2 acts S0 w ht RA hl2 K17 (ldC S0) (by rw [hC]; rfl) KS
  · exact never_nw a len cap a2 len2 cap2 acts (newS 4) w ht RA hl2 K17 (new_ok 4 w (by omega) (by omega)) up_new
end Go.Proofs.YtaacggbfoejjhaaDoor
