/-
  Package num: Sum of few numbers that fit; what is told.
-/
import Derived.Test.YtcacocndcfbmaaaM0
import Derived.Test.YtcacocndcfbmaaaH20
namespace Go.Proofs.Ytcacocndcfbmaaa
open Go.ChangeShapes Go.WideShapes Go.ChangeAt Go.RowKit
set_option linter.unusedVariables false
set_option linter.unusedSimpArgs false

def okI (x : Int) : Bool := decide (-2147483647 ≤ x ∧ x ≤ 2147483647)
def chkV (x : Int) : Int := if okI x then x else 0
def chkE (x : Int) : Int := if okI x then 0 else 10
theorem nfits_any (x : Int) (w : World) : Calls Try.prog 48 #[.int .i64 x] w fun e w' => e = .returned (.bool (okI x)) ∧ w' = w := by
  by_cases h1 : -2147483647 ≤ x
  · by_cases h2 : x ≤ 2147483647
    · have hb : okI x = true := by simp [okI, h1, h2]
      rw [hb]
      go_enter Try.func48, Try.ntmps48
      go_wp2
      go_ret
      exact ⟨rfl, rfl⟩
    · have hb : okI x = false := by simp [okI, h2]
      rw [hb]
      go_enter Try.func48, Try.ntmps48
      go_wp2
      go_ret
      exact ⟨rfl, rfl⟩
  · have hb : okI x = false := by simp [okI, h1]
    rw [hb]
    go_enter Try.func48, Try.ntmps48
    go_wp2
    go_ret
    exact ⟨rfl, rfl⟩
theorem checked_any (x : Int) (w : World) : Calls Try.prog 50 #[.int .i64 x] w fun e w' => e = .returned (.tuple #[.int .i64 (chkV x), .int .i64 (chkE x)]) ∧ w' = w := by
  by_cases hb : okI x = true
  · have hv : chkV x = x := by simp [chkV, hb]
    have he : chkE x = 0 := by simp [chkE, hb]
    rw [hv, he]
    clear hv he
    go_enter Try.func50, Try.ntmps50
    go_wp2_with (go_at_call 48; refine (nfits_any _ _).mono ?_; rintro e w' ⟨rfl, rfl⟩)
    go_ret2
    exact ⟨rfl, rfl⟩
  · have hb : okI x = false := by simpa using hb
    have hv : chkV x = 0 := by simp [chkV, hb]
    have he : chkE x = 10 := by simp [chkE, hb]
    rw [hv, he]
    clear hv he
    go_enter Try.func50, Try.ntmps50
    go_wp2_with (go_at_call 48; refine (nfits_any _ _).mono ?_; rintro e w' ⟨rfl, rfl⟩)
    go_ret2
    exact ⟨rfl, rfl⟩
theorem told_any (x : Int) (w : World) : Calls Try.prog 28 #[.int .i64 x] w fun e w' => e = .returned (.tuple #[.int .i64 (chkV x), .int .i64 (chkE x)]) ∧ w' = w := by
  by_cases h1 : x < -2147483647
  · have hv : chkV x = 0 := by simp [chkV, okI]; omega
    have he : chkE x = 10 := by simp [chkE, okI]; omega
    rw [hv, he]
    clear hv he
    go_enter Try.func28, Try.ntmps28
    go_wp2
    go_ret2
    exact ⟨rfl, rfl⟩
  · by_cases h2 : 2147483647 < x
    · have hv : chkV x = 0 := by simp [chkV, okI]; omega
      have he : chkE x = 10 := by simp [chkE, okI]; omega
      rw [hv, he]
      clear hv he
      go_enter Try.func28, Try.ntmps28
      go_wp2
      go_ret2
      exact ⟨rfl, rfl⟩
    · have hv : chkV x = x := by simp [chkV, okI]; omega
      have he : chkE x = 0 := by simp [chkE, okI]; omega
      rw [hv, he]
      clear hv he
      go_enter Try.func28, Try.ntmps28
      go_wp2
      go_ret2
      exact ⟨rfl, rfl⟩
theorem addI_any (a b : Int) (w : World) (h : -9223372036854775808 ≤ a + b ∧ a + b ≤ 9223372036854775807) :
    Calls Try.prog 49 #[.int .i64 a, .int .i64 b] w fun e w' => ∃ c : Bool, e = .returned (.tuple #[.int .i64 (a + b), .bool c]) ∧ w' = w := by
  have hw : IntKind.i64.wrap (a + b) = a + b := by rw [IntKind.wrap_i64]; omega
  go_enter Try.func49, Try.ntmps49
  go_wp2
  go_ret2
  exact ⟨_, by first | rfl | (rw [hw]), rfl⟩
theorem sum_next {zs : List Int} {k : Nat} (hk : k < zs.length) : (zs.take (k + 1)).sum = (zs.take k).sum + zs.getD k 0 := by
  rw [take_next (z := (0 : Int)) hk, List.sum_append]
  simp
theorem sum_rng {zs : List Int} (hf : ∀ k, k < zs.length → -2147483647 ≤ zs.getD k 0 ∧ zs.getD k 0 ≤ 2147483647) : ∀ k, k ≤ zs.length → -(2147483647 * (k : Int)) ≤ (zs.take k).sum ∧ (zs.take k).sum ≤ 2147483647 * (k : Int) := by
  intro k
  induction k with
  | zero => intro _; simp
  | succ k ih =>
    intro hk
    have h1 := ih (by omega)
    have h2 := hf k (by omega)
    rw [sum_next (by omega)]
    omega
set_option maxHeartbeats 2000000 in
theorem nsum_any {base : Nat} (v : Value) (zs : List Int) (w : World) (O : w.ownsRow base 2 1 v zs.length (zs.map iv)) (hf : ∀ k, k < zs.length → -2147483647 ≤ zs.getD k 0 ∧ zs.getD k 0 ≤ 2147483647) (hn : zs.length ≤ 1000) :
    Calls Try.prog 41 #[v] w fun e w' => e = .returned (.tuple #[.int .i64 (chkV zs.sum), .int .i64 (chkE zs.sum)]) ∧ w' = w := by
  have hcell : ∃ a cap, v = .slice a zs.length cap ∧ ∀ k, k < zs.length → ∃ b, a = some ⟨b, 0, none⟩ ∧ w.cell? ⟨b, k, none⟩ = some (.int .i64 (zs.getD k 0)) := by
    rcases O.2 with ⟨rfl, h0⟩ | ⟨g, cap, cur, rfl, hg, hh, hnc, hc, hcs, ht⟩
    · exact ⟨none, 0, by rw [h0], fun k hk => by omega⟩
    · refine ⟨_, cap, rfl, fun k hk => ⟨g, rfl, row_cell hh _ _ ?_⟩⟩
      have : (zs.map iv)[k]? = some (.int .i64 (zs.getD k 0)) := by
        rw [List.getElem?_map, List.getElem?_eq_getElem hk, List.getD_eq_getElem?_getD, List.getElem?_eq_getElem hk]; rfl
      rw [← ht, List.getElem?_take, if_pos (by omega)] at this
      simpa using this
  obtain ⟨a, cap, rfl, hc⟩ := hcell
  have HF : Hid (∀ k, k < zs.length → -2147483647 ≤ zs.getD k 0 ∧ zs.getD k 0 ≤ 2147483647) := hf
  have HN : Hid (zs.length ≤ 1000) := hn
  have HR : Hid (∀ k, k ≤ zs.length → -(2147483647 * (k : Int)) ≤ (zs.take k).sum ∧ (zs.take k).sum ≤ 2147483647 * (k : Int)) := sum_rng hf
  clear O hf hn
  go_enter Try.func41, Try.ntmps41
  go_wp2
  go_step3
  go_wp2
  go_step3
  go_wp2
  go_loop [4, 5, 9] (fun s f i => ∃ (k : Nat) (t : Int), k ≤ zs.length ∧ i = .int .i64 k ∧ s = .int .i64 t ∧ f = .bool true ∧ Hid (t = (zs.take k).sum))
    (fun _ _ i => zs.length - (intOf i).toNat)
  case atStart => exact ⟨0, 0, Nat.zero_le _, rfl, rfl, rfl, by show _ = _; simp⟩
  case round =>
    obtain ⟨k, t, hk, rfl, rfl, rfl, HP⟩ := hrel
    by_cases hlt : k < zs.length
    · obtain ⟨b, rfl, c0⟩ := hc k hlt
      have hI : (k : Int) < (zs.length : Int) := by omega
      have hwk : IntKind.i64.wrap ((k : Int) + 1) = (k : Int) + 1 := by rw [IntKind.wrap_i64]; have := HN.out; omega
      have HS : Hid (t + zs.getD k 0 = (zs.take (k + 1)).sum) := by show _ = _; rw [sum_next hlt, HP.out]
      have hx := HF.out k hlt
      have hr := HR.out (k + 1) (by omega)
      obtain ⟨x, ex⟩ : ∃ x, zs.getD k 0 = x := ⟨_, rfl⟩
      rw [ex] at c0 HS hx
      have hb : -9223372036854775808 ≤ t + x ∧ t + x ≤ 9223372036854775807 := by have := HN.out; have := HS.out; omega
      have ok : okI x = true := by simp [okI]; omega
      have HB : Hid (-9223372036854775808 ≤ t + x ∧ t + x ≤ 9223372036854775807) := hb
      clear hc ex hx hr hb
      go_wp2_with (first | (go_at_call 48; refine (nfits_any _ _).mono ?_; rintro e w' ⟨rfl, rfl⟩) | (go_at_call 49; refine (addI_any _ _ _ HB.out).mono ?_; rintro e w' ⟨c, rfl, rfl⟩))
      go_round
      case rel => exact ⟨k + 1, t + x, by omega, by go_num, rfl, rfl, HS⟩
      case measure => simp [intOf]; omega
    · have ht : t = zs.sum := by
        have e : k = zs.length := by omega
        rw [HP.out, e, List.take_length]
      subst ht
      go_wp2_with (go_at_call 50; refine (checked_any _ _).mono ?_; rintro e w' ⟨rfl, rfl⟩)
      try rw [Exit.noGoto_ret]
      go_ret2
      exact ⟨rfl, rfl⟩
end Go.Proofs.Ytcacocndcfbmaaa
