/-
  Package topo: what refuses a neighbour; Fit, the program's and the document's.
-/
import Derived.Test.YthpdaiaakpimkaaM0
namespace Go.Proofs.Ythpdaiaakpimkaa
open Go.ChangeShapes Go.WideShapes Go.ChangeAt Go.RowKit
set_option linter.unusedVariables false
set_option linter.unusedSimpArgs false

set_option maxRecDepth 100000 in
set_option maxHeartbeats 1000000 in
theorem refusal_any (id : Int) (a : Option Addr) (len cap : Nat) (zs : List Int) (v : Int) (w : World) (R : Row w a len cap zs) : Calls Try.prog 26 #[.int .i64 id, .slice a len cap, .int .i64 v] w fun e w' => e = .returned (.int .i64 (rf id zs v)) ∧ w' = w := by
  have HS : Hid (zs.length = len) := R.size
  have K1 := fun w => isNode_any v w
  have K2 := has_any a len cap zs v w R
  clear R
  unfold rf
  by_cases h1 : nd v = false
  · simp only [h1] at K1
    rw [if_pos h1]
    clear h1 K2
    go_enter Try.func26, Try.ntmps26
    go_wp2_with (go_at_call 24; refine (K1 _).mono ?_; rintro e w1 ⟨rfl, hw⟩; rw [hw]; clear hw w1)
    go_ret
    exact ⟨rfl, rfl⟩
  · rw [if_neg h1]
    simp only [Bool.not_eq_false] at h1
    simp only [h1] at K1
    clear h1
    by_cases h2 : v = id
    · subst h2
      rw [if_pos rfl]
      clear K2
      go_enter Try.func26, Try.ntmps26
      go_wp2_with (go_at_call 24; refine (K1 _).mono ?_; rintro e w1 ⟨rfl, hw⟩; rw [hw]; clear hw w1)
      go_ret
      exact ⟨rfl, rfl⟩
    · rw [if_neg h2]
      have h2' : (v == id) = false := by simpa using h2
      clear h2
      by_cases h3 : hs v zs = true
      · rw [if_pos h3]
        rw [h3] at K2
        clear h3
        go_enter Try.func26, Try.ntmps26
        go_wp2_with (first
          | (go_at_call 24; refine (K1 _).mono ?_; rintro e w1 ⟨rfl, hw⟩; rw [hw]; clear hw w1)
          | (go_at_call 14; refine K2.mono ?_; rintro e w1 ⟨rfl, hw⟩; rw [hw]; clear hw w1))
        go_ret
        exact ⟨rfl, rfl⟩
      · rw [if_neg h3]
        simp only [Bool.not_eq_true] at h3
        rw [h3] at K2
        clear h3
        rw [HS.out]
        by_cases h4 : 6 ≤ len
        · rw [if_pos h4]
          have h4I : (6 : Int) ≤ (len : Int) := by omega
          clear h4
          go_enter Try.func26, Try.ntmps26
          go_wp2_with (first
            | (go_at_call 24; refine (K1 _).mono ?_; rintro e w1 ⟨rfl, hw⟩; rw [hw]; clear hw w1)
            | (go_at_call 14; refine K2.mono ?_; rintro e w1 ⟨rfl, hw⟩; rw [hw]; clear hw w1))
          go_ret
          exact ⟨rfl, rfl⟩
        · rw [if_neg h4]
          have h4I : ¬ (6 : Int) ≤ (len : Int) := by omega
          clear h4
          go_enter Try.func26, Try.ntmps26
          go_wp2_with (first
            | (go_at_call 24; refine (K1 _).mono ?_; rintro e w1 ⟨rfl, hw⟩; rw [hw]; clear hw w1)
            | (go_at_call 14; refine K2.mono ?_; rintro e w1 ⟨rfl, hw⟩; rw [hw]; clear hw w1))
          go_ret
          exact ⟨rfl, rfl⟩

/-- A list of neighbours that is fit for a node, with a turn. -/
def Ft (id : Int) (l : List Int) (t : Int) : Prop := nd id = true ∧ l.length ≤ 6 ∧ 0 ≤ t ∧ (t < (l.length : Int) ∨ t = 0) ∧ ∀ i, i < l.length → rf id (l.take i) (l.getD i 0) = 0
def ft (id : Int) (l : List Int) (t : Int) : Bool := nd id && decide (l.length ≤ 6) && decide (0 ≤ t) && (decide (t < (l.length : Int)) || decide (t = 0)) && (List.range l.length).all fun i => decide (rf id (l.take i) (l.getD i 0) = 0)
theorem ft_iff {id : Int} {l : List Int} {t : Int} : ft id l t = true ↔ Ft id l t := by
  unfold ft Ft
  simp only [Bool.and_eq_true, Bool.or_eq_true, decide_eq_true_eq, List.all_eq_true, List.mem_range, and_assoc]
theorem ft_true {id : Int} {l : List Int} {t : Int} (h : Ft id l t) : ft id l t = true := ft_iff.2 h
theorem ft_false {id : Int} {l : List Int} {t : Int} (h : ¬ Ft id l t) : ft id l t = false := by
  cases e : ft id l t with
  | false => rfl
  | true => exact absurd (ft_iff.1 e) h
theorem rf_zero {id : Int} {l : List Int} {v : Int} : rf id l v = 0 ↔ nd v = true ∧ v ≠ id ∧ hs v l = false ∧ l.length < 6 := by
  unfold rf
  by_cases h1 : nd v = false
  · rw [if_pos h1]; simp [h1]
  · rw [if_neg h1]
    simp only [Bool.not_eq_false] at h1
    by_cases h2 : v = id
    · rw [if_pos h2]; simp [h2]
    · rw [if_neg h2]
      by_cases h3 : hs v l = true
      · rw [if_pos h3]; simp [h3]
      · rw [if_neg h3]
        by_cases h4 : 6 ≤ l.length
        · rw [if_pos h4]; simp; omega
        · rw [if_neg h4]; simp at h3; simp [h1, h2, h3]; omega
set_option maxRecDepth 100000 in
set_option maxHeartbeats 2000000 in
theorem fit_any (id : Int) (a : Option Addr) (len cap : Nat) (zs : List Int) (t : Int) (w : World) (R : Row w a len cap zs) : Calls Try.prog 7 #[.int .i64 id, .slice a len cap, .int .i64 t] w fun e w' => e = .returned (.bool (ft id zs t)) ∧ w' = w := by
  have HS : Hid (zs.length = len) := R.size
  have HM : Hid (len ≤ 9223372036854775807) := R.small
  have K1 := fun w => isNode_any id w
  have K2 := fun w => isPlace_any a len cap t w
  by_cases h1 : nd id = false
  · rw [ft_false (fun h => by have := h.1; rw [h1] at this; cases this)]
    simp only [h1] at K1
    clear h1 R K2
    go_enter Try.func7, Try.ntmps7
    go_wp2_with (go_at_call 24; refine (K1 _).mono ?_; rintro e w1 ⟨rfl, hw⟩; rw [hw]; clear hw w1)
    go_ret
    exact ⟨rfl, rfl⟩
  · simp only [Bool.not_eq_false] at h1
    simp only [h1] at K1
    by_cases h2 : 0 ≤ t ∧ (t < (len : Int) ∨ t = 0)
    · obtain ⟨b, hb⟩ : ∃ b : Bool, (decide (0 ≤ t) && decide (t < (len : Int))) = b := ⟨_, rfl⟩
      simp only [hb] at K2
      have HB : Hid (b = true ∨ t = 0) := by
        show b = true ∨ t = 0
        rcases h2.2 with h | h
        · left; rw [← hb]; simp; omega
        · right; exact h
      clear hb
      by_cases h0 : t = 0
      · have hcd : (t != 0) = false := by simpa using h0
        clear h0
        go_enter Try.func7, Try.ntmps7
        go_wp2_with (first
          | (go_at_call 24; refine (K1 _).mono ?_; rintro e w1 ⟨rfl, hw⟩; rw [hw]; clear hw w1))
        go_loopg [24] len (fun gk v24 wr => ∃ k : Nat, v24 = .int .i64 (k : Int) ∧ k + gk = len ∧ (∀ i, i < k → rf id (zs.take i) (zs.getD i 0) = 0) ∧ wr = w)
        case atStart => exact ⟨0, by first | rfl | go_num, by omega, fun j hj => by omega, rfl⟩
        case round =>
          obtain ⟨k, rfl, hgk, hn, rfl⟩ := hrel
          have HN : Hid (∀ i, i < k → rf id (zs.take i) (zs.getD i 0) = 0) := hn
          have HG : Hid (k + gk = len) := hgk
          by_cases hk : k < len
          · have K3 := fun x => refusal_any id a k cap (zs.take k) x wr (R.to (Nat.le_of_lt hk))
            have hlc := R.le
            obtain ⟨b, off, rfl, hb, hc⟩ := R.mem.resolve_left (by omega)
            have c0 := hc k hk
            have hkI : (k : Int) < (len : Int) := by omega
            have hkc : (k : Int) ≤ (cap : Int) := by omega
            have HK : Hid (k < len) := hk
            obtain ⟨x, hx⟩ : ∃ x, x = zs.getD k 0 := ⟨_, rfl⟩
            have HX : Hid (x = zs.getD k 0) := hx
            rw [← hx] at c0
            have K4 := K3 x
            clear hx hc hn hgk R hk K3
            by_cases hz : rf id (zs.take k) x = 0
            · rw [hz] at K4
              have HZ : Hid (rf id (zs.take k) x = 0) := hz
              have hwr : IntKind.i64.wrap ((k : Int) + 1) = (k : Int) + 1 := by rw [IntKind.wrap_i64]; have := HM.out; have := HK.out; omega
              clear hz
              go_wp2_with (go_at_call 26; refine K4.mono ?_; rintro e w1 ⟨rfl, hw⟩; rw [hw]; clear hw w1)
              go_roundg (gk - 1)
              case measure => have := HG.out; have := HK.out; omega
              case rel =>
                refine ⟨k + 1, by first | rfl | go_num, by have := HG.out; have := HK.out; omega, fun j hj => ?_, rfl⟩
                by_cases hjk : j = k
                · rw [hjk, ← HX.out]; exact HZ.out
                · exact HN.out j (by omega)
            · have HF : Hid (ft id zs t = false) := ft_false (fun h => hz (by rw [HX.out]; exact h.2.2.2.2 k (by rw [HS.out]; exact HK.out)))
              obtain ⟨r, hr⟩ : ∃ r, rf id (zs.take k) x = r := ⟨_, rfl⟩
              rw [hr] at K4 hz
              have hzb : (r != 0) = true := by simpa using hz
              clear hz hr
              go_wp2_with (go_at_call 26; refine K4.mono ?_; rintro e w1 ⟨rfl, hw⟩; rw [hw]; clear hw w1)
              go_ret
              exact ⟨by rw [HF.out]; rfl, rfl⟩
          · have hkI : ¬ (k : Int) < (len : Int) := by omega
            have hke : k = len := by omega
            have hl6 : zs.length ≤ 6 := by
              by_cases h7 : zs.length ≤ 6
              · exact h7
              · have h8 := (rf_zero.1 (hn 6 (by rw [hke, ← HS.out]; omega))).2.2.2
                simp at h8
                omega
            have HF : Hid (ft id zs t = true) := ft_true ⟨h1, hl6, h2.1, by rw [HS.out]; exact h2.2, fun i hi => hn i (by rw [hke, ← HS.out]; exact hi)⟩
            clear hn hgk R hk hke hl6 h2
            go_wp2
            go_ret
            exact ⟨by rw [HF.out]; rfl, rfl⟩
      · have hb1 : b = true := HB.out.resolve_right h0
        subst hb1
        have hcd : (t != 0) = true := by simpa using h0
        clear h0
        go_enter Try.func7, Try.ntmps7
        go_wp2_with (first
          | (go_at_call 24; refine (K1 _).mono ?_; rintro e w1 ⟨rfl, hw⟩; rw [hw]; clear hw w1)
          | (go_at_call 25; refine (K2 _).mono ?_; rintro e w1 ⟨rfl, hw⟩; rw [hw]; clear hw w1))
        go_loopg [24] len (fun gk v24 wr => ∃ k : Nat, v24 = .int .i64 (k : Int) ∧ k + gk = len ∧ (∀ i, i < k → rf id (zs.take i) (zs.getD i 0) = 0) ∧ wr = w)
        case atStart => exact ⟨0, by first | rfl | go_num, by omega, fun j hj => by omega, rfl⟩
        case round =>
          obtain ⟨k, rfl, hgk, hn, rfl⟩ := hrel
          have HN : Hid (∀ i, i < k → rf id (zs.take i) (zs.getD i 0) = 0) := hn
          have HG : Hid (k + gk = len) := hgk
          by_cases hk : k < len
          · have K3 := fun x => refusal_any id a k cap (zs.take k) x wr (R.to (Nat.le_of_lt hk))
            have hlc := R.le
            obtain ⟨b, off, rfl, hb, hc⟩ := R.mem.resolve_left (by omega)
            have c0 := hc k hk
            have hkI : (k : Int) < (len : Int) := by omega
            have hkc : (k : Int) ≤ (cap : Int) := by omega
            have HK : Hid (k < len) := hk
            obtain ⟨x, hx⟩ : ∃ x, x = zs.getD k 0 := ⟨_, rfl⟩
            have HX : Hid (x = zs.getD k 0) := hx
            rw [← hx] at c0
            have K4 := K3 x
            clear hx hc hn hgk R hk K3
            by_cases hz : rf id (zs.take k) x = 0
            · rw [hz] at K4
              have HZ : Hid (rf id (zs.take k) x = 0) := hz
              have hwr : IntKind.i64.wrap ((k : Int) + 1) = (k : Int) + 1 := by rw [IntKind.wrap_i64]; have := HM.out; have := HK.out; omega
              clear hz
              go_wp2_with (go_at_call 26; refine K4.mono ?_; rintro e w1 ⟨rfl, hw⟩; rw [hw]; clear hw w1)
              go_roundg (gk - 1)
              case measure => have := HG.out; have := HK.out; omega
              case rel =>
                refine ⟨k + 1, by first | rfl | go_num, by have := HG.out; have := HK.out; omega, fun j hj => ?_, rfl⟩
                by_cases hjk : j = k
                · rw [hjk, ← HX.out]; exact HZ.out
                · exact HN.out j (by omega)
            · have HF : Hid (ft id zs t = false) := ft_false (fun h => hz (by rw [HX.out]; exact h.2.2.2.2 k (by rw [HS.out]; exact HK.out)))
              obtain ⟨r, hr⟩ : ∃ r, rf id (zs.take k) x = r := ⟨_, rfl⟩
              rw [hr] at K4 hz
              have hzb : (r != 0) = true := by simpa using hz
              clear hz hr
              go_wp2_with (go_at_call 26; refine K4.mono ?_; rintro e w1 ⟨rfl, hw⟩; rw [hw]; clear hw w1)
              go_ret
              exact ⟨by rw [HF.out]; rfl, rfl⟩
          · have hkI : ¬ (k : Int) < (len : Int) := by omega
            have hke : k = len := by omega
            have hl6 : zs.length ≤ 6 := by
              by_cases h7 : zs.length ≤ 6
              · exact h7
              · have h8 := (rf_zero.1 (hn 6 (by rw [hke, ← HS.out]; omega))).2.2.2
                simp at h8
                omega
            have HF : Hid (ft id zs t = true) := ft_true ⟨h1, hl6, h2.1, by rw [HS.out]; exact h2.2, fun i hi => hn i (by rw [hke, ← HS.out]; exact hi)⟩
            clear hn hgk R hk hke hl6 h2
            go_wp2
            go_ret
            exact ⟨by rw [HF.out]; rfl, rfl⟩
    · rw [ft_false (fun h => h2 ⟨h.2.2.1, by have := h.2.2.2.1; rw [HS.out] at this; exact this⟩)]
      have h0 : (t != 0) = true := by simp; omega
      have hb : (decide (0 ≤ t) && decide (t < (len : Int))) = false := by simp; omega
      simp only [hb] at K2
      clear h1 h2 hb R
      go_enter Try.func7, Try.ntmps7
      go_wp2_with (first
        | (go_at_call 24; refine (K1 _).mono ?_; rintro e w1 ⟨rfl, hw⟩; rw [hw]; clear hw w1)
        | (go_at_call 25; refine (K2 _).mono ?_; rintro e w1 ⟨rfl, hw⟩; rw [hw]; clear hw w1))
      go_ret
      exact ⟨rfl, rfl⟩
end Go.Proofs.Ythpdaiaakpimkaa
