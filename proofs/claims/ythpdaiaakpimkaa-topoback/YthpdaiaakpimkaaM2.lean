/-
  The document's Fit.
-/
import Derived.Test.YthpdaiaakpimkaaM1
namespace Go.Proofs.Ythpdaiaakpimkaa
open Go.ChangeShapes Go.WideShapes Go.ChangeAt Go.RowKit
set_option linter.unusedVariables false
set_option linter.unusedSimpArgs false
theorem px_at {v : Int} {l : List Int} {k : Nat} (hk : k < l.length) : px v l = (k : Int) ↔ ix v l = k := by
  unfold px
  have := ix_le v l
  by_cases h : ix v l < l.length
  · rw [if_pos h]; omega
  · rw [if_neg h]; omega
theorem fit_at {id : Int} {zs : List Int} {k : Nat} {x : Int} (hk : k < zs.length) (h6 : zs.length ≤ 6) (hx : x = zs.getD k 0) : rf id (zs.take k) x = 0 ↔ nd x = true ∧ x ≠ id ∧ px x zs = (k : Int) := by
  rw [rf_zero, px_at hk]
  have h1 : ix x zs ≤ k := by
    by_cases h : ix x zs ≤ k
    · exact h
    · exact absurd hx.symm (ix_ne (by omega))
  have h2 : hs x (zs.take k) = false ↔ ix x zs = k := by
    unfold hs
    rw [decide_eq_false_iff_not, ix_take (by omega)]
    omega
  have h3 : (zs.take k).length < 6 := by simp; omega
  rw [h2]
  constructor
  · rintro ⟨a, b, c, _⟩; exact ⟨a, b, c⟩
  · rintro ⟨a, b, c⟩; exact ⟨a, b, c, h3⟩
set_option maxRecDepth 100000 in
set_option maxHeartbeats 2000000 in
theorem rfit_any (id : Int) (a : Option Addr) (len cap : Nat) (zs : List Int) (t : Int) (w : World) (R : Row w a len cap zs) : Calls Try.prog 8 #[.int .i64 id, .slice a len cap, .int .i64 t] w fun e w' => e = .returned (.bool (ft id zs t)) ∧ w' = w := by
  have HS : Hid (zs.length = len) := R.size
  have K1 := fun w => rnode_any id w
  by_cases h1 : nd id = false
  · rw [ft_false (fun h => by have := h.1; rw [h1] at this; cases this)]
    simp only [h1] at K1
    clear h1 R
    go_enter Try.func8, Try.ntmps8
    go_wp2_with (first | (go_at_call 27; refine (K1 _).mono ?_; clear K1; rintro e w1 ⟨rfl, hw⟩; rw [hw]; clear hw w1))
    go_ret
    exact ⟨rfl, rfl⟩
  · simp only [Bool.not_eq_false] at h1
    simp only [h1] at K1
    have H1 : Hid (nd id = true) := h1
    clear h1
    by_cases h2 : len ≤ 6
    · have h2I : ¬ (6 : Int) < (len : Int) := by omega
      have HM : Hid (len ≤ 6) := h2
      clear h2
      by_cases h3 : t < 0
      · rw [ft_false (fun h => by have := h.2.2.1; omega)]
        clear R
        go_enter Try.func8, Try.ntmps8
        go_wp2_with (first | (go_at_call 27; refine (K1 _).mono ?_; clear K1; rintro e w1 ⟨rfl, hw⟩; rw [hw]; clear hw w1))
        go_ret
        exact ⟨rfl, rfl⟩
      · obtain ⟨m, hm⟩ : ∃ m : Int, (if (len : Int) < 1 then 1 else (len : Int)) = m := ⟨_, rfl⟩
        have hm' : (if (1 : Int) > (len : Int) then 1 else (len : Int)) = m := hm
        have HMM : Hid (m = max (len : Int) 1) := by show m = max (len : Int) 1; rw [← hm]; split <;> omega
        by_cases h4 : m ≤ t
        · rw [ft_false (fun h => by have h5 := h.2.2.2.1; rw [HS.out] at h5; have := HMM.out; omega)]
          clear R
          go_enter Try.func8, Try.ntmps8
          go_wp2_with (first | (go_at_call 27; refine (K1 _).mono ?_; clear K1; rintro e w1 ⟨rfl, hw⟩; rw [hw]; clear hw w1))
          go_ret
          exact ⟨rfl, rfl⟩
        · have HT : Hid (0 ≤ t ∧ (t < (len : Int) ∨ t = 0)) := by show _ ∧ _; have := HMM.out; omega
          go_enter Try.func8, Try.ntmps8
          go_wp2_with (first | (go_at_call 27; refine (K1 _).mono ?_; clear K1; rintro e w1 ⟨rfl, hw⟩; rw [hw]; clear hw w1))
          clear hm hm' h4
          go_loopg [7] len (fun gk v7 wr => ∃ k : Nat, v7 = .int .i64 (k : Int) ∧ k + gk = len ∧ (∀ i, i < k → rf id (zs.take i) (zs.getD i 0) = 0) ∧ wr = w)
          case atStart => exact ⟨0, by first | rfl | go_num, by omega, fun j hj => by omega, rfl⟩
          case round =>
            obtain ⟨k, rfl, hgk, hn, rfl⟩ := hrel
            have HN : Hid (∀ i, i < k → rf id (zs.take i) (zs.getD i 0) = 0) := hn
            have HG : Hid (k + gk = len) := hgk
            by_cases hk : k < len
            · have K3 := fun x => place_any a len cap zs x wr R
              obtain ⟨b, off, rfl, hb, hc⟩ := R.mem.resolve_left (by omega)
              have c0 := hc k hk
              have hkI : (k : Int) < (len : Int) := by omega
              have HK : Hid (k < len) := hk
              obtain ⟨x, hx⟩ : ∃ x, x = zs.getD k 0 := ⟨_, rfl⟩
              have HX : Hid (x = zs.getD k 0) := hx
              have HA : Hid (rf id (zs.take k) x = 0 ↔ nd x = true ∧ x ≠ id ∧ px x zs = (k : Int)) := fit_at (by rw [HS.out]; exact hk) (by rw [HS.out]; exact HM.out) hx
              have HF : Hid (rf id (zs.take k) x ≠ 0 → ft id zs t = false) := fun hz => ft_false (fun h => hz (by rw [HX.out]; exact h.2.2.2.2 k (by rw [HS.out]; exact HK.out)))
              rw [← hx] at c0
              have K4 := K3 x
              have K5 := fun w => rnode_any x w
              clear hx hc hn hgk R hk K3
              by_cases h5 : nd x = false
              · simp only [h5] at K5
                have HE : Hid (ft id zs t = false) := HF.out (fun e => by have := (HA.out.1 e).1; rw [h5] at this; cases this)
                clear h5 K4
                go_wp2_with (go_at_call 27; refine (K5 _).mono ?_; rintro e w1 ⟨rfl, hw⟩; rw [hw]; clear hw w1)
                go_ret
                exact ⟨by rw [HE.out]; rfl, rfl⟩
              · simp only [Bool.not_eq_false] at h5
                simp only [h5] at K5
                have H5 : Hid (nd x = true) := h5
                clear h5
                by_cases h6 : x = id
                · have HE : Hid (ft id zs t = false) := HF.out (fun e => (HA.out.1 e).2.1 h6)
                  have h6' : (x == id) = true := by simpa using h6
                  clear h6 K4
                  go_wp2_with (go_at_call 27; refine (K5 _).mono ?_; rintro e w1 ⟨rfl, hw⟩; rw [hw]; clear hw w1)
                  go_ret
                  exact ⟨by rw [HE.out]; rfl, rfl⟩
                · have h6' : (x == id) = false := by simpa using h6
                  have H6 : Hid (x ≠ id) := h6
                  clear h6
                  by_cases h7 : px x zs = (k : Int)
                  · have HZ : Hid (rf id (zs.take k) x = 0) := HA.out.2 ⟨H5.out, H6.out, h7⟩
                    rw [h7] at K4
                    have hwr : IntKind.i64.wrap ((k : Int) + 1) = (k : Int) + 1 := by rw [IntKind.wrap_i64]; have := HM.out; have := HK.out; omega
                    clear h7
                    go_wp2_with (first
                      | (go_at_call 27; refine (K5 _).mono ?_; rintro e w1 ⟨rfl, hw⟩; rw [hw]; clear hw w1)
                      | (go_at_call 28; refine K4.mono ?_; rintro e w1 ⟨rfl, hw⟩; rw [hw]; clear hw w1))
                    go_roundg (gk - 1)
                    case measure => have := HG.out; have := HK.out; omega
                    case rel =>
                      refine ⟨k + 1, by first | rfl | go_num, by have := HG.out; have := HK.out; omega, fun j hj => ?_, rfl⟩
                      by_cases hjk : j = k
                      · rw [hjk, ← HX.out]; exact HZ.out
                      · exact HN.out j (by omega)
                  · have HE : Hid (ft id zs t = false) := HF.out (fun e => h7 (HA.out.1 e).2.2)
                    obtain ⟨q, hq⟩ : ∃ q, px x zs = q := ⟨_, rfl⟩
                    rw [hq] at K4 h7
                    have h7' : (q != (k : Int)) = true := by simpa using h7
                    clear h7 hq
                    go_wp2_with (first
                      | (go_at_call 27; refine (K5 _).mono ?_; rintro e w1 ⟨rfl, hw⟩; rw [hw]; clear hw w1)
                      | (go_at_call 28; refine K4.mono ?_; rintro e w1 ⟨rfl, hw⟩; rw [hw]; clear hw w1))
                    go_ret
                    exact ⟨by rw [HE.out]; rfl, rfl⟩
            · have hkI : ¬ (k : Int) < (len : Int) := by omega
              have hke : k = len := by omega
              have HE : Hid (ft id zs t = true) := ft_true ⟨H1.out, by rw [HS.out]; exact HM.out, HT.out.1, by rw [HS.out]; exact HT.out.2, fun i hi => hn i (by rw [hke, ← HS.out]; exact hi)⟩
              clear hn hgk R hk hke
              go_wp2
              go_ret
              exact ⟨by rw [HE.out]; rfl, rfl⟩
    · rw [ft_false (fun h => by have := h.2.1; rw [HS.out] at this; omega)]
      have h2I : (6 : Int) < (len : Int) := by omega
      clear R h2
      go_enter Try.func8, Try.ntmps8
      go_wp2_with (first | (go_at_call 27; refine (K1 _).mono ?_; clear K1; rintro e w1 ⟨rfl, hw⟩; rw [hw]; clear hw w1))
      go_ret
      exact ⟨rfl, rfl⟩
end Go.Proofs.Ythpdaiaakpimkaa
