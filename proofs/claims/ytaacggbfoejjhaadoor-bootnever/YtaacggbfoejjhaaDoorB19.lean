/-
  The law BootSlots.
-/
import Derived.Test.YtaacggbfoejjhaaDoorB18
namespace Go.Proofs.YtaacggbfoejjhaaDoor
open Go.ChangeShapes Go.WideShapes Go.ChangeAt Go.RowKit
open D
set_option linter.unusedVariables false
set_option linter.unusedSimpArgs false

theorem four (cut : Int) : ∃ c : Nat, c < 4 ∧ wrap64 ((IntKind.u64.wrap cut).tmod 4) = (c : Int) := by
  have h : IntKind.u64.wrap cut = cut % 18446744073709551616 := IntKind.wrap_u64 cut
  have h2 : (0 : Int) ≤ cut % 18446744073709551616 := by omega
  refine ⟨((cut % 18446744073709551616) % 4).toNat, by omega, ?_⟩
  rw [h, Int.tmod_eq_emod_of_nonneg h2]
  unfold wrap64
  omega
theorem says_up {w : World} (hw : Tb w) {S : DS} (h : Up S) : Says w 8 S S (.tuple #[.int .i64 ((st S 0 : Nat) : Int), .int .i64 ((st S 1 : Nat) : Int), .int .i64 0]) := by
  have := says_slots hw S
  rw [h.sl0, h.sl1, h.ldC] at this
  exact this
theorem says_down {w : World} (hw : Tb w) {S : DS} (h : ldC S ≠ 0) : Says w 8 S S (.tuple #[.int .i64 0, .int .i64 0, .int .i64 (ldC S)]) := by
  have := says_slots hw S
  unfold sl0 sl1 at this
  rw [ldV_no h, sl_zr 0 (by omega), sl_zr 1 (by omega)] at this
  exact this
theorem slots_ld (a : Option Addr) (len cap : Nat) (cut : Int) (S0 : DS) (w : World) (ht : Tb w) (K17 : Calls Tryd.prog 17 #[.slice a len cap] w (Made w S0)) (U : Up S0) (hs : S0.stays = false) (hd : S0.done = 0) :
    Calls Tryd.prog 6 #[.slice a len cap, .int .i64 cut] w fun e w' => e = .returned (.bool true) ∧ Below w.heap.size w w' := by
  obtain ⟨c, hc, hcut⟩ := four cut
  have C3 := cut3 U hs hd c hc
  have KS := says_up ht U
  have KC := says_cut ht S0 (c : Int) (by omega)
  have KN := says_next ht (S0.cut c)
  have KW := says_writes ht (nxS (S0.cut c))
  have KO := says_on ht (nxS (S0.cut c))
  have KT := says_up ht C3.up
  have hml := mS_le S0
  by_cases hm : mS S0 = 1099511627776
  · obtain ⟨n1, n2, n3, n4, n5⟩ := C3.last hm
    rw [n1, n2] at KN
    rw [n3] at KW
    rw [n4, n5] at KT
    by_cases hlt : st S0 1 < st S0 0
    · have hx : st S0 0 = 1099511627776 := by unfold mS at hm; omega
      rw [hx] at KS KT
      exact slots_ld_mlt a len cap cut S0 w ht K17 (c : Int) _ (by rw [hx] at hlt; omega) _ _ _ hcut KS KC KN KW KO KT
    · have hy : st S0 1 = 1099511627776 := by unfold mS at hm; omega
      rw [hy] at KS KT
      exact slots_ld_mge a len cap cut S0 w ht K17 (c : Int) _ (by rw [hy] at hlt; omega) _ _ _ hcut KS KC KN KW KO KT
  · by_cases hlt : st S0 1 < st S0 0
    · have hl : lS S0 = 1 := by unfold lS; rw [if_pos hlt]
      have hM : ((st S0 0 : Nat) : Int) < 1099511627776 := by unfold mS at hm hml; omega
      have hlI : ((st S0 1 : Nat) : Int) < ((st S0 0 : Nat) : Int) := by omega
      by_cases h2 : c < 2
      · obtain ⟨n1, n2, n3, n4⟩ := C3.few hm h2
        rw [hl] at n4
        rw [n1, n2] at KN
        rw [n3] at KW
        rw [show st (nxS (S0.cut c)).on 0 = st S0 0 from n4] at KT
        have h3 : c = 0 ∨ c = 1 := by omega
        rcases h3 with rfl | rfl
        · exact slots_ld_lt0 a len cap cut S0 w ht K17 _ _ _ hlI hM _ _ _ hcut KS KC KN KW KO KT
        · exact slots_ld_lt1 a len cap cut S0 w ht K17 _ _ _ hlI hM _ _ _ hcut KS KC KN KW KO KT
      · obtain ⟨n1, n2, n3, n4, n5⟩ := C3.both hm (by omega)
        rw [hl] at n4 n5
        rw [n1, n2] at KN
        rw [n3] at KW
        rw [show st (nxS (S0.cut c)).on 0 = st S0 0 from n4, n5] at KT
        have h3 : c = 2 ∨ c = 3 := by omega
        rcases h3 with rfl | rfl
        · exact slots_ld_lt2 a len cap cut S0 w ht K17 _ _ _ hlI hM _ _ _ hcut KS KC KN KW KO KT
        · exact slots_ld_lt3 a len cap cut S0 w ht K17 _ _ _ hlI hM _ _ _ hcut KS KC KN KW KO KT
    · have hl : lS S0 = 0 := by unfold lS; rw [if_neg hlt]
      have hM : ((st S0 1 : Nat) : Int) < 1099511627776 := by unfold mS at hm hml; omega
      have hlI : ((st S0 0 : Nat) : Int) ≤ ((st S0 1 : Nat) : Int) := by omega
      by_cases h2 : c < 2
      · obtain ⟨n1, n2, n3, n4⟩ := C3.few hm h2
        rw [hl] at n4
        rw [n1, n2] at KN
        rw [n3] at KW
        rw [show st (nxS (S0.cut c)).on 1 = st S0 1 from n4] at KT
        have h3 : c = 0 ∨ c = 1 := by omega
        rcases h3 with rfl | rfl
        · exact slots_ld_ge0 a len cap cut S0 w ht K17 _ _ _ hlI hM _ _ _ hcut KS KC KN KW KO KT
        · exact slots_ld_ge1 a len cap cut S0 w ht K17 _ _ _ hlI hM _ _ _ hcut KS KC KN KW KO KT
      · obtain ⟨n1, n2, n3, n4, n5⟩ := C3.both hm (by omega)
        rw [hl] at n4 n5
        rw [n1, n2] at KN
        rw [n3] at KW
        rw [show st (nxS (S0.cut c)).on 1 = st S0 1 from n4, n5] at KT
        have h3 : c = 2 ∨ c = 3 := by omega
        rcases h3 with rfl | rfl
        · exact slots_ld_ge2 a len cap cut S0 w ht K17 _ _ _ hlI hM _ _ _ hcut KS KC KN KW KO KT
        · exact slots_ld_ge3 a len cap cut S0 w ht K17 _ _ _ hlI hM _ _ _ hcut KS KC KN KW KO KT
theorem slots_nw (a : Option Addr) (len cap : Nat) (cut : Int) (S0 : DS) (w : World) (ht : Tb w) (K17 : Calls Tryd.prog 17 #[.slice a len cap] w fun e w' => e = .returned (.pointer none) ∧ w' = w) (K18 : Calls Tryd.prog 18 #[.int .i64 4] w (Made w S0)) (hx0 : st S0 0 = 0) (hy0 : st S0 1 = 0) (U : Up S0) (hs : S0.stays = false) (hd : S0.done = 0) :
    Calls Tryd.prog 6 #[.slice a len cap, .int .i64 cut] w fun e w' => e = .returned (.bool true) ∧ Below w.heap.size w w' := by
  obtain ⟨c, hc, hcut⟩ := four cut
  have C3 := cut3 U hs hd c hc
  have KS := says_up ht U
  have KC := says_cut ht S0 (c : Int) (by omega)
  have KN := says_next ht (S0.cut c)
  have KW := says_writes ht (nxS (S0.cut c))
  have KO := says_on ht (nxS (S0.cut c))
  have KT := says_up ht C3.up
  have hml := mS_le S0
  by_cases hm : mS S0 = 1099511627776
  · exfalso
    unfold mS at hm
    rw [hx0, hy0] at hm
    cases hm
  · by_cases hlt : st S0 1 < st S0 0
    · exfalso; omega
    · have hl : lS S0 = 0 := by unfold lS; rw [if_neg hlt]
      have hM : ((st S0 1 : Nat) : Int) < 1099511627776 := by unfold mS at hm hml; omega
      have hlI : ((st S0 0 : Nat) : Int) ≤ ((st S0 1 : Nat) : Int) := by omega
      by_cases h2 : c < 2
      · obtain ⟨n1, n2, n3, n4⟩ := C3.few hm h2
        rw [hl] at n4
        rw [n1, n2] at KN
        rw [n3] at KW
        rw [show st (nxS (S0.cut c)).on 1 = st S0 1 from n4] at KT
        have h3 : c = 0 ∨ c = 1 := by omega
        rcases h3 with rfl | rfl
        · exact slots_nw_ge0 a len cap cut S0 w ht K17 K18 _ _ _ hlI hM _ _ _ hcut KS KC KN KW KO KT
        · exact slots_nw_ge1 a len cap cut S0 w ht K17 K18 _ _ _ hlI hM _ _ _ hcut KS KC KN KW KO KT
      · obtain ⟨n1, n2, n3, n4, n5⟩ := C3.both hm (by omega)
        rw [hl] at n4 n5
        rw [n1, n2] at KN
        rw [n3] at KW
        rw [show st (nxS (S0.cut c)).on 1 = st S0 1 from n4, n5] at KT
        have h3 : c = 2 ∨ c = 3 := by omega
        rcases h3 with rfl | rfl
        · exact slots_nw_ge2 a len cap cut S0 w ht K17 K18 _ _ _ hlI hM _ _ _ hcut KS KC KN KW KO KT
        · exact slots_nw_ge3 a len cap cut S0 w ht K17 K18 _ _ _ hlI hM _ _ _ hcut KS KC KN KW KO KT
theorem slots_law (a : Option Addr) (len cap : Nat) (zs : List Int) (cut : Int) (w : World) (R : Row .u8 w a len cap zs) (hc : cap ≤ 9223372036854775807) (ht : Tb w) :
    Calls Tryd.prog 6 #[.slice a len cap, .int .i64 cut] w fun e w' => e = .returned (.bool true) ∧ Below w.heap.size w w' := by
  rcases start_any a len cap zs w R hc with ⟨S0, hS, K17⟩ | K17
  · by_cases h4 : 4 ≤ S0.n
    · exact slots_ld a len cap cut S0 w ht K17 ⟨hS.ok, hS.gone, h4⟩ hS.stays hS.done
    · have hC : ldC S0 = 31 := by unfold ldC; rw [hS.gone, if_neg (by simp), if_pos (by omega)]
      have KS := says_down ht (S := S0) (by rw [hC]; decide)
      exact slots_ld_down a len cap cut S0 w ht K17 (ldC S0) (by rw [hC]; rfl) KS
  · exact slots_nw a len cap cut (newS 4) w ht K17 (new_ok 4 w (by omega) (by omega)) (st_new 4 0 (by omega) (by omega)) (st_new 4 1 (by omega) (by omega)) up_new rfl rfl
end Go.Proofs.YtaacggbfoejjhaaDoor
