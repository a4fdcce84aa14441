/-
  The document's own Next, whatever the disk.
-/
import Derived.Test.YtaacggbfoejjhaaDoorB24
import Derived.Test.YtaacggbfoejjhaaDoorB25
namespace Go.Proofs.YtaacggbfoejjhaaDoor
open Go.ChangeShapes Go.WideShapes Go.ChangeAt Go.RowKit
open D
set_option linter.unusedVariables false
set_option linter.unusedSimpArgs false

theorem hlf_0 (n : Nat) : hlf (recd n) 0 = recA n := rec_first n
theorem hlf_1 (n : Nat) : hlf (recd n) 1 = recB n := rec_second n
theorem rnext_any (r m : Nat) (T : DS) (w : World) (D : DkR w r m T) : Calls Tryd.prog 30 #[.pointer (some ⟨r, 0, none⟩)] w fun e w' => e = .returned (.tuple #[.int .i64 (rnN T), .int .i64 (rnC T)]) ∧ DkR w' r m (rnS T) ∧ Only (at2 r m) w w' := by
  have KS := rslots_any r m T w D
  by_cases h : ldC T = 0
  · have hmx : mx (ldV T) = max (sl0 T) (sl1 T) := rfl
    have hls : lsrS (ldV T) = if sl1 T < sl0 T then 1 else 0 := rfl
    rw [h] at KS
    have hle : max (sl0 T) (sl1 T) ≤ 1099511627776 := by rw [← hmx]; exact mx_le _
    by_cases hm : max (sl0 T) (sl1 T) = 1099511627776
    · have e1 : rnC T = 33 := by unfold rnC; rw [if_pos h, hmx, if_pos hm]
      have e2 : rnN T = 0 := by unfold rnN; rw [e1]; rfl
      have e3 : rnS T = T := by unfold rnS; rw [if_pos h, hmx, if_pos hm]
      rw [e1, e2, e3]
      exact (rnext_max r m w _ _ hm KS).mono fun e w' ⟨he, b⟩ => ⟨he, D.below b, Only.of_below b⟩
    · by_cases hlt : sl1 T < sl0 T
      · have hM : max (sl0 T) (sl1 T) = sl0 T := by omega
        rw [if_pos hlt] at hls
        have eC : rnC T = rstoC T 1 (recd (sl0 T + 1)) := by unfold rnC nxV; rw [if_pos h, hmx, if_neg hm, hls, hM]
        have eS : rnS T = rstoS T 1 (recd (sl0 T + 1)) := by unfold rnS nxV; rw [if_pos h, hmx, if_neg hm, hls, hM]
        have eN : rnN T = if rnC T = 0 then ((sl0 T + 1 : Nat) : Int) else 0 := by unfold rnN; rw [hmx, hM]
        have K1 : ∀ (W : World) (a : Option Addr) (cap : Nat), DkR W r m T → Row .u8 W a 16 cap (recA (sl0 T + 1)) → (∀ b o, a = some ⟨b, o, none⟩ → b ≠ r) → Calls Tryd.prog 35 #[.pointer (some ⟨r, 0, none⟩), .int .i64 2, .slice a 16 cap] W fun e w' => e = .returned (.int .i64 (rwc T 1 (recd (sl0 T + 1)) 0)) ∧ DkR w' r m (rts T 1 (recd (sl0 T + 1)) 1) ∧ Only (at2 r m) W w' := fun W a cap DW R hb => by
          have := rwrite_all r m T 2 a 16 cap (recA (sl0 T + 1)) W DW R hb
          rw [← hlf_0 (sl0 T + 1)] at this
          exact this
        have K2 : ∀ (W : World) (a : Option Addr) (cap : Nat), DkR W r m (rts T 1 (recd (sl0 T + 1)) 1) → Row .u8 W a 16 cap (recB (sl0 T + 1)) → (∀ b o, a = some ⟨b, o, none⟩ → b ≠ r) → Calls Tryd.prog 35 #[.pointer (some ⟨r, 0, none⟩), .int .i64 3, .slice a 16 cap] W fun e w' => e = .returned (.int .i64 (rwc T 1 (recd (sl0 T + 1)) 1)) ∧ DkR w' r m (rts T 1 (recd (sl0 T + 1)) 2) ∧ Only (at2 r m) W w' := fun W a cap DW R hb => by
          have := rwrite_all r m (rts T 1 (recd (sl0 T + 1)) 1) 3 a 16 cap (recB (sl0 T + 1)) W DW R hb
          rw [← hlf_1 (sl0 T + 1)] at this
          exact this
        by_cases h0 : rwc T 1 (recd (sl0 T + 1)) 0 = 0
        · rw [h0] at K1
          have eC2 : rnC T = rwc T 1 (recd (sl0 T + 1)) 1 := by rw [eC]; unfold rstoC; rw [if_pos h0]
          have eS2 : rnS T = rts T 1 (recd (sl0 T + 1)) 2 := by rw [eS]; unfold rstoS; rw [if_pos h0]
          by_cases h1 : rwc T 1 (recd (sl0 T + 1)) 1 = 0
          · rw [h1] at K2 eC2
            rw [eN, eC2, eS2, if_pos rfl]
            rw [show (((sl0 T + 1 : Nat)) : Int) = ((sl0 T : Nat) : Int) + 1 by omega]
            exact rnext_lt_ok r m T _ w D ((sl0 T : Nat) : Int) ((sl1 T : Nat) : Int) (sl0 T) rfl (by omega) (by omega) KS K1 _ K2
          · rw [eN, eC2, eS2, if_neg h1]
            exact rnext_lt_w1 r m T _ w D ((sl0 T : Nat) : Int) ((sl1 T : Nat) : Int) (sl0 T) rfl (by omega) (by omega) _ (by simp [h1]) KS K1 _ K2
        · have eC2 : rnC T = rwc T 1 (recd (sl0 T + 1)) 0 := by rw [eC]; unfold rstoC; rw [if_neg h0]
          have eS2 : rnS T = rts T 1 (recd (sl0 T + 1)) 1 := by rw [eS]; unfold rstoS; rw [if_neg h0]
          rw [eN, eC2, eS2, if_neg h0]
          exact rnext_lt_w0 r m T _ w D ((sl0 T : Nat) : Int) ((sl1 T : Nat) : Int) (sl0 T) rfl (by omega) (by omega) _ (by simp [h0]) KS K1
      · have hM : max (sl0 T) (sl1 T) = sl1 T := by omega
        rw [if_neg hlt] at hls
        have eC : rnC T = rstoC T 0 (recd (sl1 T + 1)) := by unfold rnC nxV; rw [if_pos h, hmx, if_neg hm, hls, hM]
        have eS : rnS T = rstoS T 0 (recd (sl1 T + 1)) := by unfold rnS nxV; rw [if_pos h, hmx, if_neg hm, hls, hM]
        have eN : rnN T = if rnC T = 0 then ((sl1 T + 1 : Nat) : Int) else 0 := by unfold rnN; rw [hmx, hM]
        have K1 : ∀ (W : World) (a : Option Addr) (cap : Nat), DkR W r m T → Row .u8 W a 16 cap (recA (sl1 T + 1)) → (∀ b o, a = some ⟨b, o, none⟩ → b ≠ r) → Calls Tryd.prog 35 #[.pointer (some ⟨r, 0, none⟩), .int .i64 0, .slice a 16 cap] W fun e w' => e = .returned (.int .i64 (rwc T 0 (recd (sl1 T + 1)) 0)) ∧ DkR w' r m (rts T 0 (recd (sl1 T + 1)) 1) ∧ Only (at2 r m) W w' := fun W a cap DW R hb => by
          have := rwrite_all r m T 0 a 16 cap (recA (sl1 T + 1)) W DW R hb
          rw [← hlf_0 (sl1 T + 1)] at this
          exact this
        have K2 : ∀ (W : World) (a : Option Addr) (cap : Nat), DkR W r m (rts T 0 (recd (sl1 T + 1)) 1) → Row .u8 W a 16 cap (recB (sl1 T + 1)) → (∀ b o, a = some ⟨b, o, none⟩ → b ≠ r) → Calls Tryd.prog 35 #[.pointer (some ⟨r, 0, none⟩), .int .i64 1, .slice a 16 cap] W fun e w' => e = .returned (.int .i64 (rwc T 0 (recd (sl1 T + 1)) 1)) ∧ DkR w' r m (rts T 0 (recd (sl1 T + 1)) 2) ∧ Only (at2 r m) W w' := fun W a cap DW R hb => by
          have := rwrite_all r m (rts T 0 (recd (sl1 T + 1)) 1) 1 a 16 cap (recB (sl1 T + 1)) W DW R hb
          rw [← hlf_1 (sl1 T + 1)] at this
          exact this
        by_cases h0 : rwc T 0 (recd (sl1 T + 1)) 0 = 0
        · rw [h0] at K1
          have eC2 : rnC T = rwc T 0 (recd (sl1 T + 1)) 1 := by rw [eC]; unfold rstoC; rw [if_pos h0]
          have eS2 : rnS T = rts T 0 (recd (sl1 T + 1)) 2 := by rw [eS]; unfold rstoS; rw [if_pos h0]
          by_cases h1 : rwc T 0 (recd (sl1 T + 1)) 1 = 0
          · rw [h1] at K2 eC2
            rw [eN, eC2, eS2, if_pos rfl]
            rw [show (((sl1 T + 1 : Nat)) : Int) = ((sl1 T : Nat) : Int) + 1 by omega]
            by_cases hxy : sl0 T = sl1 T
            · rw [hxy] at KS
              exact rnext_eq_ok r m T _ w D ((sl1 T : Nat) : Int) (sl1 T) rfl (by omega) KS K1 _ K2
            · exact rnext_gs_ok r m T _ w D ((sl0 T : Nat) : Int) ((sl1 T : Nat) : Int) (sl1 T) rfl (by omega) (by omega) KS K1 _ K2
          · rw [eN, eC2, eS2, if_neg h1]
            by_cases hxy : sl0 T = sl1 T
            · rw [hxy] at KS
              exact rnext_eq_w1 r m T _ w D ((sl1 T : Nat) : Int) (sl1 T) rfl (by omega) _ (by simp [h1]) KS K1 _ K2
            · exact rnext_gs_w1 r m T _ w D ((sl0 T : Nat) : Int) ((sl1 T : Nat) : Int) (sl1 T) rfl (by omega) (by omega) _ (by simp [h1]) KS K1 _ K2
        · have eC2 : rnC T = rwc T 0 (recd (sl1 T + 1)) 0 := by rw [eC]; unfold rstoC; rw [if_neg h0]
          have eS2 : rnS T = rts T 0 (recd (sl1 T + 1)) 1 := by rw [eS]; unfold rstoS; rw [if_neg h0]
          rw [eN, eC2, eS2, if_neg h0]
          by_cases hxy : sl0 T = sl1 T
          · rw [hxy] at KS
            exact rnext_eq_w0 r m T _ w D ((sl1 T : Nat) : Int) (sl1 T) rfl (by omega) _ (by simp [h0]) KS K1
          · exact rnext_gs_w0 r m T _ w D ((sl0 T : Nat) : Int) ((sl1 T : Nat) : Int) (sl1 T) rfl (by omega) (by omega) _ (by simp [h0]) KS K1
  · have e1 : rnC T = ldC T := by unfold rnC; rw [if_neg h]
    have e2 : rnN T = 0 := by unfold rnN; rw [e1, if_neg h]
    have e3 : rnS T = T := by unfold rnS; rw [if_neg h]
    rw [e1, e2, e3]
    unfold sl0 sl1 at KS
    rw [ldV_no h, sl_zr 0 (by omega), sl_zr 1 (by omega)] at KS
    exact (rnext_no r m w _ (by simp [h]) KS).mono fun e w' ⟨he, b⟩ => ⟨he, D.below b, Only.of_below b⟩
end Go.Proofs.YtaacggbfoejjhaaDoor
