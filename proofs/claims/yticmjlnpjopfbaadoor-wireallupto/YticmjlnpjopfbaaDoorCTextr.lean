/-
  Reading a text (package code, read.go): text.
-/
import Derived.Test.YticmjlnpjopfbaaDoorCParts
namespace Go.Proofs.YticmjlnpjopfbaaDoor.C
open Go.ChangeShapes Go.WideShapes Go.ChangeAt Go.RowKit
set_option linter.unusedVariables false

set_option maxHeartbeats 2000000 in
theorem textr_ok (W0 : World) (a : Option Addr) (len cap : Nat) (zs : List Int) (p i : Nat) (w : World) (P : Pl W0 a len cap zs p i w) (s : ByteArray) (m : Nat) (h : txtR (zs.drop i) = .ok (s, m)) :
    Calls Tryd.prog 93 #[.pointer (some ⟨p, 0, none⟩)] w fun e w' => e = .returned (.string s) ∧ Pl W0 a len cap zs p (i + m) w' ∧ Kp p w w' := by
  have hl := P.row.size
  have hle := P.le
  cases hn : num (zs.drop i) with
  | error c => simp [txtR, hn] at h
  | ok r =>
    obtain ⟨x, n⟩ := r
    obtain ⟨x0, x1, hin⟩ := num_at P hn
    simp only [txtR, hn] at h
    split at h
    · cases h
    · rename_i hlt
      cases h
      rw [List.length_drop, hl] at hlt
      have HN : Hid (num (zs.drop i) = .ok (x, n)) := hn
      clear hn
      obtain ⟨k, hk⟩ : ∃ k : Nat, x = k := ⟨x.toNat, by omega⟩
      subst hk
      have hfit : i + n + k ≤ len := by omega
      have HD : Hid (List.take k (List.drop n (zs.drop i)) = (zs.drop (i + n)).take k) := by show _ = _; rw [List.drop_drop]
      rw [Int.toNat_natCast, HD.out]
      clear hlt
      go_enter Tryd.func93, Tryd.ntmps93
      go_wp2
      go_region_with (first
        | (go_at_call 96; refine (number_ok W0 a len cap zs p i _ (by first | exact P.drew | exact P) k n HN.out).mono ?_; rintro e w1 ⟨rfl, hp1, hk1⟩)
        | (go_at_call 97; refine (take_ok W0 a len cap zs p (i + n) k _ (by first | exact hp1.drew | exact hp1) hfit).mono ?_; rintro e w2 ⟨a2, rfl, hr2, hp2, hk2⟩; have hcv := conv_row (hr2.below hp2.old)))
      all_goals go_wp2
      all_goals go_ret
      all_goals exact ⟨rfl, by rw [← Nat.add_assoc]; exact hp2, ((Kp.refl _ _).drew.trans hk1).trans hk2⟩

set_option maxHeartbeats 2000000 in
theorem textr_err (W0 : World) (a : Option Addr) (len cap : Nat) (zs : List Int) (p i : Nat) (w : World) (P : Pl W0 a len cap zs p i w) (c : Int) (h : txtR (zs.drop i) = .error c) :
    Calls Tryd.prog 93 #[.pointer (some ⟨p, 0, none⟩)] w fun e w' => e = thrown c ∧ Kp p w w' := by
  have hl := P.row.size
  have hle := P.le
  cases hn : num (zs.drop i) with
  | error c' =>
    simp only [txtR, hn] at h
    cases h
    have HN : Hid (num (zs.drop i) = .error c) := hn
    clear hn
    go_enter Tryd.func93, Tryd.ntmps93
    go_wp2
    refine wp_region_any (by kernel_rfl) ?_
    change wpAny _ _ _ _ _ _ _ (World.drew _)
    refine wpAny_take (i := 0) (v := .pointer (some ⟨p, 0, none⟩)) rfl (by kernel_rfl) (by kernel_rfl) (by kernel_rfl) (fun _ _ _ h => h) (Or.inl ⟨by rfl, by intro w; go_simp⟩) ?_
    refine wpAny_take (i := 1) (v := .pointer (some ⟨p, 0, none⟩)) rfl (by kernel_rfl) (by kernel_rfl) (by kernel_rfl) (fun _ _ _ h => h) (Or.inl ⟨by rfl, by intro w; go_simp⟩) ?_
    refine wpAny_take (i := 2) (v := .pointer (some ⟨p, 0, none⟩)) rfl (by kernel_rfl) (by kernel_rfl) (by kernel_rfl) (fun _ _ _ h => h) (Or.inl ⟨by rfl, by intro w; go_simp⟩) ?_
    refine wpAny_take (i := 3) (v := .pointer (some ⟨p, 0, none⟩)) rfl (by kernel_rfl) (by kernel_rfl) (by kernel_rfl) (fun _ _ _ h => h) (Or.inl ⟨by rfl, by intro w; go_simp⟩) ?_
    refine wpAny_ready (rs := [4]) (by kernel_rfl) (by simp) ?_
    refine AllReady.cons rfl (fun K hK => ?_) AllReady.nil
    go_simp
    go_wp2_with (go_at_call 96; refine (number_err W0 a len cap zs p i _ P.drew c HN.out).mono ?_; rintro e w1 ⟨rfl, hk1⟩)
    exact ⟨rfl, rfl, (Kp.refl _ _).drew.trans hk1⟩
  | ok r =>
    obtain ⟨x, n⟩ := r
    obtain ⟨x0, x1, hin⟩ := num_at P hn
    simp only [txtR, hn] at h
    split at h
    · rename_i hlt
      cases h
      rw [List.length_drop, hl] at hlt
      have HN : Hid (num (zs.drop i) = .ok (x, n)) := hn
      clear hn
      go_enter Tryd.func93, Tryd.ntmps93
      go_wp2
      refine wp_region_any (by kernel_rfl) ?_
      change wpAny _ _ _ _ _ _ _ (World.drew _)
      refine wpAny_take (i := 0) (v := .pointer (some ⟨p, 0, none⟩)) rfl (by kernel_rfl) (by kernel_rfl) (by kernel_rfl) (fun _ _ _ h => h) (Or.inl ⟨by rfl, by intro w; go_simp⟩) ?_
      refine wpAny_take (i := 1) (v := .pointer (some ⟨p, 0, none⟩)) rfl (by kernel_rfl) (by kernel_rfl) (by kernel_rfl) (fun _ _ _ h => h) (Or.inl ⟨by rfl, by intro w; go_simp⟩) ?_
      refine wpAny_take (i := 2) (v := .pointer (some ⟨p, 0, none⟩)) rfl (by kernel_rfl) (by kernel_rfl) (by kernel_rfl) (fun _ _ _ h => h) (Or.inl ⟨by rfl, by intro w; go_simp⟩) ?_
      refine wpAny_take (i := 3) (v := .pointer (some ⟨p, 0, none⟩)) rfl (by kernel_rfl) (by kernel_rfl) (by kernel_rfl) (fun _ _ _ h => h) (Or.inl ⟨by rfl, by intro w; go_simp⟩) ?_
      refine wpAny_ready (rs := [4]) (by kernel_rfl) (by simp) ?_
      refine AllReady.cons rfl (fun K hK => ?_) AllReady.nil
      go_simp
      go_wp2_with (go_at_call 96; refine (number_ok W0 a len cap zs p i _ P.drew x n HN.out).mono ?_; rintro e w1 ⟨rfl, hp1, hk1⟩)
      refine wpAny_ready (rs := [5]) (by kernel_rfl) (by simp) ?_
      refine AllReady.cons rfl (fun K hK => ?_) AllReady.nil
      go_simp
      go_wp2_with (go_at_call 97; refine (take_err W0 a len cap zs p (i + n) x _ hp1 x0 x1 (by omega)).mono ?_; rintro e w2 ⟨rfl, hk2⟩)
      exact ⟨rfl, rfl, ((Kp.refl _ _).drew.trans hk1).trans hk2⟩
    · cases h

end Go.Proofs.YticmjlnpjopfbaaDoor.C
