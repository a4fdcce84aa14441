/-
  The document's own reader: Str.
-/
import Derived.Test.YtfgniilihdimgaaRefParts
namespace Go.Proofs.Ytfgniilihdimgaa
open Go.ChangeShapes Go.WideShapes Go.ChangeAt Go.RowKit
set_option linter.unusedVariables false

set_option maxHeartbeats 2000000 in
theorem rstr_out (W0 : World) (a : Option Addr) (len cap : Nat) (zs : List Int) (p i : Nat) (w : World) (P : Rp W0 a len cap zs p i 0 w) :
    Calls Try.prog 40 #[.pointer (some ⟨p, 0, none⟩)] w (Rout W0 a len cap zs p i w (.string ⟨#[]⟩) (strR (txtR (zs.drop i)))) := by
  have hl := P.row.size
  have hle := P.le
  have hmax := P.max
  have hcm := P.cmax
  have hlc := P.row.le
  cases hn : num (zs.drop i) with
  | error c =>
    have E : txtR (zs.drop i) = .error c := by simp [txtR, hn]
    rw [E]
    have HN : Hid (num (zs.drop i) = .error c) := hn
    rcases err_pos hn with rfl | rfl
    all_goals
      clear hn E
      go_enter Try.func40, Try.ntmps40
      go_wp2_with (go_at_call 47; refine (rnum_err W0 a len cap zs p i _ P _ HN.out).mono ?_; rintro e w1 ⟨rfl, ⟨j, hp1⟩, hk1⟩; obtain ⟨m0, m1, m2, f0, f1, f2, hz⟩ := id hp1.three)
      go_quiet (fail)
      go_wp2
      go_ret
      exact ⟨hk1.drewN _, rfl, j, hp1.drewN _⟩
  | ok r =>
    obtain ⟨x, n⟩ := r
    obtain ⟨x0, x1, hin⟩ := rnum_at P hn
    have HN : Hid (num (zs.drop i) = .ok (x, n)) := hn
    by_cases hlt : (len : Int) - (i + n : Nat) < x
    · have E : txtR (zs.drop i) = .error 21 := by
        simp only [txtR, hn]
        rw [if_pos (by rw [List.length_drop, hl]; omega)]
      rw [E]
      clear E hn hl
      have hlt' : (len : Int) - ((i : Int) + n) < x := by omega
      clear hlt
      go_enter Try.func40, Try.ntmps40
      go_wp2_with (go_at_call 47; refine (rnum_ok W0 a len cap zs p i _ P x n HN.out).mono ?_; rintro e w1 ⟨rfl, hp1, hk1⟩; obtain ⟨m0, m1, m2, f0, f1, f2, hz⟩ := id hp1.three)
      go_quiet (fail)
      go_wp2
      go_ret
      exact ⟨(hk1.drewN _).setCell 2 _, rfl, _, (hp1.drewN _).fail 21⟩
    · obtain ⟨k, hk⟩ : ∃ k : Nat, x = k := ⟨x.toNat, by omega⟩
      subst hk
      have E : txtR (zs.drop i) = .ok (strOfNums ((zs.drop (i + n)).take k), n + k) := by
        simp only [txtR, hn]
        rw [if_neg (by rw [List.length_drop, hl]; omega), Int.toNat_natCast, List.drop_drop]
      rw [E]
      clear E hn hl
      have hle2 : i + n + k ≤ len := by omega
      have hlt' : ¬ (len : Int) - ((i : Int) + n) < (k : Int) := by omega
      clear hlt
      have HC : Hid (∀ w', Below W0.heap.size W0 w' → (convert 22 9 (.slice (if cap = i + n then a else a.map (·.add ((i + n) * 1))) k (cap - (i + n)))).run Try.prog w' = .ok (.string (strOfNums ((zs.drop (i + n)).take k))) w') :=
        fun w' hb => conv_row ((P.row.cut (i := i + n) (n := k) (by omega)).below hb)
      have b1 : (0 : Int) ≤ (i : Int) + n := by omega
      have b2 : (i : Int) + n ≤ (i : Int) + n + k := by omega
      have b3 : (i : Int) + n + k ≤ (cap : Int) := by omega
      by_cases hcap : cap = i + n
      · have hk0 : k = 0 := by omega
        subst hk0
        have HC2 : ∀ w', Below W0.heap.size W0 w' → (convert 22 9 (.slice a 0 0)).run Try.prog w' = .ok (.string (strOfNums ((zs.drop (i + n)).take 0))) w' := by
          intro w' hb
          have := HC.out w' hb
          rw [if_pos hcap, show cap - (i + n) = 0 by omega] at this
          exact this
        go_enter Try.func40, Try.ntmps40
        go_wp2_with (go_at_call 47; refine (rnum_ok W0 a len cap zs p i _ P _ n HN.out).mono ?_; rintro e w1 ⟨rfl, hp1, hk1⟩; obtain ⟨m0, m1, m2, f0, f1, f2, hz⟩ := id hp1.three)
        go_quiet (fail)
        have hcv : ∀ q, (convert 22 9 (.slice a 0 0)).run Try.prog (w1.drewN q) = .ok (.string (strOfNums ((zs.drop (i + n)).take 0))) (w1.drewN q) := fun q => HC2 _ (hp1.drewN q).old
        clear HC2
        go_wp2
        go_quiet (fail)
        go_wp2
        go_ret
        exact ⟨(hk1.drewN _).setCell 1 _, rfl, hp1.to _ _ _ (by omega) (by omega)⟩
      · have HC2 : ∀ w', Below W0.heap.size W0 w' → (convert 22 9 (.slice (a.map (·.add (i + n))) k (cap - (i + n)))).run Try.prog w' = .ok (.string (strOfNums ((zs.drop (i + n)).take k))) w' := by
          intro w' hb
          have := HC.out w' hb
          rw [if_neg hcap, Nat.mul_one] at this
          exact this
        go_enter Try.func40, Try.ntmps40
        go_wp2_with (go_at_call 47; refine (rnum_ok W0 a len cap zs p i _ P k n HN.out).mono ?_; rintro e w1 ⟨rfl, hp1, hk1⟩; obtain ⟨m0, m1, m2, f0, f1, f2, hz⟩ := id hp1.three)
        go_quiet (fail)
        have hcv : ∀ q, (convert 22 9 (.slice (a.map (·.add (i + n))) k (cap - (i + n)))).run Try.prog (w1.drewN q) = .ok (.string (strOfNums ((zs.drop (i + n)).take k))) (w1.drewN q) := fun q => HC2 _ (hp1.drewN q).old
        clear HC2
        go_wp2
        go_quiet (fail)
        go_wp2
        go_ret
        exact ⟨(hk1.drewN _).setCell 1 _, rfl, hp1.to _ _ _ (by omega) (by omega)⟩

end Go.Proofs.Ytfgniilihdimgaa
