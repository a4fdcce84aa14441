/-
  The law BootWrites, walked.
-/
import Derived.Test.YtaacggbfoejjhaaDoorB15
namespace Go.Proofs.YtaacggbfoejjhaaDoor
open Go.ChangeShapes Go.WideShapes Go.ChangeAt Go.RowKit
open D
set_option linter.unusedVariables false
set_option linter.unusedSimpArgs false

theorem rec_first (n : Nat) : ((recd n).drop 0).take 16 = recA n := by rw [List.drop_zero]; exact List.take_left' (recA_len n)
theorem rec_second (n : Nat) : ((recd n).drop 16).take 16 = recB n := by
  unfold recd
  rw [List.drop_append, List.drop_eq_nil_of_le (by rw [recA_len]; omega), List.nil_append, recA_len, List.drop_zero, List.take_of_length_le (by rw [recB_len]; omega)]
set_option maxHeartbeats 4000000 in
theorem writes_walk (x : Int) (w : World) (ht : Tb w) : Calls Tryd.prog 4 #[.int .i64 x] w fun e w' => e = .returned (.bool true) ∧ Below w.heap.size w w' := by
  cases hf : (decide (1 ≤ x) && decide (x ≤ 1099511627776)) with
  | false =>
    have K1 := fun W => record_no x W hf
    have K2 := fun W => rrecord_no x W hf
    have cn := fun W => conv_row (row_nil .u8 W)
    clear hf
    go_enter Tryd.func4, Tryd.ntmps4
    go_wp2_with (first
      | (go_at_call 15; refine (K1 _).mono ?_; rintro e w1 ⟨rfl, b1⟩)
      | (go_at_call 16; refine (K2 _).mono ?_; rintro e w2 ⟨rfl, b2⟩; have b12 := b1.trans (b2.mono b1.size))
      | (go_at_call 11; refine (awake_any w2 (ht.below b12)).mono ?_; rintro e w3 ⟨rfl, b3⟩))
    go_ret
    exact ⟨rfl, b12.trans (b3.mono b12.size)⟩
  | true =>
    obtain ⟨n, rfl⟩ : ∃ n : Nat, x = (n : Int) := ⟨x.toNat, by simp at hf; omega⟩
    have hn : fitB n = true := by simp [fitB] at hf ⊢; omega
    clear hf
    have K1 := record_ok n w hn ht
    have K2 := fun W => rrecord_ok n W hn
    have hA := recA_byt n
    have hB := recB_byt n
    have hr := rec_byt n
    have f1 := rec_first n
    have f2 := rec_second n
    have hl := rec_len n
    generalize recA n = A at *
    generalize recB n = B at *
    generalize recd n = R at *
    clear hn
    go_enter Tryd.func4, Tryd.ntmps4
    go_wp2_with (first
      | (go_at_call 15; refine K1.mono ?_; rintro e w1 ⟨g, rfl, hg, B1, b1⟩)
      | (go_at_call 16; refine (K2 w1).mono ?_; rintro e w2 ⟨va, vc, rfl, Oa, Oc, b2⟩; have b12 := b1.trans (b2.mono b1.size); obtain ⟨aa, na, ca, rfl, Ra, hna, _, _⟩ := Oa.row hA; obtain ⟨ab, nb, cb, rfl, Rb, hnb, _, _⟩ := Oc.row hB; clear hna hnb; have R1 := (B1.below b2).row hr 0 16 16 (by omega) (by omega); have R2 := (B1.below b2).row hr 16 16 16 (by omega) (by omega); rw [f1] at R1; rw [f2] at R2; have q1 := conv_row R1; have q2 := conv_row R2; have q3 := conv_row Ra; have q4 := conv_row Rb; clear Oa Oc)
      | (go_at_call 11; refine (awake_any w2 (ht.below b12)).mono ?_; rintro e w3 ⟨rfl, b3⟩))
    go_ret
    exact ⟨rfl, b12.trans (b3.mono b12.size)⟩
end Go.Proofs.YtaacggbfoejjhaaDoor
