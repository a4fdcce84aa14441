/-
  What Near returns of any two valid fractions; the law FracNear, walked at every input.
-/
import Derived.Test.YtonndlhppihdiaaDoorNearNeg
import Derived.Test.YtonndlhppihdiaaDoorRefNear
import Derived.Test.YtonndlhppihdiaaDoorNearLaw
namespace Go.Proofs.YtonndlhppihdiaaDoor
open Go.ChangeShapes Go.WideShapes Go.ChangeAt Go.RowKit
set_option linter.unusedVariables false
set_option linter.unusedSimpArgs false

theorem near_any {ln ld hn hd n d : Int} {b : Bool} (N : NearIs ln ld hn hd n d b) (w : World) (ht : Tab w) (h1 : Sm ln) (h2 : 0 < ld) (h2' : ld ≤ 2147483647) (h3 : Sm hn) (h4 : 0 < hd) (h4' : hd ≤ 2147483647) :
    Calls Tryd.prog 34 #[fr ln ld, fr hn hd] w fun e w' => e = .returned (nearV n d b) ∧ Below w.heap.size w w' := by
  have M := fun W => cmp_any ln ld hn hd W h1 ⟨by omega, h2'⟩ h3 ⟨by omega, h4'⟩
  have s1 := h1
  have s3 := h3
  unfold Sm at h1 h3
  rcases N with ⟨h, rfl, rfl, rfl⟩ | ⟨h, k1, k2, rfl, rfl, rfl⟩ | ⟨h, k1, k2, rfl, n, rfl, s⟩ | ⟨h, k1, k2, rfl, s⟩
  · exact near_none _ _ _ _ _ (by unfold cmpV; rw [if_neg (by omega), if_pos h]; omega) w M
  · exact near_zero _ _ _ _ _ (by unfold cmpV; split <;> (try split) <;> omega) k1 k2 w M
  · have hq : -hn * ld ≤ -ln * hd := by rw [Int.neg_mul, Int.neg_mul]; omega
    have I := sim_in s (by omega) h4 (by omega) h2 hq
    have F := sim_from s (by omega) h4 (by omega) h2 hq (by omega) h4' (by omega) h2'
    have S := fun W => simplest_any (-hn) hd (-ln) ld W (by unfold Sm; omega) (by omega) h4' (by unfold Sm; omega) (by omega) h2'
    rw [F] at S
    exact near_neg _ _ _ _ _ _ _ (by unfold cmpV; split <;> (try split) <;> omega) (by omega) k1 w ht (by omega) (by omega) (by omega) (by omega) M S
  · have F := sim_from s k1 h2 k2 h4 h (by omega) h2' (by omega) h4'
    have U := near_up ln ld hn hd w s1 (by omega) h2' s3 (by omega) h4' h k1 (by omega)
    rw [show smpF ln ld hn hd = _ from F] at U
    exact U

theorem near_walk (an ad bn bd : Int) (w : World) (h1 : I64 an) (h2 : I64 ad) (h3 : I64 bn) (h4 : I64 bd) (ht : Tab w) :
    Calls Tryd.prog 7 #[fr an ad, fr bn bd] w fun e w' => e = .returned (.bool true) ∧ Below w.heap.size w w' := by
  have VA := fun W => rvalid_any an ad W h1.1 h1.2 h2.1 h2.2
  have VB := fun W => rvalid_any bn bd W h3.1 h3.2 h4.1 h4.2
  cases va : validB an ad with
  | false =>
    rw [va] at VA
    exact nearl_no1 an ad bn bd w ht VA
  | true =>
    rw [va] at VA
    cases vb : validB bn bd with
    | false =>
      rw [vb] at VB
      exact nearl_no2 an ad bn bd w ht VA VB
    | true =>
      rw [vb] at VB
      obtain ⟨s1, p1, q1, g1⟩ := valid_parts va
      obtain ⟨s2, p2, q2, g2⟩ := valid_parts vb
      obtain ⟨n, d, b, N⟩ := near_is an ad bn bd p1 p2
      exact nearl_yes an ad bn bd n d b w ht VA VB (fun W hT => near_any N W hT s1 p1 q1 s2 p2 q2) (fun W => rnear_any N W s1 p1 q1 s2 p2 q2)

end Go.Proofs.YtonndlhppihdiaaDoor
