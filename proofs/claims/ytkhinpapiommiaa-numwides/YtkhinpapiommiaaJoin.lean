/-
  What num's joinDigit returns: a wide number with one digit more behind it, if it has at most 128 bits.
-/
import Derived.Test.YtkhinpapiommiaaSquares
namespace Go.Proofs.Ytkhinpapiommiaa
open Go.ChangeShapes Go.WideShapes Go.ChangeAt Go.RowKit
set_option linter.unusedVariables false

def digB (c : Int) : Bool := decide (48 ≤ c ∧ c ≤ 57)
def jOk (n c : Int) : Bool := digB c && !ovW (n * 10 + (c - 48))
def jH (n c : Int) : Int := if jOk n c then hiW (n * 10 + (c - 48)) else 0
def jL (n c : Int) : Int := if jOk n c then lo64 (n * 10 + (c - 48)) else 0

theorem jOk_no {n c : Int} (h : digB c = false) : jOk n c = false ∧ jH n c = 0 ∧ jL n c = 0 := by
  have e : jOk n c = false := by simp [jOk, h]
  exact ⟨e, by simp [jH, e], by simp [jL, e]⟩
theorem jOk_over {ah al c : Int} (h1 : 0 ≤ ah) (h2 : 0 ≤ al) (h : hi64 (ah * 10) ≠ 0 ∨ carB (lo64 (ah * 10)) (hi64 (al * 10)) = true) (hc : 48 ≤ c) :
    jOk (val ah al) c = false ∧ jH (val ah al) c = 0 ∧ jL (val ah al) c = 0 := by
  have o : ovW (val ah al * 10 + (c - 48)) = true := by
    unfold ovW val; unfold hi64 lo64 carB at h; simp at h ⊢
    have g : al * 10 / 18446744073709551616 * 18446744073709551616 ≤ al * 10 := by omega
    have k : 0 ≤ al * 10 / 18446744073709551616 := by omega
    generalize al * 10 / 18446744073709551616 = f at *
    rcases h with h | h
    · omega
    · have k2 : 18446744073709551616 ≤ ah * 10 + f := by omega
      omega
  have e : jOk (val ah al) c = false := by simp [jOk, o]
  exact ⟨e, by simp [jH, e], by simp [jL, e]⟩
theorem join_sum {ah al c : Int} (h1 : 0 ≤ ah) (h2 : 0 ≤ al) (h : hi64 (ah * 10) = 0) (k : carB (lo64 (ah * 10)) (hi64 (al * 10)) = false) :
    val (lo64 (lo64 (ah * 10) + hi64 (al * 10))) (lo64 (al * 10)) + val 0 (c - 48) = val ah al * 10 + (c - 48) := by
  unfold val; unfold hi64 lo64 carB at *; simp at h k ⊢; omega
theorem jOk_plus {n c : Int} (h : digB c = true) : jOk n c = !ovW (n * 10 + (c - 48)) ∧ jH n c = plH (n * 10 + (c - 48)) ∧ jL n c = plL (n * 10 + (c - 48)) := by
  have e : jOk n c = !ovW (n * 10 + (c - 48)) := by simp [jOk, h]
  refine ⟨e, ?_, ?_⟩
  · unfold jH plH; rw [e]; cases ovW (n * 10 + (c - 48)) <;> simp
  · unfold jL plL; rw [e]; cases ovW (n * 10 + (c - 48)) <;> simp
theorem hi10_bd {a : Int} (h : 0 ≤ a) (h' : a ≤ 18446744073709551615) : 0 ≤ hi64 (a * 10) ∧ hi64 (a * 10) ≤ 9 := by unfold hi64; omega

set_option maxHeartbeats 1000000 in
theorem join_any (ah al c : Int) (w : World) (h1 : 0 ≤ ah) (h1' : ah ≤ 18446744073709551615) (h2 : 0 ≤ al) (h2' : al ≤ 18446744073709551615) (h3 : 0 ≤ c) (h3' : c ≤ 255) :
    Calls Try.prog 46 #[wide ah al, .int .u8 c] w fun e w' =>
      e = .returned (.tuple #[wide (jH (val ah al) c) (jL (val ah al) c), .bool (jOk (val ah al) c)]) ∧ Below w.heap.size w w' := by
  by_cases c1 : c < 48
  · obtain ⟨e1, e2, e3⟩ := jOk_no (n := val ah al) (c := c) (by unfold digB; simp; omega)
    rw [e1, e2, e3]
    clear e1 e2 e3
    go_enter Try.func46, Try.ntmps46
    go_wp2
    go_returns
    exact ⟨rfl, by go_grown⟩
  by_cases c2 : 57 < c
  · obtain ⟨e1, e2, e3⟩ := jOk_no (n := val ah al) (c := c) (by unfold digB; simp; omega)
    rw [e1, e2, e3]
    clear e1 e2 e3
    go_enter Try.func46, Try.ntmps46
    go_wp2
    go_returns
    exact ⟨rfl, by go_grown⟩
  obtain ⟨n11, n12⟩ := hi10_bd h2 h2'
  obtain ⟨n21, n22⟩ := lo64_bd (ah * 10)
  obtain ⟨n31, n32⟩ := lo64_bd (al * 10)
  obtain ⟨n41, n42⟩ := lo64_bd (lo64 (ah * 10) + hi64 (al * 10))
  by_cases c3 : hi64 (ah * 10) = 0
  · have k3 : (hi64 (ah * 10) != 0) = false := by simp [c3]
    by_cases c4 : carB (lo64 (ah * 10)) (hi64 (al * 10)) = true
    · obtain ⟨e1, e2, e3⟩ := jOk_over (c := c) h1 h2 (Or.inr c4) (by omega)
      rw [e1, e2, e3]
      have C3 : Hid _ := c3
      clear e1 e2 e3 c3
      go_enter Try.func46, Try.ntmps46
      go_wp2_with (first
        | (go_at_call 48; refine (mul64_any _ _ _ (by first | assumption | omega) (by first | assumption | omega) (by first | assumption | omega) (by first | assumption | omega)).mono ?_; rintro e w' ⟨rfl, rfl⟩)
        | (go_at_call 47; refine (addU_any _ _ _ (by first | assumption | omega) (by first | assumption | omega) (by first | assumption | omega) (by first | assumption | omega)).mono ?_; rintro e w' ⟨rfl, rfl⟩))
      go_returns
      exact ⟨rfl, by go_grown⟩
    · have c4 : carB (lo64 (ah * 10)) (hi64 (al * 10)) = false := by simpa using c4
      obtain ⟨e1, e2, e3⟩ := jOk_plus (n := val ah al) (c := c) (by unfold digB; simp; omega)
      have E : Hid _ := join_sum (c := c) h1 h2 c3 c4
      rw [e1, e2, e3]
      have C3 : Hid _ := c3
      clear e1 e2 e3 c3
      go_enter Try.func46, Try.ntmps46
      go_wp2_with (first
        | (go_at_call 48; refine (mul64_any _ _ _ (by first | assumption | omega) (by first | assumption | omega) (by first | assumption | omega) (by first | assumption | omega)).mono ?_; rintro e w' ⟨rfl, rfl⟩)
        | (go_at_call 47; refine (addU_any _ _ _ (by first | assumption | omega) (by first | assumption | omega) (by first | assumption | omega) (by first | assumption | omega)).mono ?_; rintro e w' ⟨rfl, rfl⟩)
        | (go_at_call 24; refine (plus_any _ _ _ _ _ (by first | assumption | omega) (by first | assumption | omega) (by first | assumption | omega) (by first | assumption | omega) (by first | assumption | omega) (by first | assumption | omega) (by first | assumption | omega) (by first | assumption | omega)).mono ?_; rintro e w1 ⟨rfl, hb⟩; obtain ⟨q0, q1, g0, g1, z⟩ := ((Two.new _ _ _ _).below hb).at (k' := w.heap.size + 1) (by simp); have hB : Below w.heap.size w w1 := Below.trans (by go_grown) (hb.mono (by simp; omega)); clear hb; rw [E.out]))
      exact bodyPost_ret (v := .tuple #[wide (plH (val ah al * 10 + (c - 48))) (plL (val ah al * 10 + (c - 48))), .bool (!ovW (val ah al * 10 + (c - 48)))]) (by simp [results, Try.results46, go_sem, q0, q1]) rfl ⟨rfl, by go_grown⟩
  · have k3 : (hi64 (ah * 10) != 0) = true := by simp [c3]
    obtain ⟨e1, e2, e3⟩ := jOk_over (c := c) h1 h2 (Or.inl c3) (by omega)
    rw [e1, e2, e3]
    have C3 : Hid _ := c3
    clear e1 e2 e3 c3
    go_enter Try.func46, Try.ntmps46
    go_wp2_with (first
      | (go_at_call 48; refine (mul64_any _ _ _ (by first | assumption | omega) (by first | assumption | omega) (by first | assumption | omega) (by first | assumption | omega)).mono ?_; rintro e w' ⟨rfl, rfl⟩)
      | (go_at_call 47; refine (addU_any _ _ _ (by first | assumption | omega) (by first | assumption | omega) (by first | assumption | omega) (by first | assumption | omega)).mono ?_; rintro e w' ⟨rfl, rfl⟩))
    go_returns
    exact ⟨rfl, by go_grown⟩

end Go.Proofs.Ytkhinpapiommiaa
