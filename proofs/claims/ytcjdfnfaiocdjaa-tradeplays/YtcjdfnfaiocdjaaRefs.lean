/-
  What the document's own answers on wide numbers (sum, order, difference, square) return, for every input: the same words as package num's.
-/
import Derived.Test.YtcjdfnfaiocdjaaSquares
namespace Go.Proofs.Ytcjdfnfaiocdjaa
open Go.ChangeShapes Go.WideShapes Go.ChangeAt Go.RowKit
set_option linter.unusedVariables false

theorem car_lt {a b : Int} (ha : 0 ≤ a) (ha' : a ≤ 18446744073709551615) (hb : 0 ≤ b) (hb' : b ≤ 18446744073709551615) : lo64 (a + b) < a ↔ carB a b = true := by unfold lo64 carB; simp; omega

set_option maxHeartbeats 400000 in
theorem rsumw_any (ah al bh bl : Int) (w : World) (h1 : 0 ≤ ah) (h1' : ah ≤ 18446744073709551615) (h2 : 0 ≤ al) (h2' : al ≤ 18446744073709551615)
    (h3 : 0 ≤ bh) (h3' : bh ≤ 18446744073709551615) (h4 : 0 ≤ bl) (h4' : bl ≤ 18446744073709551615) :
    Calls Try.prog 44 #[wide ah al, wide bh bl] w fun e w' =>
      e = .returned (wide (hiW (val ah al + val bh bl)) (lo64 (val ah al + val bh bl))) ∧ Below w.heap.size w w' := by
  have W1 : IntKind.u64.wrap (al + bl) = lo64 (al + bl) := wrap_lo _
  have W2 : IntKind.u64.wrap (ah + bh) = lo64 (ah + bh) := wrap_lo _
  have W3 : IntKind.u64.wrap (lo64 (ah + bh) + 1) = lo64 (lo64 (ah + bh) + 1) := wrap_lo _
  by_cases c1 : carB al bl = true
  · have k : lo64 (al + bl) < al := (car_lt h2 h2' h4 h4').2 c1
    go_enter Try.func44, Try.ntmps44
    go_wp2
    go_returns
    exact ⟨ret_wide (sum_hi1 h2 h2' h4 h4' c1) (sum_lo _ _ _ _), by go_grown⟩
  · have k : ¬ lo64 (al + bl) < al := fun h => c1 ((car_lt h2 h2' h4 h4').1 h)
    have c1 : carB al bl = false := by simpa using c1
    go_enter Try.func44, Try.ntmps44
    go_wp2
    go_returns
    exact ⟨ret_wide (sum_hi0 h2 h2' h4 h4' c1) (sum_lo _ _ _ _), by go_grown⟩

set_option maxHeartbeats 400000 in
theorem rless_any (ah al bh bl : Int) (w : World) (h1 : 0 ≤ ah) (h1' : ah ≤ 18446744073709551615) (h2 : 0 ≤ al) (h2' : al ≤ 18446744073709551615)
    (h3 : 0 ≤ bh) (h3' : bh ≤ 18446744073709551615) (h4 : 0 ≤ bl) (h4' : bl ≤ 18446744073709551615) :
    Calls Try.prog 18 #[wide ah al, wide bh bl] w fun e w' => e = .returned (.bool (lessB (val ah al) (val bh bl))) ∧ Below w.heap.size w w' := by
  have L : Hid (lessB (val ah al) (val bh bl) = if ah = bh then decide (al < bl) else decide (ah < bh)) := by
    show lessB (val ah al) (val bh bl) = _
    unfold lessB val
    split <;> (rw [Bool.eq_iff_iff]; simp; omega)
  by_cases c : ah = bh
  · have n : (ah == bh) = true := by simp [c]
    have m : ¬ ah < bh := by omega
    have L' : Hid _ := L.out.trans (if_pos c)
    clear L
    have C : Hid _ := c
    clear c
    go_enter Try.func18, Try.ntmps18
    go_wp2
    go_ret
    exact ⟨by rw [L'.out]; rfl, by go_grown⟩
  · have n : (ah == bh) = false := by simp [c]
    have L' : Hid _ := L.out.trans (if_neg c)
    clear L
    by_cases d : ah < bh
    · go_enter Try.func18, Try.ntmps18
      go_wp2
      go_ret
      exact ⟨by rw [L'.out, decide_eq_true d]; rfl, by go_grown⟩
    · go_enter Try.func18, Try.ntmps18
      go_wp2
      go_ret
      exact ⟨by rw [L'.out, decide_eq_false (by omega)]; rfl, by go_grown⟩

theorem ov_less {ah al bh bl : Int} (h1 : 0 ≤ ah) (h1' : ah ≤ 18446744073709551615) (h2 : 0 ≤ al) (h2' : al ≤ 18446744073709551615)
    (h3 : 0 ≤ bh) (h3' : bh ≤ 18446744073709551615) (h4 : 0 ≤ bl) (h4' : bl ≤ 18446744073709551615) :
    lessB (val (hiW (val ah al + val bh bl)) (lo64 (val ah al + val bh bl))) (val ah al) = ovW (val ah al + val bh bl) := by
  unfold lessB ovW hiW hi64 lo64 val
  rw [Bool.eq_iff_iff]
  simp
  omega

set_option maxHeartbeats 400000 in
theorem rplus_any (ah al bh bl : Int) (w : World) (h1 : 0 ≤ ah) (h1' : ah ≤ 18446744073709551615) (h2 : 0 ≤ al) (h2' : al ≤ 18446744073709551615)
    (h3 : 0 ≤ bh) (h3' : bh ≤ 18446744073709551615) (h4 : 0 ≤ bl) (h4' : bl ≤ 18446744073709551615) :
    Calls Try.prog 51 #[wide ah al, wide bh bl] w fun e w' =>
      e = .returned (.tuple #[wide (plH (val ah al + val bh bl)) (plL (val ah al + val bh bl)), .bool (!ovW (val ah al + val bh bl))]) ∧ Below w.heap.size w w' := by
  have OL : Hid _ := ov_less h1 h1' h2 h2' h3 h3' h4 h4'
  obtain ⟨n1, n2⟩ := hiW_bd (val ah al + val bh bl)
  obtain ⟨n3, n4⟩ := lo64_bd (val ah al + val bh bl)
  by_cases c : ovW (val ah al + val bh bl) = true
  · have e1 : plH (val ah al + val bh bl) = 0 := by simp [plH, c]
    have e2 : plL (val ah al + val bh bl) = 0 := by simp [plL, c]
    rw [e1, e2, c]
    clear e1 e2
    go_enter Try.func51, Try.ntmps51
    go_wp2_with (first | (go_at_call 44; refine (rsumw_any _ _ _ _ _ (by first | assumption | omega) (by first | assumption | omega) (by first | assumption | omega) (by first | assumption | omega) (by first | assumption | omega) (by first | assumption | omega) (by first | assumption | omega) (by first | assumption | omega)).mono ?_; rintro e w1 ⟨rfl, hb⟩; obtain ⟨q0, q1, g0, g1, z⟩ := ((Two.new _ _ _ _).below hb).at (k' := w.heap.size + 1 + 1) (by simp); obtain ⟨q4, q5, _, _, z5⟩ := ((((Two.new _ _ _ _).alloc _).alloc _).below hb).at (k' := w.heap.size) (by simp); have hB : Below w.heap.size w w1 := Below.trans (by go_grown) (hb.mono (by simp; omega)); clear hb) | (go_at_call 18; refine (rless_any _ _ _ _ _ (by first | assumption | omega) (by first | assumption | omega) (by first | assumption | omega) (by first | assumption | omega) (by first | assumption | omega) (by first | assumption | omega) (by first | assumption | omega) (by first | assumption | omega)).mono ?_; rintro e w2 ⟨rfl, hb⟩; rw [OL.out]; obtain ⟨p0, p1, r0, r1, y⟩ := (Two.alloc (W := w1) ⟨q0, q1, g0, g1, z⟩ _).below hb; obtain ⟨p2, p3, r2, r3, y2⟩ := (Two.new w1 _ _ _).below hb; have hB2 : Below w.heap.size w w2 := Below.trans (hB.alloc hB.size _) (hb.mono (by have := hB.size; simp; omega)); clear hb))
    exact bodyPost_ret (v := .tuple #[wide 0 0, .bool false]) (by simp [results, Try.results51, go_sem, p0, p1]) rfl ⟨rfl, by go_grown⟩
  · have c : ovW (val ah al + val bh bl) = false := by simpa using c
    have e1 : plH (val ah al + val bh bl) = hiW (val ah al + val bh bl) := by simp [plH, c]
    have e2 : plL (val ah al + val bh bl) = lo64 (val ah al + val bh bl) := by simp [plL, c]
    rw [e1, e2, c]
    clear e1 e2
    go_enter Try.func51, Try.ntmps51
    go_wp2_with (first | (go_at_call 44; refine (rsumw_any _ _ _ _ _ (by first | assumption | omega) (by first | assumption | omega) (by first | assumption | omega) (by first | assumption | omega) (by first | assumption | omega) (by first | assumption | omega) (by first | assumption | omega) (by first | assumption | omega)).mono ?_; rintro e w1 ⟨rfl, hb⟩; obtain ⟨q0, q1, g0, g1, z⟩ := ((Two.new _ _ _ _).below hb).at (k' := w.heap.size + 1 + 1) (by simp); obtain ⟨q4, q5, _, _, z5⟩ := ((((Two.new _ _ _ _).alloc _).alloc _).below hb).at (k' := w.heap.size) (by simp); have hB : Below w.heap.size w w1 := Below.trans (by go_grown) (hb.mono (by simp; omega)); clear hb) | (go_at_call 18; refine (rless_any _ _ _ _ _ (by first | assumption | omega) (by first | assumption | omega) (by first | assumption | omega) (by first | assumption | omega) (by first | assumption | omega) (by first | assumption | omega) (by first | assumption | omega) (by first | assumption | omega)).mono ?_; rintro e w2 ⟨rfl, hb⟩; rw [OL.out]; obtain ⟨p0, p1, r0, r1, y⟩ := (Two.alloc (W := w1) ⟨q0, q1, g0, g1, z⟩ _).below hb; obtain ⟨p2, p3, r2, r3, y2⟩ := (Two.new w1 _ _ _).below hb; have hB2 : Below w.heap.size w w2 := Below.trans (hB.alloc hB.size _) (hb.mono (by have := hB.size; simp; omega)); clear hb))
    exact bodyPost_ret (v := .tuple #[wide (hiW (val ah al + val bh bl)) (lo64 (val ah al + val bh bl)), .bool true]) (by simp [results, Try.results51, go_sem, p0, p1]) rfl ⟨rfl, by go_grown⟩

set_option maxHeartbeats 400000 in
theorem rdrop_any (ah al bh bl : Int) (w : World) (h1 : 0 ≤ ah) (h1' : ah ≤ 18446744073709551615) (h2 : 0 ≤ al) (h2' : al ≤ 18446744073709551615)
    (h3 : 0 ≤ bh) (h3' : bh ≤ 18446744073709551615) (h4 : 0 ≤ bl) (h4' : bl ≤ 18446744073709551615) :
    Calls Try.prog 27 #[wide ah al, wide bh bl] w fun e w' =>
      e = .returned (.tuple #[wide (drH (val ah al) (val bh bl)) (drL (val ah al) (val bh bl)), .bool (!lessB (val ah al) (val bh bl))]) ∧ Below w.heap.size w w' := by
  have W1 : IntKind.u64.wrap (al - bl) = lo64 (al - bl) := wrap_lo _
  have W2 : IntKind.u64.wrap (ah - bh) = lo64 (ah - bh) := wrap_lo _
  have W3 : IntKind.u64.wrap (lo64 (ah - bh) - 1) = lo64 (lo64 (ah - bh) - 1) := wrap_lo _
  by_cases c : lessB (val ah al) (val bh bl) = true
  · have e1 : drH (val ah al) (val bh bl) = 0 := by simp [drH, c]
    have e2 : drL (val ah al) (val bh bl) = 0 := by simp [drL, c]
    rw [e1, e2, c]
    clear e1 e2
    go_enter Try.func27, Try.ntmps27
    go_wp2_with (go_at_call 18; refine (rless_any _ _ _ _ _ (by first | assumption | omega) (by first | assumption | omega) (by first | assumption | omega) (by first | assumption | omega) (by first | assumption | omega) (by first | assumption | omega) (by first | assumption | omega) (by first | assumption | omega)).mono ?_; rintro e w1 ⟨rfl, hb⟩; obtain ⟨q0, q1, g0, g1, z⟩ := ((Two.new _ _ _ _).below hb).at (k' := w.heap.size + 1 + 1) (by simp); obtain ⟨q2, q3, _, _, _⟩ := (((Two.new _ _ _ _).alloc _).below hb).at (k' := w.heap.size + 1) (by simp); obtain ⟨q4, q5, _, _, _⟩ := ((((Two.new _ _ _ _).alloc _).alloc _).below hb).at (k' := w.heap.size) (by simp); have hB : Below w.heap.size w w1 := Below.trans (by go_grown) (hb.mono (by simp; omega)); clear hb)
    exact bodyPost_ret (v := .tuple #[wide 0 0, .bool false]) (by simp [results, Try.results27, go_sem, q0, q1]) rfl ⟨rfl, by go_grown⟩
  · have c : lessB (val ah al) (val bh bl) = false := by simpa using c
    have e1 : drH (val ah al) (val bh bl) = hiW (val ah al - val bh bl) := by simp [drH, c]
    have e2 : drL (val ah al) (val bh bl) = lo64 (val ah al - val bh bl) := by simp [drL, c]
    rw [e1, e2, c]
    clear e1 e2
    by_cases d : al < bl
    · have d' : borB al bl = true := by simp [borB, d]
      go_enter Try.func27, Try.ntmps27
      go_wp2_with (go_at_call 18; refine (rless_any _ _ _ _ _ (by first | assumption | omega) (by first | assumption | omega) (by first | assumption | omega) (by first | assumption | omega) (by first | assumption | omega) (by first | assumption | omega) (by first | assumption | omega) (by first | assumption | omega)).mono ?_; rintro e w1 ⟨rfl, hb⟩; obtain ⟨q0, q1, g0, g1, z⟩ := ((Two.new _ _ _ _).below hb).at (k' := w.heap.size + 1 + 1) (by simp); obtain ⟨q2, q3, _, _, _⟩ := (((Two.new _ _ _ _).alloc _).below hb).at (k' := w.heap.size + 1) (by simp); obtain ⟨q4, q5, _, _, _⟩ := ((((Two.new _ _ _ _).alloc _).alloc _).below hb).at (k' := w.heap.size) (by simp); have hB : Below w.heap.size w w1 := Below.trans (by go_grown) (hb.mono (by simp; omega)); clear hb)
      exact bodyPost_ret (v := .tuple #[wide (lo64 (lo64 (ah - bh) - 1)) (lo64 (al - bl)), .bool true]) (by simp [results, Try.results27, go_sem, q0, q1, z]) rfl ⟨ret_wide2 (dif_hi1 h2 h2' h4 h4' d') (dif_lo _ _ _ _) rfl, by go_grown⟩
    · have d' : borB al bl = false := by simp [borB]; omega
      go_enter Try.func27, Try.ntmps27
      go_wp2_with (go_at_call 18; refine (rless_any _ _ _ _ _ (by first | assumption | omega) (by first | assumption | omega) (by first | assumption | omega) (by first | assumption | omega) (by first | assumption | omega) (by first | assumption | omega) (by first | assumption | omega) (by first | assumption | omega)).mono ?_; rintro e w1 ⟨rfl, hb⟩; obtain ⟨q0, q1, g0, g1, z⟩ := ((Two.new _ _ _ _).below hb).at (k' := w.heap.size + 1 + 1) (by simp); obtain ⟨q2, q3, _, _, _⟩ := (((Two.new _ _ _ _).alloc _).below hb).at (k' := w.heap.size + 1) (by simp); obtain ⟨q4, q5, _, _, _⟩ := ((((Two.new _ _ _ _).alloc _).alloc _).below hb).at (k' := w.heap.size) (by simp); have hB : Below w.heap.size w w1 := Below.trans (by go_grown) (hb.mono (by simp; omega)); clear hb)
      exact bodyPost_ret (v := .tuple #[wide (lo64 (ah - bh)) (lo64 (al - bl)), .bool true]) (by simp [results, Try.results27, go_sem, q0, q1, z]) rfl ⟨ret_wide2 (dif_hi0 h2 h2' h4 h4' d') (dif_lo _ _ _ _) rfl, by go_grown⟩

end Go.Proofs.Ytcjdfnfaiocdjaa
