/-
  Writing a field (putField).
-/
import Derived.Test.YticmjlnpjopfbaaDoorCFit
namespace Go.Proofs.YticmjlnpjopfbaaDoor.C
open Go.ChangeShapes Go.WideShapes Go.ChangeAt Go.RowKit
set_option linter.unusedVariables false

/-- The bytes of a field that is as its kind has it. -/
def encFld (k n : Int) (s : ByteArray) (b : Bool) : List Int :=
  if k = 1 then enc n else if k = 2 then enc (sg n) else if k = 3 then txt s else flg b
theorem fit_kind {k n : Int} {s : ByteArray} {b : Bool} (h : fitB k n s b = true) : k = 1 ∨ k = 2 ∨ k = 3 ∨ k = 4 := by
  unfold fitB at h
  by_cases k1 : k = 1
  · exact .inl k1
  · by_cases k2 : k = 2
    · exact .inr (.inl k2)
    · by_cases k3 : k = 3
      · exact .inr (.inr (.inl k3))
      · by_cases k4 : k = 4
        · exact .inr (.inr (.inr k4))
        · simp [k1, k2, k3, k4] at h
theorem fit_pos {n : Int} {s : ByteArray} {b : Bool} (h : fitB 1 n s b = true) : 0 ≤ n := by
  simp [fitB] at h
  exact h.1.1

theorem below_box {base : Nat} {w w' : World} {o : Obj} (h : Below base (w.alloc o) w') (hb : base ≤ w.heap.size) : Below base w w' := ((Below.refl _ _).alloc hb o).trans h

set_option maxHeartbeats 1000000 in
theorem putField_any (base : Nat) (v : Value) (zs : List Int) (k n : Int) (s : ByteArray) (b : Bool) (w : World) (h : Own base w v zs) (hb : base ≤ w.heap.size) (hl : zs.length + s.size ≤ 70368744170000)
    (n0 : -9223372036854775808 ≤ n) (n1 : n ≤ 9223372036854775807) (hf : fitB k n s b = true) :
    Calls Tryd.prog 58 #[v, fv k n s b] w fun e w' => ∃ v', e = .returned v' ∧ Own base w' v' (zs ++ encFld k n s b) ∧ Below base w w' := by
  obtain ⟨s0, s1⟩ := sg_bd n0 n1
  rcases fit_kind hf with rfl | rfl | rfl | rfl
  · have hn := fit_pos hf
    have E : encFld 1 n s b = enc n := by simp [encFld]
    rw [E]
    clear hf E
    go_enter Tryd.func58, Tryd.ntmps58
    go_wp2_with (go_at_call 78; refine (putNumber_any base _ _ _ _ (h.alloc _) (by simp; omega) (by omega) (by omega) (by omega)).mono ?_; rintro e w1 ⟨v1, rfl, ho1, hb1⟩)
    go_ret
    exact ⟨_, rfl, ho1, below_box hb1 hb⟩
  · have E : encFld 2 n s b = enc (sg n) := by simp [encFld]
    rw [E]
    clear hf E
    go_enter Tryd.func58, Tryd.ntmps58
    go_wp2_with (first
      | (go_at_call 79; refine (fold_any _ _ n0 n1).mono ?_; rintro e w' ⟨rfl, hw⟩; rw [hw]; clear hw)
      | (go_at_call 78; refine (putNumber_any base _ _ _ _ (h.alloc _) (by simp; omega) (by omega) s0 s1).mono ?_; rintro e w1 ⟨v1, rfl, ho1, hb1⟩))
    go_ret
    exact ⟨_, rfl, ho1, below_box hb1 hb⟩
  · have E : encFld 3 n s b = txt s := by simp [encFld]
    rw [E]
    clear hf E
    go_enter Tryd.func58, Tryd.ntmps58
    go_wp2_with (go_at_call 80; refine (putText_any base _ _ _ _ (h.alloc _) (by simp; omega) (by omega)).mono ?_; rintro e w1 ⟨v1, rfl, ho1, hb1⟩)
    go_ret
    exact ⟨_, rfl, ho1, below_box hb1 hb⟩
  · have E : encFld 4 n s b = flg b := by simp [encFld]
    rw [E]
    clear hf E
    go_enter Tryd.func58, Tryd.ntmps58
    go_wp2_with (go_at_call 81; refine (putFlag_any base _ _ _ _ (h.alloc _) (by simp; omega) (by omega)).mono ?_; rintro e w1 ⟨v1, rfl, ho1, hb1⟩)
    go_ret
    exact ⟨_, rfl, ho1, below_box hb1 hb⟩

end Go.Proofs.YticmjlnpjopfbaaDoor.C
