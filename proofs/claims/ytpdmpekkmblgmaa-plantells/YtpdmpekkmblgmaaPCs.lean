/-
  Lists of steps compared.
-/
import Derived.Test.YtpdmpekkmblgmaaPC
namespace Go.Proofs.Ytpdmpekkmblgmaa
open Go.ChangeShapes Go.WideShapes Go.ChangeAt Go.RowKit Go.Maps Go.Shelf
set_option linter.unusedVariables false
set_option linter.unusedSimpArgs false
attribute [local go_sem] Oper.semAt_some

set_option maxRecDepth 100000 in
set_option maxHeartbeats 1000000 in
theorem steps_any (a : Option Addr) (k cap : Nat) (xs : List SP) (a' : Option Addr) (k' cap' : Nat) (ys : List SP) (w : World) (hr : RdS w a k cap xs) (hr' : RdS w a' k' cap' ys) : Calls Try.prog 25 #[.slice a k cap, .slice a' k' cap'] w (EqP xs ys w) := by
  have HN : Hid (k ≤ 140737488355328) := hr.small
  have HL : Hid (xs.length = k ∧ ys.length = k') := ⟨hr.size, hr'.size⟩
  by_cases hk : k = k'
  case neg =>
    have hk' : ((k : Int) != (k' : Int)) = true := by simp; omega
    have hk2 : ¬ (k : Int) = (k' : Int) := by omega
    have HE : Hid (xs ≠ ys) := fun e => by have := HL.out; rw [e] at this; omega
    go_enter Try.func25, Try.ntmps25
    go_wp2
    go_ret
    exact ⟨⟨false, rfl, ⟨fun h => (by cases h), fun h => (HE.out h).elim⟩, Below.refl _ _⟩⟩
  case pos =>
    subst hk
    go_enter Try.func25, Try.ntmps25
    go_wp2
    go_loopg [13] k (fun gk v13 wr => ∃ i : Nat, v13 = .int .i64 (i : Int) ∧ i + gk = k ∧ Below w.heap.size w wr ∧ xs.take i = ys.take i)
    case atStart => exact ⟨0, by first | rfl | go_num, by omega, Below.refl _ _, by simp⟩
    case round =>
      obtain ⟨i, rfl, hg, B, ht⟩ := hrel
      have HT : Hid (xs.take i = ys.take i) := ht
      clear ht
      by_cases hi : i < k
      case neg =>
        have HE : Hid (xs = ys) := by
          have := HT.out
          rw [List.take_of_length_le (by have := HL.out; omega), List.take_of_length_le (by have := HL.out; omega)] at this
          exact this
        have hin : ¬ (i : Int) < (k : Int) := by omega
        go_wp2
        go_ret
        exact ⟨⟨true, rfl, ⟨fun _ => HE.out, fun _ => rfl⟩, B⟩⟩
      case pos =>
        have hiI : (i : Int) < (k : Int) := by omega
        have HI : Hid (i < xs.length ∧ i < ys.length) := by show _ ∧ _; have := HL.out; omega
        have hin : IntKind.i64.wrap ((i : Int) + 1) = (i : Int) + 1 := by rw [IntKind.wrap_i64]; have := HN.out; omega
        obtain ⟨b, off, rfl, hb, hd, hra⟩ := (hr.below B).at i hi
        obtain ⟨b', off', rfl, hb', hd', hra'⟩ := (hr'.below B).at i hi
        obtain ⟨p, hp⟩ : ∃ x : SP, xs.getD i SP.z = x := ⟨_, rfl⟩
        obtain ⟨q, hq⟩ : ∃ x : SP, ys.getD i SP.z = x := ⟨_, rfl⟩
        have HP : Hid (xs.getD i SP.z = p ∧ ys.getD i SP.z = q) := ⟨hp, hq⟩
        rw [hp] at hra
        rw [hq] at hra'
        clear hd hd' hp hq
        cases heq : eqS p q with
        | false =>
          have HE : Hid (xs ≠ ys) := take_ne (i := i) (z := SP.z) (by rw [HP.out.1, HP.out.2]; intro e; rw [(eqS_iff p q).2 e] at heq; cases heq)
          have BB := Below.refl wr.heap.size wr
          go_wp2
          refine wp_region_qw (fun X => Below wr.heap.size wr X) (by kernel_rfl) (by kernel_rfl) (Below.refl _ _).drew ?_
          repeat (first
            | (refine QW.skip (by rfl) ?_; simp only [Act.put, List.setIfInBounds_toArray, List.set_cons_zero, List.set_cons_succ])
            | (refine QW.val (SP.val p) (by rfl) (fun X hX => exec_load74 rfl b (off + i * 6) p rfl (range_later hra hb (BB.trans (hX.mono BB.size)))) ?_; simp only [Act.put, List.setIfInBounds_toArray, List.set_cons_zero, List.set_cons_succ])
            | (refine QW.val (SP.val q) (by rfl) (fun X hX => exec_load74 rfl b' (off' + i * 6) q rfl (range_later hra' hb' (BB.trans (hX.mono BB.size)))) ?_; simp only [Act.put, List.setIfInBounds_toArray, List.set_cons_zero, List.set_cons_succ])
            | (refine QW.val (.bool (!eqS p q)) (by rfl) (fun X _ => exec_neq74 rfl p q rfl rfl X) ?_; simp only [Act.put, List.setIfInBounds_toArray, List.set_cons_zero, List.set_cons_succ]; rw [heq])
            | (refine QW.op (by rfl) ?_; apply Exists.intro; refine ⟨fun X hX => ?_, ?_⟩; (have s1 := hiI; go_simp <;> first | exact rfl); simp only [Act.put, List.setIfInBounds_toArray, List.set_cons_zero, List.set_cons_succ]))
          refine QW.nil ?_
          intro X hS
          go_wp2
          go_ret
          exact ⟨⟨false, rfl, ⟨fun h => (by cases h), fun h => (HE.out h).elim⟩, B.trans (hS.mono B.size)⟩⟩
        | true =>
          have HE : Hid (xs.take (i + 1) = ys.take (i + 1)) := take_eq (z := SP.z) HT.out HI.out.1 HI.out.2 (by rw [HP.out.1, HP.out.2]; exact (eqS_iff p q).1 heq)
          have BB := Below.refl wr.heap.size wr
          go_wp2
          refine wp_region_qw (fun X => Below wr.heap.size wr X) (by kernel_rfl) (by kernel_rfl) (Below.refl _ _).drew ?_
          repeat (first
            | (refine QW.skip (by rfl) ?_; simp only [Act.put, List.setIfInBounds_toArray, List.set_cons_zero, List.set_cons_succ])
            | (refine QW.val (SP.val p) (by rfl) (fun X hX => exec_load74 rfl b (off + i * 6) p rfl (range_later hra hb (BB.trans (hX.mono BB.size)))) ?_; simp only [Act.put, List.setIfInBounds_toArray, List.set_cons_zero, List.set_cons_succ])
            | (refine QW.val (SP.val q) (by rfl) (fun X hX => exec_load74 rfl b' (off' + i * 6) q rfl (range_later hra' hb' (BB.trans (hX.mono BB.size)))) ?_; simp only [Act.put, List.setIfInBounds_toArray, List.set_cons_zero, List.set_cons_succ])
            | (refine QW.val (.bool (!eqS p q)) (by rfl) (fun X _ => exec_neq74 rfl p q rfl rfl X) ?_; simp only [Act.put, List.setIfInBounds_toArray, List.set_cons_zero, List.set_cons_succ]; rw [heq])
            | (refine QW.op (by rfl) ?_; apply Exists.intro; refine ⟨fun X hX => ?_, ?_⟩; (have s1 := hiI; go_simp <;> first | exact rfl); simp only [Act.put, List.setIfInBounds_toArray, List.set_cons_zero, List.set_cons_succ]))
          refine QW.nil ?_
          intro X hS
          go_wp2
          go_roundg (gk - 1)
          case measure => omega
          case rel => exact ⟨i + 1, by first | rfl | go_num, by omega, B.trans (hS.mono B.size), HE.out⟩
end Go.Proofs.Ytpdmpekkmblgmaa
