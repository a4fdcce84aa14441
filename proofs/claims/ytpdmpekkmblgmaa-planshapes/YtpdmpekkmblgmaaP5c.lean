/-
  Package plan: Width.
-/
import Derived.Test.YtpdmpekkmblgmaaP5b
namespace Go.Proofs.Ytpdmpekkmblgmaa
open Go.ChangeShapes Go.WideShapes Go.ChangeAt Go.RowKit Go.Maps Go.Shelf
set_option linter.unusedVariables false
set_option linter.unusedSimpArgs false
attribute [local go_sem] Oper.semAt_some

set_option maxRecDepth 100000 in
set_option maxHeartbeats 400000 in
theorem width_any (N : Nat) (a : Option Addr) (k cap : Nat) (l : List LK) (w : World) (hr : RdL w a k cap l) (hf : fit (N : Int) l = true) : Calls Try.prog 23 #[.int .i64 (N : Int), .slice a k cap] w fun e w' => e = .returned (.int .i64 (widthL l N N)) ∧ Below w.heap.size w w' := by
  have HN : Hid (1 ≤ N ∧ N ≤ 16) := by
    obtain ⟨M, h1, h2, h3⟩ := few_nat (fit_few hf)
    show _ ∧ _
    omega
  have KF := fit_any (N : Int) a k cap l w hr
  rw [hf] at KF
  have KD := fun v W (hb : Below w.heap.size w W) => distances_any N a k cap l v W (hr.below hb) hf
  have KM := fun b zs W R => max_any b N zs W R (by have := HN.out; omega) HN.out.1
  clear hr hf
  go_enter Try.func23, Try.ntmps23
  go_wp2_with (go_at_call 14; refine KF.mono ?_; clear KF; rintro e w1 ⟨rfl, b1⟩)
  go_loopg [5, 12] N (fun gk v5 v12 wr => ∃ v : Nat, v5 = .int .i64 (widthL l N v) ∧ v12 = .int .i64 (v : Int) ∧ v + gk = N ∧ Below w.heap.size w wr)
  case atStart => exact ⟨0, rfl, by first | rfl | go_num, by omega, b1⟩
  case round =>
    obtain ⟨v, rfl, rfl, hg, B⟩ := hrel
    by_cases hv : v < N
    case neg =>
      have hvI : ¬ (v : Int) < (N : Int) := by omega
      have hvn : v = N := by omega
      subst hvn
      go_wp2
      go_ret
      exact ⟨rfl, B⟩
    case pos =>
      have hvI : (v : Int) < (N : Int) := by omega
      have hin : IntKind.i64.wrap ((v : Int) + 1) = (v : Int) + 1 := by rw [IntKind.wrap_i64]; have := HN.out; omega
      have K1 := KD (v : Int) wr B
      have HT : Hid (widthL l N (v + 1) = max (widthL l N v) (mxs ((dst N l (v : Int)).getD 0 0) (dst N l (v : Int)))) := by
        show _ = _
        rw [mxs_self (by rw [dst_len]; have := HN.out; omega)]
        rfl
      have HL : Hid ((dst N l (v : Int)).length = N) := dst_len N l (v : Int)
      obtain ⟨D, hD⟩ : ∃ D, dst N l (v : Int) = D := ⟨_, rfl⟩
      rw [hD] at K1 HT HL
      obtain ⟨q, hq⟩ : ∃ q, widthL l N v = q := ⟨_, rfl⟩
      rw [hq] at HT
      rw [hq]
      obtain ⟨y, hy⟩ : ∃ y, mxs (D.getD 0 0) D = y := ⟨_, rfl⟩
      have KM1 := fun b W R => KM b D W R
      rw [hy] at HT KM1
      clear hD hq hy KD KM
      go_wp2_with (first
        | (go_at_call 19; refine K1.mono ?_; clear K1; rintro e w2 ⟨g, rfl, hg, h2, b2⟩)
        | (go_at_call 42; refine (KM1 g w2 (row_block h2 HL.out (by have := HN.out; omega))).mono ?_; clear KM1; rintro e w3 ⟨rfl, hw3⟩; rw [hw3]; clear hw3 w3))
      all_goals
        go_roundg (gk - 1)
        case measure => omega
        case rel => exact ⟨v + 1, by rw [HT.out]; congr 1; omega, by first | rfl | go_num, by omega, B.trans (b2.mono B.size)⟩
end Go.Proofs.Ytpdmpekkmblgmaa
