/-
  Package plan: Parts.
-/
import Derived.Test.YtpdmpekkmblgmaaP5b
namespace Go.Proofs.Ytpdmpekkmblgmaa
open Go.ChangeShapes Go.WideShapes Go.ChangeAt Go.RowKit Go.Maps Go.Shelf
set_option linter.unusedVariables false
set_option linter.unusedSimpArgs false
attribute [local go_sem] Oper.semAt_some

set_option maxRecDepth 100000 in
set_option maxHeartbeats 400000 in
theorem parts_any (N : Nat) (a : Option Addr) (k cap : Nat) (l : List LK) (w : World) (hr : RdL w a k cap l) (hf : fit (N : Int) l = true) : Calls Try.prog 21 #[.int .i64 (N : Int), .slice a k cap] w fun e w' => ∃ a' c', e = .returned (.slice a' N c') ∧ Row w' a' N c' (partsL N l) ∧ Below w.heap.size w w' := by
  have HN : Hid (1 ≤ N ∧ N ≤ 16) := by
    obtain ⟨M, h1, h2, h3⟩ := few_nat (fit_few hf)
    show _ ∧ _
    omega
  have KF := fit_any (N : Int) a k cap l w hr
  rw [hf] at KF
  have KD := fun v W (hb : Below w.heap.size w W) => distances_any N a k cap l v W (hr.below hb) hf
  have KM := fun b zs W R => indexfunc_any b N zs W R (by have := HN.out; omega)
  clear hr hf
  go_enter Try.func21, Try.ntmps21
  go_wp2_with (go_at_call 14; refine KF.mono ?_; clear KF; rintro e w1 ⟨rfl, b1⟩)
  go_loopg [5, 12] N (fun gk v5 v12 wr => ∃ v : Nat, v12 = .int .i64 (v : Int) ∧ v + gk = N ∧ wr.ownsRow w.heap.size 3 1 v5 v (((partsL N l).take v).map iv) ∧ Below w.heap.size w wr)
  case atStart => exact ⟨0, by first | rfl | go_num, by omega, World.ownsRow_nil _ _ 3 1, b1⟩
  case round =>
    obtain ⟨v, rfl, hg, O, B⟩ := hrel
    obtain ⟨av, cv, rfl⟩ := owns_slice O
    by_cases hv : v < N
    case neg =>
      have hvI : ¬ (v : Int) < (N : Int) := by omega
      have hvn : v = N := by omega
      subst hvn
      have HT : Hid ((partsL v l).take v = partsL v l) := by show _ = _; rw [List.take_of_length_le (by rw [partsL_len]; exact Nat.le_refl _)]
      rw [HT.out] at O
      go_wp2
      go_ret
      exact ⟨_, _, rfl, owns_row O, B⟩
    case pos =>
      have hvI : (v : Int) < (N : Int) := by omega
      have hin : IntKind.i64.wrap ((v : Int) + 1) = (v : Int) + 1 := by rw [IntKind.wrap_i64]; have := HN.out; omega
      have K1 := KD (v : Int) wr B
      have HT : Hid (((partsL N l).take (v + 1)).map iv = ((partsL N l).take v).map iv ++ [iv (fst0 (dst N l (v : Int)))]) := by show _ = _; rw [partsL_take hv, List.map_append]; rfl
      have HL : Hid ((dst N l (v : Int)).length = N) := dst_len N l (v : Int)
      obtain ⟨D, hD⟩ : ∃ D, dst N l (v : Int) = D := ⟨_, rfl⟩
      rw [hD] at K1 HT HL
      obtain ⟨ys, hys⟩ : ∃ ys, ((partsL N l).take v).map iv = ys := ⟨_, rfl⟩
      rw [hys] at HT O
      obtain ⟨y, hy⟩ : ∃ y, fst0 D = y := ⟨_, rfl⟩
      have KM1 := fun b W R => KM b D W R
      rw [hy] at HT KM1
      have HB : Hid (Below w.heap.size w wr) := B
      clear hD hys hy KD KM
      go_wp2_with (first
        | (go_at_call 19; refine K1.mono ?_; clear K1; rintro e w2 ⟨g, rfl, hg, h2, b2⟩)
        | (go_at_call 40; refine (KM1 g w2 (row_block h2 HL.out (by have := HN.out; omega))).mono ?_; clear KM1; rintro e w3 ⟨rfl, hw3⟩; rw [hw3]; clear hw3 w3)
        | ((with_reducible show wpList _ _ _ (Oper.mk _ (Op.call { callee := Callee.builtin Builtin.append, args := _, argTypes := _ }) _ _ _ _ :: _) _ _); refine wpList_app_int rfl _ _ rfl w.heap.size (.slice av v cv) v ys rfl (owns_of_block O (fun g' hg' => (Below.heap_alloc _ _ _ (Nat.lt_of_lt_of_le (O.lt g' hg').2 b2.size)).trans (b2.block g' (O.lt g' hg').2))) ⟨w2.heap.size, 0, none⟩ y rfl (by intro j u hu; rw [add_plain, Nat.zero_add]; exact row_cell (World.alloc_heap_new w2 _) j u (by simpa using hu)) (by have := HN.out; omega) (by have := HB.out.size; have := b2.size; simp; omega) ?_; intro g3 c3 w4 r1 r2 r3))
      go_roundg (gk - 1)
      case measure => omega
      case rel => exact ⟨v + 1, by first | rfl | go_num, by omega, by rw [HT.out]; exact r1, ((HB.out.trans (b2.mono HB.out.size)).alloc (by have := HB.out.size; have := b2.size; omega) _).grown r2 (by have := HB.out.size; have := b2.size; simp; omega) (fun j e => (O.lt j e).1)⟩
end Go.Proofs.Ytpdmpekkmblgmaa
