/-
  The document: Width; lists of numbers compared.
-/
import Derived.Test.YtpdmpekkmblgmaaD4
import Derived.Test.YtpdmpekkmblgmaaP5c
import Derived.Test.YtpdmpekkmblgmaaP5d
import Derived.Test.YtpdmpekkmblgmaaQL
import Derived.Test.YtpdmpekkmblgmaaPC
namespace Go.Proofs.Ytpdmpekkmblgmaa
open Go.ChangeShapes Go.WideShapes Go.ChangeAt Go.RowKit Go.Maps Go.Shelf
set_option linter.unusedVariables false
set_option linter.unusedSimpArgs false
attribute [local go_sem] Oper.semAt_some

set_option maxRecDepth 100000 in
set_option maxHeartbeats 1000000 in
theorem rwidth_any (N : Nat) (a : Option Addr) (k cap : Nat) (l : List LK) (w : World) (hr : RdL w a k cap l) (hf : fit (N : Int) l = true) : Calls Try.prog 24 #[.int .i64 (N : Int), .slice a k cap] w fun e w' => e = .returned (.int .i64 (widthL l N N)) ∧ Below w.heap.size w w' := by
  have HN : Hid (1 ≤ N ∧ N ≤ 16) := by
    obtain ⟨M, h1, h2, h3⟩ := few_nat (fit_few hf)
    show _ ∧ _
    omega
  have KD := fun v W (hb : Below w.heap.size w W) => rdistances_any N a k cap l v W (hr.below hb) hf
  clear hr hf
  go_enter Try.func24, Try.ntmps24
  go_wp2
  go_loopg [5, 6] N (fun gk v5 v6 wr => ∃ v : Nat, v5 = .int .i64 (widthL l N v) ∧ v6 = .int .i64 (v : Int) ∧ v + gk = N ∧ Below w.heap.size w wr)
  case atStart => exact ⟨0, rfl, by first | rfl | go_num, by omega, Below.refl _ _⟩
  case round =>
    obtain ⟨v, rfl, rfl, hg, B⟩ := hrel
    by_cases hv : v < N
    case neg =>
      have hvI : ¬ (v : Int) < (N : Int) := by omega
      have hvn : v = N := by omega
      subst hvn
      go_wp2
      go_ret
      exact ⟨rfl, B⟩
    case pos =>
      have hvI : (v : Int) < (N : Int) := by omega
      have HV : Hid (v < N) := hv
      have hin : IntKind.i64.wrap ((v : Int) + 1) = (v : Int) + 1 := by rw [IntKind.wrap_i64]; have := HN.out; omega
      have K1 := KD (v : Int) wr B
      have HT : Hid (widthL l N (v + 1) = mxs (widthL l N v) (dst N l (v : Int))) := rfl
      have HL : Hid ((dst N l (v : Int)).length = N) := dst_len N l (v : Int)
      obtain ⟨D, hD⟩ : ∃ D, dst N l (v : Int) = D := ⟨_, rfl⟩
      rw [hD] at K1 HT HL
      obtain ⟨q, hq⟩ : ∃ q, widthL l N v = q := ⟨_, rfl⟩
      rw [hq] at HT
      rw [hq]
      obtain ⟨g1, hg1e⟩ : ∃ g1, g1 = gk := ⟨_, rfl⟩
      clear hD hq KD
      go_wp2_with (go_at_call 20; refine K1.mono ?_; clear K1; rintro e w2 ⟨g, rfl, hg9, h2, b2⟩)
      have R2 := row_block h2 HL.out (by have := HN.out; omega)
      have HM : Hid (∀ k, k < N → w2.cell? ⟨g, k, none⟩ = some (.int .i64 (D.getD k 0))) := by
        show ∀ k, k < N → _
        intro k hk
        exact row_cell h2 k _ (by simp [List.getD_eq_getElem?_getD, show k < D.length by have := HL.out; omega])
      go_loopg [5, 8] N (fun gk v5 v8 wr => ∃ i : Nat, v5 = .int .i64 (mxs q (D.take i)) ∧ v8 = .int .i64 (i : Int) ∧ i + gk = N ∧ wr = w2)
      case atStart => exact ⟨0, by rw [List.take_zero]; rfl, by first | rfl | go_num, by omega, rfl⟩
      case round =>
        obtain ⟨i, rfl, rfl, hg2, rfl⟩ := hrel
        by_cases hi : i < N
        case neg =>
          have hiI : ¬ (i : Int) < (N : Int) := by omega
          have hT : D.take i = D := List.take_of_length_le (by have := HL.out; omega)
          rw [hT, ← HT.out]
          go_wp2
          go_roundg (g1 - 1)
          case measure => have := HV.out; omega
          case rel => exact ⟨v + 1, rfl, by first | rfl | go_num, by have := HV.out; omega, B.trans (b2.mono B.size)⟩
        case pos =>
          have hiI : (i : Int) < (N : Int) := by omega
          have h0 := HM.out i hi
          have HS : Hid (mxs q (D.take (i + 1)) = max (mxs q (D.take i)) (D.getD i 0)) := mxs_take q (by rw [HL.out]; exact hi)
          have hin2 : IntKind.i64.wrap ((i : Int) + 1) = (i : Int) + 1 := by rw [IntKind.wrap_i64]; have := HN.out; omega
          obtain ⟨m, hm⟩ : ∃ m, mxs q (D.take i) = m := ⟨_, rfl⟩
          obtain ⟨x, hx⟩ : ∃ x, D.getD i 0 = x := ⟨_, rfl⟩
          rw [hm, hx] at HS
          rw [hx] at h0
          rw [hm]
          clear hm hx
          go_wp2
          all_goals
            go_roundg (gk - 1)
            case measure => omega
            case rel => exact ⟨i + 1, by (rw [HS.out]; try (congr 1; omega)), by first | rfl | go_num, by omega, rfl⟩
set_option maxRecDepth 100000 in
set_option maxHeartbeats 1000000 in
theorem ints_any (a : Option Addr) (k cap : Nat) (xs : List Int) (a' : Option Addr) (k' cap' : Nat) (ys : List Int) (w : World) (hr : Row w a k cap xs) (hr' : Row w a' k' cap' ys) : Calls Try.prog 18 #[.slice a k cap, .slice a' k' cap'] w (EqP xs ys w) := by
  have HN : Hid (k ≤ 9223372036854775807) := hr.small
  have HL : Hid (xs.length = k ∧ ys.length = k') := ⟨hr.size, hr'.size⟩
  by_cases hk : k = k'
  case neg =>
    have hk' : ((k : Int) != (k' : Int)) = true := by simp only [bne_iff_ne]; omega
    have hk2 : ¬ (k : Int) = (k' : Int) := by omega
    have HE : Hid (xs ≠ ys) := fun e => by have := HL.out; rw [e] at this; omega
    go_enter Try.func18, Try.ntmps18
    go_wp2
    go_ret
    exact ⟨⟨false, rfl, ⟨fun h => (by cases h), fun h => (HE.out h).elim⟩, Below.refl _ _⟩⟩
  case pos =>
    subst hk
    go_enter Try.func18, Try.ntmps18
    go_wp2
    go_loopg [13] k (fun gk v13 wr => ∃ i : Nat, v13 = .int .i64 (i : Int) ∧ i + gk = k ∧ Below w.heap.size w wr ∧ xs.take i = ys.take i)
    case atStart => exact ⟨0, by first | rfl | go_num, by omega, Below.refl _ _, by simp⟩
    case round =>
      obtain ⟨i, rfl, hg, B, ht⟩ := hrel
      have HT : Hid (xs.take i = ys.take i) := ht
      clear ht
      by_cases hi : i < k
      case neg =>
        have HE : Hid (xs = ys) := by
          have := HT.out
          rw [List.take_of_length_le (by have := HL.out; omega), List.take_of_length_le (by have := HL.out; omega)] at this
          exact this
        have hin : ¬ (i : Int) < (k : Int) := by omega
        go_wp2
        go_ret
        exact ⟨⟨true, rfl, ⟨fun _ => HE.out, fun _ => rfl⟩, B⟩⟩
      case pos =>
        have hiI : (i : Int) < (k : Int) := by omega
        have HI : Hid (i < xs.length ∧ i < ys.length) := by show _ ∧ _; have := HL.out; omega
        have hin : IntKind.i64.wrap ((i : Int) + 1) = (i : Int) + 1 := by rw [IntKind.wrap_i64]; have := HN.out; omega
        obtain ⟨b, off, rfl, hb, hc⟩ := hr.mem.resolve_left (by omega)
        obtain ⟨b', off', rfl, hb', hc'⟩ := hr'.mem.resolve_left (by omega)
        have d0 := hc i hi
        have d0' := hc' i hi
        obtain ⟨p, hp⟩ : ∃ x : Int, xs.getD i 0 = x := ⟨_, rfl⟩
        obtain ⟨q, hq⟩ : ∃ x : Int, ys.getD i 0 = x := ⟨_, rfl⟩
        have HP : Hid (xs.getD i 0 = p ∧ ys.getD i 0 = q) := ⟨hp, hq⟩
        rw [hp] at d0
        rw [hq] at d0'
        have kc : ∀ X, Below wr.heap.size wr X → X.cell? ⟨b, off + i, none⟩ = some (.int .i64 p) := fun X h => ((B.trans (h.mono B.size)).cell (p := ⟨b, off + i, none⟩) hb).trans d0
        have kc' : ∀ X, Below wr.heap.size wr X → X.cell? ⟨b', off' + i, none⟩ = some (.int .i64 q) := fun X h => ((B.trans (h.mono B.size)).cell (p := ⟨b', off' + i, none⟩) hb').trans d0'
        clear hc hc' hp hq d0 d0'
        by_cases heq : p = q
        case neg =>
          have hne : (p != q) = true := by simpa using heq
          have HE : Hid (xs ≠ ys) := take_ne (i := i) (z := 0) (by rw [HP.out.1, HP.out.2]; exact heq)
          go_wp2
          refine wp_region_qw (fun X => Below wr.heap.size wr X) (by kernel_rfl) (by kernel_rfl) (Below.refl _ _).drew ?_
          repeat (first
            | (refine QW.skip (by rfl) ?_; simp only [Act.put, List.setIfInBounds_toArray, List.set_cons_zero, List.set_cons_succ])
            | (refine QW.val (.bool (p != q)) (by rfl) (fun X _ => exec_neq3 rfl p q rfl rfl X) ?_; simp only [Act.put, List.setIfInBounds_toArray, List.set_cons_zero, List.set_cons_succ]; rw [hne])
            | (refine QW.op (by rfl) ?_; apply Exists.intro; refine ⟨fun X hX => ?_, ?_⟩; (have s1 := hiI; have s2 := kc X hX; have s3 := kc' X hX; go_simp <;> first | exact rfl); simp only [Act.put, List.setIfInBounds_toArray, List.set_cons_zero, List.set_cons_succ]))
          refine QW.nil ?_
          intro X hS
          go_wp2
          go_ret
          exact ⟨⟨false, rfl, ⟨fun h => (by cases h), fun h => (HE.out h).elim⟩, B.trans (hS.mono B.size)⟩⟩
        case pos =>
          have HE : Hid (xs.take (i + 1) = ys.take (i + 1)) := take_eq (z := 0) HT.out HI.out.1 HI.out.2 (by rw [HP.out.1, HP.out.2]; exact heq)
          subst heq
          have hne : (p != p) = false := by simp
          go_wp2
          refine wp_region_qw (fun X => Below wr.heap.size wr X) (by kernel_rfl) (by kernel_rfl) (Below.refl _ _).drew ?_
          repeat (first
            | (refine QW.skip (by rfl) ?_; simp only [Act.put, List.setIfInBounds_toArray, List.set_cons_zero, List.set_cons_succ])
            | (refine QW.val (.bool (p != p)) (by rfl) (fun X _ => exec_neq3 rfl p p rfl rfl X) ?_; simp only [Act.put, List.setIfInBounds_toArray, List.set_cons_zero, List.set_cons_succ]; rw [hne])
            | (refine QW.op (by rfl) ?_; apply Exists.intro; refine ⟨fun X hX => ?_, ?_⟩; (have s1 := hiI; have s2 := kc X hX; have s3 := kc' X hX; go_simp <;> first | exact rfl); simp only [Act.put, List.setIfInBounds_toArray, List.set_cons_zero, List.set_cons_succ]))
          refine QW.nil ?_
          intro X hS
          go_wp2
          go_roundg (gk - 1)
          case measure => omega
          case rel => exact ⟨i + 1, by first | rfl | go_num, by omega, B.trans (hS.mono B.size), HE.out⟩
end Go.Proofs.Ytpdmpekkmblgmaa
