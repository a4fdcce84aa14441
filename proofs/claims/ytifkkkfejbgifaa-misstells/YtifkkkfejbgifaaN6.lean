/-
  Package miss: lists of numbers compared; the chapter's examples, which every statement calls at its end.
-/
import Derived.Test.YtifkkkfejbgifaaN5
namespace Go.Proofs.Ytifkkkfejbgifaa
open Go.ChangeShapes Go.WideShapes Go.ChangeAt Go.RowKit
set_option linter.unusedVariables false
set_option linter.unusedSimpArgs false

set_option maxRecDepth 100000 in
set_option maxHeartbeats 4000000 in
theorem ints_same (a : Option Addr) (len cap : Nat) (a' : Option Addr) (cap' : Nat) (zs : List Int) (w : World) (R : Row w a len cap zs) (R' : Row w a' len cap' zs) : Calls Try.prog 22 #[.slice a len cap, .slice a' len cap'] w fun e w' => e = .returned (.bool true) ∧ Below w.heap.size w w' := by
  have HM : Hid (len ≤ 9223372036854775807) := R.small
  go_enter Try.func22, Try.ntmps22
  go_wp2
  go_loopg [13] len (fun gk v13 wr => ∃ k : Nat, v13 = .int .i64 (k : Int) ∧ k + gk = len ∧ Below w.heap.size w wr)
  case atStart => exact ⟨0, by first | rfl | go_num, by omega, Below.refl _ _⟩
  case round =>
    obtain ⟨k, rfl, hgk, B⟩ := hrel
    have HG : Hid (k + gk = len) := hgk
    by_cases hk : k < len
    · obtain ⟨b, off, rfl, hb, hc⟩ := (R.below B).mem.resolve_left (by omega)
      obtain ⟨b', off', rfl, hb', hc'⟩ := (R'.below B).mem.resolve_left (by omega)
      have c0 := hc k hk
      have c1 := hc' k hk
      have hkI : (k : Int) < (len : Int) := by omega
      have HK : Hid (k < len) := hk
      obtain ⟨x, hx⟩ : ∃ x, zs.getD k 0 = x := ⟨_, rfl⟩
      rw [hx] at c0 c1
      have hwr : IntKind.i64.wrap ((k : Int) + 1) = (k : Int) + 1 := by rw [IntKind.wrap_i64]; have := HM.out; omega
      clear hx hc hc' hgk hk hb hb'
      go_wp2
      refine wp_region_any (by kernel_rfl) ?_
      change wpAny _ _ _ _ _ _ _ (World.drew _)
      refine wpAny_narrow (fun W' => W'.cell? ⟨b, off + k, none⟩ = some (.int .i64 x) ∧ W'.cell? ⟨b', off' + k, none⟩ = some (.int .i64 x)) _ _ _ _ ?_
      refine anyH_take 0 16 (.slice (some ⟨b, off, none⟩) len cap) rfl rfl (by kernel_rfl) (by kernel_rfl) (by kernel_rfl) (fun _ _ _ h => h) (Or.inl ⟨by rfl, by intro w hSw; go_simp⟩) (⟨c0, c1⟩) ?_
      try simp only [Act.put, List.setIfInBounds_toArray, List.set_cons_zero, List.set_cons_succ]
      refine anyH_take 1 17 (.int .i64 (k : Int)) rfl rfl (by kernel_rfl) (by kernel_rfl) (by kernel_rfl) (fun _ _ _ h => h) (Or.inl ⟨by rfl, by intro w hSw; go_simp⟩) (⟨c0, c1⟩) ?_
      try simp only [Act.put, List.setIfInBounds_toArray, List.set_cons_zero, List.set_cons_succ]
      refine anyH_take 2 18 (.pointer (some ⟨b, off + k, none⟩)) rfl rfl (by kernel_rfl) (by kernel_rfl) (by kernel_rfl) (fun _ _ _ h => h) (Or.inl ⟨by rfl, by intro w hSw; go_simp⟩) (⟨c0, c1⟩) ?_
      try simp only [Act.put, List.setIfInBounds_toArray, List.set_cons_zero, List.set_cons_succ]
      refine anyH_take 3 19 (.int .i64 x) rfl rfl (by kernel_rfl) (by kernel_rfl) (by kernel_rfl) (fun _ _ _ h => h) (Or.inl ⟨by rfl, by intro w hSw; have s1 := hSw.1; go_simp⟩) (⟨c0, c1⟩) ?_
      try simp only [Act.put, List.setIfInBounds_toArray, List.set_cons_zero, List.set_cons_succ]
      refine anyH_take 4 20 (.slice (some ⟨b', off', none⟩) len cap') rfl rfl (by kernel_rfl) (by kernel_rfl) (by kernel_rfl) (fun _ _ _ h => h) (Or.inl ⟨by rfl, by intro w hSw; go_simp⟩) (⟨c0, c1⟩) ?_
      try simp only [Act.put, List.setIfInBounds_toArray, List.set_cons_zero, List.set_cons_succ]
      refine anyH_take 5 21 (.int .i64 (k : Int)) rfl rfl (by kernel_rfl) (by kernel_rfl) (by kernel_rfl) (fun _ _ _ h => h) (Or.inl ⟨by rfl, by intro w hSw; go_simp⟩) (⟨c0, c1⟩) ?_
      try simp only [Act.put, List.setIfInBounds_toArray, List.set_cons_zero, List.set_cons_succ]
      refine anyH_take 6 22 (.pointer (some ⟨b', off' + k, none⟩)) rfl rfl (by kernel_rfl) (by kernel_rfl) (by kernel_rfl) (fun _ _ _ h => h) (Or.inl ⟨by rfl, by intro w hSw; go_simp⟩) (⟨c0, c1⟩) ?_
      try simp only [Act.put, List.setIfInBounds_toArray, List.set_cons_zero, List.set_cons_succ]
      refine anyH_take 7 23 (.int .i64 x) rfl rfl (by kernel_rfl) (by kernel_rfl) (by kernel_rfl) (fun _ _ _ h => h) (Or.inl ⟨by rfl, by intro w hSw; have s1 := hSw.2; go_simp⟩) (⟨c0, c1⟩) ?_
      try simp only [Act.put, List.setIfInBounds_toArray, List.set_cons_zero, List.set_cons_succ]
      refine anyH_take 8 24 (.bool false) rfl rfl (by kernel_rfl) (by kernel_rfl) (by kernel_rfl) (fun _ _ _ h => h) (Or.inl ⟨by rfl, by intro w hSw; go_simp⟩) (⟨c0, c1⟩) ?_
      try simp only [Act.put, List.setIfInBounds_toArray, List.set_cons_zero, List.set_cons_succ]
      refine wpAnyH_done (by kernel_rfl) ?_ _
      go_wp2
      go_roundg (gk - 1)
      case measure => have := HG.out; have := HK.out; omega
      case rel => exact ⟨k + 1, by first | rfl | go_num, by have := HG.out; have := HK.out; omega, B.drew⟩
    · have hkI : ¬ (k : Int) < (len : Int) := by omega
      clear hgk hk
      go_wp2
      go_ret
      exact ⟨rfl, B⟩

abbrev h5 : HS := ⟨5, 1, 0, [], false, 0⟩
theorem ex_play : plL h5 [1, 1, 3, 1, 1, 1, 1] = (HS.z, [1, 1, 1, 1, 2]) := by rfl
theorem rd_nil (W : World) (h : HS) (e : h.ls = []) : RdO W h none 0 := by
  unfold RdO
  rw [e]
  exact rdL_nil W
set_option maxRecDepth 100000 in
set_option maxHeartbeats 4000000 in
theorem awake_any (w : World) : Calls Try.prog 8 #[] w fun e w' => e = .returned (.bool true) ∧ Below w.heap.size w w' := by
  have K1 : ∀ W, Row W (some ⟨w.heap.size, 0, none⟩) 7 7 [1, 1, 3, 1, 1, 1, 1] → Calls Try.prog 20 #[.agg #[.int .i64 5, .int .i64 1, .int .i64 0, .slice none 0 0, .bool false, .int .i64 0], .slice (some ⟨w.heap.size, 0, none⟩) 7 7] W fun e w' => ∃ a' c' b' d', e = .returned (.tuple #[(HS.z.on a' c').val, .slice b' 5 d']) ∧ Own W.heap.size w' HS.z a' c' ∧ Row w' b' 5 d' [1, 1, 1, 1, 2] ∧ Below W.heap.size W w' := fun W R => by
    have h := mplay_any h5 none 0 _ 7 [1, 1, 3, 1, 1, 1, 1] W (rd_nil W h5 rfl) R (by decide) ⟨Int.le_refl _, by decide⟩
    rw [ex_play] at h
    exact h
  have K2 : ∀ W a c, RdO W HS.z a c → Calls Try.prog 11 #[(HS.z.on a c).val, .agg #[.int .i64 0, .int .i64 0, .int .i64 0, .slice none 0 0, .bool false, .int .i64 0]] W fun e w' => e = .returned (.bool true) ∧ Below W.heap.size W w' := fun W a c R => by
    have h := same_any HS.z HS.z a none c 0 W R (rd_nil W HS.z rfl)
    rw [eq1_self] at h
    exact h
  have K3 : ∀ W, Calls Try.prog 12 #[.agg #[.int .i64 5, .int .i64 1, .int .i64 0, .slice none 0 0, .bool false, .int .i64 0]] W fun e w' => e = .returned (.int .i64 4) ∧ Below W.heap.size W w' := fun W => left_any h5 none 0 W ⟨Int.le_refl _, by decide⟩
  go_enter Try.func8, Try.ntmps8
  go_wp2_with (first
    | (go_at_call 20; refine (K1 _ (row_lit w [1, 1, 3, 1, 1, 1, 1] (by decide))).mono ?_; clear K1; rintro e w1 ⟨a1, c1, b1, d1, rfl, O1, R1, b1'⟩; have B1 : Below w.heap.size w w1 := ((Below.refl _ w).alloc (Nat.le_refl _) _).trans (b1'.mono (by simp)); clear b1')
    | ((with_reducible show wpList _ _ _ (Oper.mk _ (Op.store 24 (Operand.tmp 1) _) _ _ _ _ :: _) _ _); refine wpList_put24 rfl _ _ rfl (HS.z.on a1 c1) (g := w1.heap.size) (cs := z6) (heap_new rfl) rfl rfl rfl ?_; intro w2 T2 o2 z2; have HZ2 : Hid (w2.heap.size = (w1.alloc (.cells z6 24)).heap.size) := z2; clear z2; have e2 : Below w1.heap.size w1 (w1.alloc (.cells z6 24)) := (Below.refl _ _).alloc (Nat.le_refl _) _; have b2 : Below w1.heap.size w1 w2 := e2.trans (o2.below e2.size (fun q hq => by cases hq; exact Nat.le_refl _)); have R2 := R1.below b2; have X2 : RdO w2 HS.z a1 c1 := (O1.rd (by decide)).below b2; have B2 := B1.trans (b2.mono B1.size); clear b2 e2 o2 R1 O1)
    | ((with_reducible show wpList _ _ _ (Oper.mk _ (Op.load 24 (Operand.tmp 1)) _ _ _ _ :: _) _ _); refine wpList_load24 rfl _ rfl w1.heap.size 0 (HS.z.on a1 c1) rfl (range_rowH T2) ?_)
    | (go_at_call 11; refine (K2 _ a1 c1 X2).mono ?_; clear K2 X2; rintro e w3 ⟨rfl, b3⟩; have R3 := R2.below b3; have B3 := B2.trans (b3.mono B2.size); clear R2 b3)
    | (go_at_call 22; refine (ints_same b1 5 d1 _ 5 [1, 1, 1, 1, 2] _ (R3.below ((Below.refl _ w3).alloc (Nat.le_refl _) _)) (row_lit w3 [1, 1, 1, 1, 2] (by decide))).mono ?_; clear R3; rintro e w4 ⟨rfl, b4⟩; have B4 : Below w.heap.size w w4 := (B3.alloc B3.size _).trans (b4.mono (by have := B3.size; simp; omega)); clear b4)
    | (go_at_call 12; refine (K3 _).mono ?_; clear K3; rintro e w5 ⟨rfl, b5⟩; have B5 := B4.trans (b5.mono B4.size); clear b5))
  go_ret
  exact ⟨rfl, B5⟩
end Go.Proofs.Ytifkkkfejbgifaa
