/-
  The document: put.
-/
import Derived.Test.YtpdmpekkmblgmaaF2a
namespace Go.Proofs.Ytpdmpekkmblgmaa
open Go.ChangeShapes Go.WideShapes Go.ChangeAt Go.RowKit Go.Maps Go.Shelf
set_option linter.unusedVariables false
set_option linter.unusedSimpArgs false
attribute [local go_sem] Oper.semAt_some

set_option maxRecDepth 100000 in
set_option maxHeartbeats 1000000 in
theorem put_any (a : Option Addr) (k cap : Nat) (l : List LK) (x y : Int) (w : World) (hr : RdL w a k cap l) (hl : l.length ≤ 50000) : Calls Try.prog 56 #[.slice a k cap, .int .i64 x, .int .i64 y] w fun e w' => ∃ a' m c, e = .returned (.slice a' m c) ∧ RdL w' a' m c (putD l x y) ∧ Below w.heap.size w w' := by
  have HN : Hid (k ≤ 50000 ∧ l.length = k) := ⟨by rw [← hr.size]; exact hl, hr.size⟩
  obtain ⟨u, hu⟩ : ∃ u, min x y = u := ⟨_, rfl⟩
  obtain ⟨v, hv⟩ : ∃ v, max x y = v := ⟨_, rfl⟩
  have B1 := (Below.refl _ w).alloc (Nat.le_refl _) (.cells #[.int .i64 u, .int .i64 v] 49)
  have X1 := World.alloc_heap_new w (.cells #[.int .i64 u, .int .i64 v] 49)
  have KH := has_any a k cap l (u, v) (w.alloc (.cells #[.int .i64 u, .int .i64 v] 49)) (hr.below B1)
  by_cases hxy : x = y
  case pos =>
    have HE : Hid (putD l x y = l) := if_pos (.inl hxy)
    clear KH
    subst hxy
    go_enter Try.func56, Try.ntmps56
    go_wp2

    go_ret
    exact ⟨a, k, cap, rfl, by rw [HE.out]; exact hr.below B1, B1⟩
  case neg =>
    by_cases hm : (u, v) ∈ l
    case pos =>
      have HE : Hid (putD l x y = l) := if_pos (.inr (by rw [hu, hv]; exact hm))
      rw [decide_eq_true hm] at KH
      go_enter Try.func56, Try.ntmps56
      go_wp2_with (go_at_call 72; refine KH.mono ?_; clear KH; rintro e w5 ⟨rfl, b5⟩)
      go_ret
      exact ⟨a, k, cap, rfl, by rw [HE.out]; exact hr.below (B1.trans (b5.mono B1.size)), B1.trans (b5.mono B1.size)⟩
    case neg =>
      have HE : Hid (putD l x y = insL (u, v) l) := by show _ = _; unfold putD; rw [hu, hv, if_neg (by intro h; rcases h with h | h; exact hxy h; exact hm h)]
      rw [decide_eq_false hm] at KH
      have hxb : (x == y) = false := by simpa using hxy
      go_enter Try.func56, Try.ntmps56
      go_wp2_with (go_at_call 72; refine KH.mono ?_; clear KH; rintro e w5 ⟨rfl, b5⟩)
      have B5 := B1.trans (b5.mono B1.size)
      have X5 := (b5.block _ (row_lt X1)).trans X1
      have hr5 := hr.below B5
      have kx := fun X (h : Below w5.heap.size w5 X) => kx_of (x := (u, v)) X5 h
      have kx0 : ∀ X, Below w5.heap.size w5 X → X.cell? ⟨w.heap.size, 0, none⟩ = some (.int .i64 u) := fun X h => (cellsL (kx X h)).1
      have kx1 : ∀ X, Below w5.heap.size w5 X → X.cell? ⟨w.heap.size, 1, none⟩ = some (.int .i64 v) := fun X h => (cellsL (kx X h)).2
      clear b5 X5 X1 B1 hr hm hu hv hl
      go_loopg [8, 9, 10] k (fun gk v8 v9 v10 wr => ∃ (i : Nat) (dn : Bool) (out : List LK), v9 = .bool dn ∧ v10 = .int .i64 (i : Int) ∧ i + gk = k ∧ OwL w5 v8 out wr ∧ putI l (u, v) i dn out ∧ (dn = false → out.length ≤ i))
      case atStart => exact ⟨0, false, [], rfl, by first | rfl | go_num, by omega, OwL.nil w5, ⟨rfl, by simp⟩, fun _ => by simp⟩
      case round =>
        obtain ⟨i, dn, out, rfl, rfl, hg, O, hI, hF⟩ := hrel
        have HI : Hid (putI l (u, v) i dn out) := hI
        have HO : Hid (out.length ≤ 50001) := by show _ ≤ _; have := hI.2; have := HN.out; omega
        clear hI
        by_cases hi : i < k
        case pos =>
          have hiI : (i : Int) < (k : Int) := by omega
          have hin : IntKind.i64.wrap ((i : Int) + 1) = (i : Int) + 1 := by rw [IntKind.wrap_i64]; have := HN.out; omega
          obtain ⟨b, off, rfl, hb, hd, hra⟩ := hr5.at i hi
          obtain ⟨⟨p, q⟩, hp⟩ : ∃ x : LK, l.getD i LK.z = x := ⟨_, rfl⟩
          rw [hp] at hra hd
          have kc0 : ∀ X, Below w5.heap.size w5 X → X.cell? ⟨b, off + i * 2, none⟩ = some (.int .i64 p) := fun X h => (cellsL (range_later hra hb h)).1
          have kc1 : ∀ X, Below w5.heap.size w5 X → X.cell? ⟨b, off + i * 2 + 1, none⟩ = some (.int .i64 q) := fun X h => (cellsL (range_later hra hb h)).2
          clear hp
          cases dn with
          | true =>
            have HP : Hid (putI l (u, v) (i + 1) true (out ++ [(p, q)])) := putI_done HI.out hd
            clear hd hF
            go_wp2
            refine wp_region_qw (fun X => Below wr.heap.size wr X) (by kernel_rfl) (by kernel_rfl) (Below.refl _ _).drew ?_
            repeat (first
              | (refine QW.skip (by rfl) ?_; simp only [Act.put, List.setIfInBounds_toArray, List.set_cons_zero, List.set_cons_succ])
              | (refine QW.op (by rfl) ?_; apply Exists.intro; refine ⟨fun X hX => ?_, ?_⟩; (have s1 := hiI; have f0 := kc0 X (O.below.trans (hX.mono O.below.size)); have f1 := kc1 X (O.below.trans (hX.mono O.below.size)); have f2 := kx0 X (O.below.trans (hX.mono O.below.size)); have f3 := kx1 X (O.below.trans (hX.mono O.below.size)); go_simp <;> first | exact rfl); simp only [Act.put, List.setIfInBounds_toArray, List.set_cons_zero, List.set_cons_succ]))
            refine QW.nil ?_
            intro X hS
            have O2 := O.later hS
            clear hS
            go_wp2_with (first
              | ((with_reducible show wpList _ _ _ (Oper.mk (some 73) (Op.load 49 _) _ _ _ _ :: _) _ _); refine wpList_load49 rfl _ rfl b _ (p, q) rfl (range_later hra hb O2.below) ?_; dsimp only [LK.val])
              | ((with_reducible show wpList _ _ _ (Oper.mk _ (Op.call { callee := Callee.builtin Builtin.append, args := _, argTypes := _ }) _ _ _ _ :: _) _ _); refine wpList_app_l rfl _ _ rfl w5.heap.size _ _ _ rfl (O2.later ((Below.refl _ _).alloc (Nat.le_refl _) (.cells #[.int .i64 p, .int .i64 q] 49))).own ⟨_, 0, none⟩ (p, q) rfl (row_allocL (p, q) _ (by simp)) (by have := HO.out; omega) (Nat.le_trans O2.below.size (by simp)) ?_; intro g9 c9 w9 r1 r2 _; have O9 := (O2.later ((Below.refl _ _).alloc (Nat.le_refl _) (.cells #[.int .i64 p, .int .i64 q] 49))).more (p, q) r1 r2; clear r1 r2))
            go_roundg (gk - 1)
            case measure => omega
            case rel => exact ⟨i + 1, true, _, rfl, by first | rfl | go_num, by omega, O9, HP.out, fun h => by cases h⟩
          | false =>
            have HF : Hid (out.length ≤ i) := hF rfl
            clear hF
            by_cases h1 : u < p
            case pos =>
              have HP : Hid (putI l (u, v) (i + 1) true (out ++ [(u, v)] ++ [(p, q)])) := putI_put HI.out HF.out hd ((ltL_iff _ _).2 (.inl h1))
              clear hd
              go_wp2
              refine wp_region_qw (fun X => Below wr.heap.size wr X) (by kernel_rfl) (by kernel_rfl) (Below.refl _ _).drew ?_
              repeat (first
                | (refine QW.skip (by rfl) ?_; simp only [Act.put, List.setIfInBounds_toArray, List.set_cons_zero, List.set_cons_succ])
                | (refine QW.op (by rfl) ?_; apply Exists.intro; refine ⟨fun X hX => ?_, ?_⟩; (have s1 := hiI; have f0 := kc0 X (O.below.trans (hX.mono O.below.size)); have f1 := kc1 X (O.below.trans (hX.mono O.below.size)); have f2 := kx0 X (O.below.trans (hX.mono O.below.size)); have f3 := kx1 X (O.below.trans (hX.mono O.below.size)); have s3 := h1; go_simp <;> first | exact rfl); simp only [Act.put, List.setIfInBounds_toArray, List.set_cons_zero, List.set_cons_succ]))
              refine QW.nil ?_
              intro X hS
              have O2 := O.later hS
              clear hS
              go_wp2_with (first
                | ((with_reducible show wpList _ _ _ (Oper.mk (some 66) (Op.load 49 _) _ _ _ _ :: _) _ _); refine wpList_load49 rfl _ rfl w.heap.size 0 (u, v) rfl (kx _ O2.below) ?_; dsimp only [LK.val])
                | ((with_reducible show wpList _ _ _ (Oper.mk _ (Op.call { callee := Callee.builtin Builtin.append, args := _, argTypes := _ }) _ _ _ _ :: _) _ _); refine wpList_app_l rfl _ _ rfl w5.heap.size _ _ _ rfl (O2.later ((Below.refl _ _).alloc (Nat.le_refl _) (.cells #[.int .i64 u, .int .i64 v] 49))).own ⟨_, 0, none⟩ (u, v) rfl (row_allocL (u, v) _ (by simp)) (by have := HO.out; omega) (Nat.le_trans O2.below.size (by simp)) ?_; intro g9 c9 w9 r1 r2 _; have O3 := (O2.later ((Below.refl _ _).alloc (Nat.le_refl _) (.cells #[.int .i64 u, .int .i64 v] 49))).more (u, v) r1 r2; clear r1 r2)
                | ((with_reducible show wpList _ _ _ (Oper.mk (some 73) (Op.load 49 _) _ _ _ _ :: _) _ _); refine wpList_load49 rfl _ rfl b _ (p, q) rfl (range_later hra hb O3.below) ?_; dsimp only [LK.val])
                | ((with_reducible show wpList _ _ _ (Oper.mk _ (Op.call { callee := Callee.builtin Builtin.append, args := _, argTypes := _ }) _ _ _ _ :: _) _ _); refine wpList_app_l rfl _ _ rfl w5.heap.size _ _ _ rfl (O3.later ((Below.refl _ _).alloc (Nat.le_refl _) (.cells #[.int .i64 p, .int .i64 q] 49))).own ⟨_, 0, none⟩ (p, q) rfl (row_allocL (p, q) _ (by simp)) (by have := HO.out; simp; omega) (Nat.le_trans O3.below.size (by simp)) ?_; intro g9 c9 w9 r1 r2 _; have O8 := (O3.later ((Below.refl _ _).alloc (Nat.le_refl _) (.cells #[.int .i64 p, .int .i64 q] 49))).more (p, q) r1 r2; clear r1 r2))
              have O9 : OwL w5 (.slice (some ⟨g9, 0, none⟩) (out.length + 1 + 1) c9) (out ++ [(u, v)] ++ [(p, q)]) w9 := by have := O8; rw [List.length_append] at this; exact this
              go_roundg (gk - 1)
              case measure => omega
              case rel => exact ⟨i + 1, true, _, rfl, by first | rfl | go_num, by omega, O9, HP.out, fun h => by cases h⟩
            case neg =>
              by_cases h2 : p = u
              case neg =>
                have h2b : (p == u) = false := by simpa using h2
                have hdu : decide (u < p) = false := decide_eq_false h1
                have HP : Hid (putI l (u, v) (i + 1) false (out ++ [(p, q)])) := putI_on HI.out HF.out hd ((ltL_no _ _).2 (by show ¬ (u < p ∨ (u = p ∧ v < q)); omega))
                have HF2 : Hid ((out ++ [(p, q)]).length ≤ i + 1) := by show _ ≤ _; have := HF.out; simp; omega
                clear hd
                go_wp2
                refine wp_region_qw (fun X => Below wr.heap.size wr X) (by kernel_rfl) (by kernel_rfl) (Below.refl _ _).drew ?_
                repeat (first
                  | (refine QW.skip (by rfl) ?_; simp only [Act.put, List.setIfInBounds_toArray, List.set_cons_zero, List.set_cons_succ])
                  | (refine QW.op (by rfl) ?_; apply Exists.intro; refine ⟨fun X hX => ?_, ?_⟩; (have s1 := hiI; have f0 := kc0 X (O.below.trans (hX.mono O.below.size)); have f1 := kc1 X (O.below.trans (hX.mono O.below.size)); have f2 := kx0 X (O.below.trans (hX.mono O.below.size)); have f3 := kx1 X (O.below.trans (hX.mono O.below.size)); have s3 := hdu; have s4 := h2b; go_simp <;> first | exact rfl); simp only [Act.put, List.setIfInBounds_toArray, List.set_cons_zero, List.set_cons_succ]))
                refine QW.nil ?_
                intro X hS
                have O2 := O.later hS
                clear hS
                go_wp2_with (first
                  | ((with_reducible show wpList _ _ _ (Oper.mk (some 73) (Op.load 49 _) _ _ _ _ :: _) _ _); refine wpList_load49 rfl _ rfl b _ (p, q) rfl (range_later hra hb O2.below) ?_; dsimp only [LK.val])
                  | ((with_reducible show wpList _ _ _ (Oper.mk _ (Op.call { callee := Callee.builtin Builtin.append, args := _, argTypes := _ }) _ _ _ _ :: _) _ _); refine wpList_app_l rfl _ _ rfl w5.heap.size _ _ _ rfl (O2.later ((Below.refl _ _).alloc (Nat.le_refl _) (.cells #[.int .i64 p, .int .i64 q] 49))).own ⟨_, 0, none⟩ (p, q) rfl (row_allocL (p, q) _ (by simp)) (by have := HO.out; omega) (Nat.le_trans O2.below.size (by simp)) ?_; intro g9 c9 w9 r1 r2 _; have O9 := (O2.later ((Below.refl _ _).alloc (Nat.le_refl _) (.cells #[.int .i64 p, .int .i64 q] 49))).more (p, q) r1 r2; clear r1 r2))
                go_roundg (gk - 1)
                case measure => omega
                case rel => exact ⟨i + 1, false, _, rfl, by first | rfl | go_num, by omega, O9, HP.out, fun _ => HF2.out⟩
              case pos =>
                subst h2
                by_cases h3 : v < q
                case pos =>
                  have HP : Hid (putI l (p, v) (i + 1) true (out ++ [(p, v)] ++ [(p, q)])) := putI_put HI.out HF.out hd ((ltL_iff _ _).2 (.inr ⟨rfl, h3⟩))
                  clear hd
                  go_wp2
                  refine wp_region_qw (fun X => Below wr.heap.size wr X) (by kernel_rfl) (by kernel_rfl) (Below.refl _ _).drew ?_
                  repeat (first
                    | (refine QW.skip (by rfl) ?_; simp only [Act.put, List.setIfInBounds_toArray, List.set_cons_zero, List.set_cons_succ])
                    | (refine QW.op (by rfl) ?_; apply Exists.intro; refine ⟨fun X hX => ?_, ?_⟩; (have s1 := hiI; have f0 := kc0 X (O.below.trans (hX.mono O.below.size)); have f1 := kc1 X (O.below.trans (hX.mono O.below.size)); have f2 := kx0 X (O.below.trans (hX.mono O.below.size)); have f3 := kx1 X (O.below.trans (hX.mono O.below.size)); have s3 := h1; have s4 := h3; go_simp <;> first | exact rfl); simp only [Act.put, List.setIfInBounds_toArray, List.set_cons_zero, List.set_cons_succ]))
                  refine QW.nil ?_
                  intro X hS
                  have O2 := O.later hS
                  clear hS
                  go_wp2_with (first
                    | ((with_reducible show wpList _ _ _ (Oper.mk (some 66) (Op.load 49 _) _ _ _ _ :: _) _ _); refine wpList_load49 rfl _ rfl w.heap.size 0 (p, v) rfl (kx _ O2.below) ?_; dsimp only [LK.val])
                    | ((with_reducible show wpList _ _ _ (Oper.mk _ (Op.call { callee := Callee.builtin Builtin.append, args := _, argTypes := _ }) _ _ _ _ :: _) _ _); refine wpList_app_l rfl _ _ rfl w5.heap.size _ _ _ rfl (O2.later ((Below.refl _ _).alloc (Nat.le_refl _) (.cells #[.int .i64 p, .int .i64 v] 49))).own ⟨_, 0, none⟩ (p, v) rfl (row_allocL (p, v) _ (by simp)) (by have := HO.out; omega) (Nat.le_trans O2.below.size (by simp)) ?_; intro g9 c9 w9 r1 r2 _; have O3 := (O2.later ((Below.refl _ _).alloc (Nat.le_refl _) (.cells #[.int .i64 p, .int .i64 v] 49))).more (p, v) r1 r2; clear r1 r2)
                    | ((with_reducible show wpList _ _ _ (Oper.mk (some 73) (Op.load 49 _) _ _ _ _ :: _) _ _); refine wpList_load49 rfl _ rfl b _ (p, q) rfl (range_later hra hb O3.below) ?_; dsimp only [LK.val])
                    | ((with_reducible show wpList _ _ _ (Oper.mk _ (Op.call { callee := Callee.builtin Builtin.append, args := _, argTypes := _ }) _ _ _ _ :: _) _ _); refine wpList_app_l rfl _ _ rfl w5.heap.size _ _ _ rfl (O3.later ((Below.refl _ _).alloc (Nat.le_refl _) (.cells #[.int .i64 p, .int .i64 q] 49))).own ⟨_, 0, none⟩ (p, q) rfl (row_allocL (p, q) _ (by simp)) (by have := HO.out; simp; omega) (Nat.le_trans O3.below.size (by simp)) ?_; intro g9 c9 w9 r1 r2 _; have O8 := (O3.later ((Below.refl _ _).alloc (Nat.le_refl _) (.cells #[.int .i64 p, .int .i64 q] 49))).more (p, q) r1 r2; clear r1 r2))
                  have O9 : OwL w5 (.slice (some ⟨g9, 0, none⟩) (out.length + 1 + 1) c9) (out ++ [(p, v)] ++ [(p, q)]) w9 := by have := O8; rw [List.length_append] at this; exact this
                  go_roundg (gk - 1)
                  case measure => omega
                  case rel => exact ⟨i + 1, true, _, rfl, by first | rfl | go_num, by omega, O9, HP.out, fun h => by cases h⟩
                case neg =>
                  have hdv : decide (v < q) = false := decide_eq_false h3
                  have HP : Hid (putI l (p, v) (i + 1) false (out ++ [(p, q)])) := putI_on HI.out HF.out hd ((ltL_no _ _).2 (by show ¬ (p < p ∨ (p = p ∧ v < q)); omega))
                  have HF2 : Hid ((out ++ [(p, q)]).length ≤ i + 1) := by show _ ≤ _; have := HF.out; simp; omega
                  clear hd
                  go_wp2
                  refine wp_region_qw (fun X => Below wr.heap.size wr X) (by kernel_rfl) (by kernel_rfl) (Below.refl _ _).drew ?_
                  repeat (first
                    | (refine QW.skip (by rfl) ?_; simp only [Act.put, List.setIfInBounds_toArray, List.set_cons_zero, List.set_cons_succ])
                    | (refine QW.op (by rfl) ?_; apply Exists.intro; refine ⟨fun X hX => ?_, ?_⟩; (have s1 := hiI; have f0 := kc0 X (O.below.trans (hX.mono O.below.size)); have f1 := kc1 X (O.below.trans (hX.mono O.below.size)); have f2 := kx0 X (O.below.trans (hX.mono O.below.size)); have f3 := kx1 X (O.below.trans (hX.mono O.below.size)); have s3 := h1; have s4 := hdv; go_simp <;> first | exact rfl); simp only [Act.put, List.setIfInBounds_toArray, List.set_cons_zero, List.set_cons_succ]))
                  refine QW.nil ?_
                  intro X hS
                  have O2 := O.later hS
                  clear hS
                  go_wp2_with (first
                    | ((with_reducible show wpList _ _ _ (Oper.mk (some 73) (Op.load 49 _) _ _ _ _ :: _) _ _); refine wpList_load49 rfl _ rfl b _ (p, q) rfl (range_later hra hb O2.below) ?_; dsimp only [LK.val])
                    | ((with_reducible show wpList _ _ _ (Oper.mk _ (Op.call { callee := Callee.builtin Builtin.append, args := _, argTypes := _ }) _ _ _ _ :: _) _ _); refine wpList_app_l rfl _ _ rfl w5.heap.size _ _ _ rfl (O2.later ((Below.refl _ _).alloc (Nat.le_refl _) (.cells #[.int .i64 p, .int .i64 q] 49))).own ⟨_, 0, none⟩ (p, q) rfl (row_allocL (p, q) _ (by simp)) (by have := HO.out; omega) (Nat.le_trans O2.below.size (by simp)) ?_; intro g9 c9 w9 r1 r2 _; have O9 := (O2.later ((Below.refl _ _).alloc (Nat.le_refl _) (.cells #[.int .i64 p, .int .i64 q] 49))).more (p, q) r1 r2; clear r1 r2))
                  go_roundg (gk - 1)
                  case measure => omega
                  case rel => exact ⟨i + 1, false, _, rfl, by first | rfl | go_num, by omega, O9, HP.out, fun _ => HF2.out⟩
        case neg =>
          have hiI : ¬ (i : Int) < (k : Int) := by omega
          have hdr : l.drop i = [] := List.drop_eq_nil_of_le (by have := HN.out; omega)
          cases dn with
          | true =>
            have HZ : Hid (insL (u, v) l = out) := by have := HI.out.1; rw [if_pos rfl, hdr, List.append_nil] at this; exact this
            obtain ⟨a9, c9, rfl, R9⟩ := O.fin (by have := HO.out; omega)
            clear hdr hF
            go_wp2
            go_ret
            exact ⟨_, _, _, rfl, by rw [HE.out, HZ.out]; exact R9, B5.trans (O.below.mono B5.size)⟩
          | false =>
            have HZ : Hid (insL (u, v) l = out ++ [(u, v)]) := by have := HI.out.1; rw [if_neg (by decide), hdr] at this; exact this
            clear hdr hF
            go_wp2_with (first
              | ((with_reducible show wpList _ _ _ (Oper.mk (some 79) (Op.load 49 _) _ _ _ _ :: _) _ _); refine wpList_load49 rfl _ rfl w.heap.size 0 (u, v) rfl (kx _ O.below) ?_; dsimp only [LK.val])
              | ((with_reducible show wpList _ _ _ (Oper.mk _ (Op.call { callee := Callee.builtin Builtin.append, args := _, argTypes := _ }) _ _ _ _ :: _) _ _); refine wpList_app_l rfl _ _ rfl w5.heap.size _ _ _ rfl (O.later ((Below.refl _ _).alloc (Nat.le_refl _) (.cells #[.int .i64 u, .int .i64 v] 49))).own ⟨_, 0, none⟩ (u, v) rfl (row_allocL (u, v) _ (by simp)) (by have := HO.out; omega) (Nat.le_trans O.below.size (by simp)) ?_; intro g9 c9 w9 r1 r2 _; have O9 := (O.later ((Below.refl _ _).alloc (Nat.le_refl _) (.cells #[.int .i64 u, .int .i64 v] 49))).more (u, v) r1 r2; clear r1 r2))
            go_ret
            obtain ⟨a8, c8, e9, R9⟩ := O9.fin (by have := HO.out; simp; omega)
            exact ⟨a8, (out ++ [(u, v)]).length, c8, congrArg Ending.returned e9, by rw [HE.out, HZ.out]; exact R9, B5.trans (O9.below.mono B5.size)⟩
end Go.Proofs.Ytpdmpekkmblgmaa
