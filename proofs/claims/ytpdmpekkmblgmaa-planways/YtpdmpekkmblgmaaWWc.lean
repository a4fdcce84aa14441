/-
  The law: PlanWays.
-/
import Derived.Test.YtpdmpekkmblgmaaWWm
import Derived.Test.YtpdmpekkmblgmaaP5c
import Derived.Test.YtpdmpekkmblgmaaP5d
import Derived.Test.YtpdmpekkmblgmaaPC
import Derived.Test.YtpdmpekkmblgmaaX0
import Derived.Test.YtpdmpekkmblgmaaXI
namespace Go.Proofs.Ytpdmpekkmblgmaa
open Go.ChangeShapes Go.WideShapes Go.ChangeAt Go.RowKit Go.Maps Go.Shelf
set_option linter.unusedVariables false
set_option linter.unusedSimpArgs false
attribute [local go_sem] Oper.semAt_some

theorem owns_sliceR {w : World} {base : Nat} {v : Value} {n : Nat} {xs : List Value} (h : w.ownsRow base 36 1 v n xs) : ∃ a c, v = .slice a n c := by
  rcases h.2 with ⟨e, h1⟩ | ⟨g, cap, cur, e, _⟩
  · exact ⟨none, 0, by rw [e, h1]⟩
  · exact ⟨_, _, e⟩
theorem cellsW {W : World} {b o : Nat} {p q : Int} (h : W.rangeAt b o (LK.cells (p, q))) : W.cell? ⟨b, o, none⟩ = some (.int .i64 p) ∧ W.cell? ⟨b, o + 1, none⟩ = some (.int .i64 q) := ⟨h 0 _ rfl, h 1 _ rfl⟩
theorem exec_eql3 {o : Oper} {ρ : Operand → Value} {p q : Operand} (ho : o.op = .binOp .eql 3 p q 3) (x y : Int) (hx : ρ p = .int .i64 x) (hy : ρ q = .int .i64 y) (X : World) : (execOp ρ o).run Try.prog X = .ok (.value (.bool (x == y))) X := by
  unfold execOp
  simp only [ho, hx, hy]
  go_simp
theorem ownsR_some {w : World} {base : Nat} {v : Value} {n : Nat} {xs : List Value} (h : w.ownsRow base 36 1 v n xs) (hn : 0 < n) : ∃ g c, v = .slice (some ⟨g, 0, none⟩) n c := by
  rcases h.2 with ⟨e, h1⟩ | ⟨g, cap, cur, e, _⟩
  · omega
  · exact ⟨_, _, e⟩
theorem OwD.far {N : Nat} {l : List LK} {w : World} {b cap n : Nat} {gs : List Nat} {W : World} (h : OwD N l w (.slice (some ⟨b, 0, none⟩) n cap) gs W) {u : Nat} (hu : u < gs.length) : ∃ r, ∀ X, Below W.heap.size W X → X.cell? ⟨b, u, none⟩ = some (.slice (some ⟨r, 0, none⟩) N N) ∧ ∀ j, j < N → X.cell? ⟨r, j, none⟩ = some (.int .i64 ((dst N l (u : Int)).getD j 0)) :=
  ⟨_, fun X hX => ⟨(h.later hX).cell hu, fun j hj => (h.later hX).at hu hj⟩⟩
set_option maxRecDepth 100000 in
set_option maxHeartbeats 4000000 in
theorem ways_core (n : Int) (a : Option Addr) (k cap : Nat) (l : List LK) (w : World) (hr : RdL w a k cap l)
    (KF : Calls Try.prog 15 #[.int .i64 n, .slice a k cap] w fun e w' => e = .returned (.bool (fit n l)) ∧ Below w.heap.size w w')
    (KA : ∀ W, Calls Try.prog 13 #[] W fun e w' => e = .returned (.bool true) ∧ Below W.heap.size W w') :
    Calls Try.prog 7 #[.int .i64 n, .slice a k cap] w fun e w' => e = .returned (.bool true) ∧ Below w.heap.size w w' := by
  cases hf : fit n l with
  | false =>
    rw [hf] at KF
    clear hr hf
    go_enter Try.func7, Try.ntmps7
    go_wp2_with (first
      | (go_at_call 15; refine KF.mono ?_; clear KF; rintro e w1 ⟨rfl, b1⟩)
      | (go_at_call 13; refine (KA _).mono ?_; clear KA; rintro e w2 ⟨rfl, b2⟩))
    go_ret
    exact ⟨rfl, b1.trans (b2.mono b1.size)⟩
  | true =>
    rw [hf] at KF
    obtain ⟨N, rfl, h1, h2⟩ := few_nat (fit_few hf)
    have HN : Hid (1 ≤ N ∧ N ≤ 16) := ⟨h1, h2⟩
    have HR : Hid (rises (N : Int) l = true) := fit_rises hf
    have HK : Hid (k ≤ 140737488355328 ∧ l.length = k) := ⟨hr.small, hr.size⟩
    have KD := fun v W (b : Below w.heap.size w W) => distances_any N a k cap l v W (hr.below b) hf
    have KP := fun W (b : Below w.heap.size w W) => parts_any N a k cap l W (hr.below b) hf
    have KW := fun W (b : Below w.heap.size w W) => width_any N a k cap l W (hr.below b) hf
    have HRD : Hid (RdL w a k cap l) := hr
    clear hr hf h1 h2
    go_enter Try.func7, Try.ntmps7
    go_wp2_with (go_at_call 15; refine KF.mono ?_; clear KF; rintro e w1 ⟨rfl, b1⟩)
    go_loopg [5, 21] N (fun gk v5 v21 wr => ∃ (i : Nat) (gs : List Nat), v21 = .int .i64 (i : Int) ∧ i + gk = N ∧ gs.length = i ∧ OwD N l w v5 gs wr)
    case atStart => exact ⟨0, [], by first | rfl | go_num, by omega, rfl, (OwD.nil N l w).later b1⟩
    case round =>
      obtain ⟨i, gs, rfl, hg, hgs, O⟩ := hrel
      by_cases hi : i < N
      case pos =>
        have hiI : (i : Int) < (N : Int) := by omega
        have hi0 : (0 : Int) ≤ (i : Int) := by omega
        have HI : Hid (i < N) := hi
        have HG : Hid (gs.length = i) := hgs
        have HGK : Hid (i + gk = N) := hg
        have hin : IntKind.i64.wrap ((i : Int) + 1) = (i : Int) + 1 := by rw [IntKind.wrap_i64]; have := HN.out; omega
        have hself : (dst N l (i : Int)).getD i 0 = 0 := dst_self HR.out hi
        have HS : Hid ((dst N l (i : Int)).getD i 0 = 0) := hself
        have HO : Hid (OwD N l w u5 gs wr) := O
        have O1 : wr.ownsRow w.heap.size 36 1 u5 i (gs.map (rowV N)) := by have h := O.own; rw [hgs] at h; exact h
        obtain ⟨av, cv, rfl⟩ := owns_sliceR O1
        have KD1 := KD (i : Int) wr O.below
        clear KD KP KW KA hself O hgs hi hg
        go_wp2_with (first
          | (go_at_call 19; refine KD1.mono ?_; clear KD1; rintro e w2 ⟨q, rfl, hq, h2, b2⟩)
          | ((with_reducible show wpList _ _ _ (Oper.mk _ (Op.call { callee := Callee.builtin Builtin.append, args := _, argTypes := _ }) _ _ _ _ :: _) _ _); refine wpList_app_r rfl _ _ rfl w.heap.size (.slice av i cv) i (gs.map (rowV N)) rfl (by have h := ((HO.out.later b2).later ((Below.refl _ _).alloc (Nat.le_refl _) (.cells #[rowV N q] 36))).own; rw [HG.out] at h; exact h) ⟨w2.heap.size, 0, none⟩ (some ⟨q, 0, none⟩) N N rfl (by intro j u hu; rw [add_plain, Nat.zero_add]; exact row_cell (World.alloc_heap_new w2 _) j u (by simpa using hu)) (by have := HN.out; have := HI.out; omega) (by have := HO.out.below.size; have := b2.size; simp; omega) ?_; intro g cg w3 r1 r2 r3; have HO3 : Hid (OwD N l w (.slice (some ⟨g, 0, none⟩) (i + 1) cg) (gs ++ [q]) w3) := (by have h := HG.out; subst h; exact ((HO.out.later b2).later ((Below.refl _ _).alloc (Nat.le_refl _) (.cells #[rowV N q] 36))).more ((Below.heap_alloc _ _ _ (row_lt h2)).trans h2) r1 r2); clear r1 r2 r3 h2 b2 O1; obtain ⟨r, c1, c2⟩ : ∃ r, w3.cell? ⟨g, i, none⟩ = some (.slice (some ⟨r, 0, none⟩) N N) ∧ w3.cell? ⟨r, i, none⟩ = some (.int .i64 0) := (by have h := HG.out; have h3 := HO3.out; exact ⟨_, h3.cell (u := i) (by simp; omega), by have e := h3.at (u := i) (j := i) (by simp; omega) HI.out; rw [HS.out] at e; exact e⟩)))
        go_roundg (gk - 1)
        case measure => have := HGK.out; have := HI.out; omega
        case rel => exact ⟨i + 1, gs ++ [q], by first | rfl | go_num, by have := HGK.out; have := HI.out; omega, by have := HG.out; simp [this], HO3.out⟩
      case neg =>
        have hiI : ¬ (i : Int) < (N : Int) := by omega
        have hgN : gs.length = N := by omega
        have O2 := O
        obtain ⟨g, cg, rfl⟩ := ownsR_some O2.own (by have := HN.out; omega)
        have HO : Hid (OwD N l w (.slice (some ⟨g, 0, none⟩) gs.length cg) gs wr ∧ gs.length = N) := ⟨O, hgN⟩
        have KP1 := KP wr O.below
        clear KP KD O O2 hi hg hgs
        rw [hgN]
        clear hgN
        go_wp2_with (go_at_call 21; refine KP1.mono ?_; clear KP1; rintro e w3 ⟨a3, c3, rfl, R3, b3⟩; obtain ⟨pb, po, rfl, hpb, hpc⟩ := R3.mem.resolve_left (by have := HN.out; omega); have HV : Hid (∀ u, u < N → ∀ X, Below w3.heap.size w3 X → X.cell? ⟨pb, po + u, none⟩ = some (.int .i64 ((partsL N l).getD u 0))) := (fun u hu X hX => (hX.cell (p := ⟨pb, po + u, none⟩) hpb).trans (hpc u hu)); have HU : Hid (∀ u, u < N → ∃ r, ∀ X, Below w3.heap.size w3 X → X.cell? ⟨g, u, none⟩ = some (.slice (some ⟨r, 0, none⟩) N N) ∧ ∀ j, j < N → X.cell? ⟨r, j, none⟩ = some (.int .i64 ((dst N l (u : Int)).getD j 0))) := (fun u hu => (HO.out.1.later b3).far (by have := HO.out.2; omega)); have HB3 : Hid (Below w.heap.size w w3) := (HO.out.1.below.trans (b3.mono HO.out.1.below.size)); clear hpc hpb R3 b3 HO)
        go_loopg [8, 53] N (fun gk v8 v53 wr => ∃ (i : Nat) (q : Int), v8 = .int .i64 q ∧ v53 = .int .i64 (i : Int) ∧ i + gk = N ∧ q = widthL l N i ∧ Below w3.heap.size w3 wr)
        case atStart => exact ⟨0, 0, rfl, by first | rfl | go_num, by omega, rfl, Below.refl _ _⟩
        case round =>
          obtain ⟨i, q, rfl, rfl, hg, hq, B⟩ := hrel
          by_cases hi : i < N
          case neg =>
            have hiI : ¬ (i : Int) < (N : Int) := by omega
            have hqN : widthL l N N = q := by rw [hq, show i = N by omega]
            have BB := HB3.out.trans (B.mono HB3.out.size)
            have KW1 := KW wr BB
            rw [hqN] at KW1
            clear hqN hq hi hg KW
            go_wp2_with (first
              | (go_at_call 23; refine KW1.mono ?_; clear KW1; rintro e w5 ⟨rfl, b5⟩; have B5 := BB.trans (b5.mono BB.size))
              | (go_at_call 13; refine (KA _).mono ?_; clear KA; rintro e w6 ⟨rfl, b6⟩))
            go_ret
            exact ⟨rfl, B5.trans (b6.mono B5.size)⟩
          case pos =>
            have hiI : (i : Int) < (N : Int) := by omega
            have hi0 : (0 : Int) ≤ (i : Int) := by omega
            have HI : Hid (i < N ∧ i + gk = N ∧ q = widthL l N i) := ⟨hi, hg, hq⟩
            have hin : IntKind.i64.wrap ((i : Int) + 1) = (i : Int) + 1 := by rw [IntKind.wrap_i64]; have := HN.out; omega
            obtain ⟨g1, hg1⟩ : ∃ g1, g1 = gk := ⟨_, rfl⟩
            have HG1 : Hid (g1 = gk) := hg1
            clear KW KA hi hg hq hg1
            go_wp2
            go_loopg [8, 57] N (fun gk v8 v57 wr => ∃ (j : Nat) (z : Int), v8 = .int .i64 z ∧ v57 = .int .i64 (j : Int) ∧ j + gk = N ∧ z = mxs q ((dst N l (i : Int)).take j) ∧ Below w3.heap.size w3 wr)
            case atStart => exact ⟨0, q, rfl, by first | rfl | go_num, by omega, rfl, B⟩
            case round =>
              clear B
              obtain ⟨j, z, rfl, rfl, hg, hz, B⟩ := hrel
              by_cases hj : j < N
              case pos =>
                have hjI : (j : Int) < (N : Int) := by omega
                have hj0 : (0 : Int) ≤ (j : Int) := by omega
                have hjn : IntKind.i64.wrap ((j : Int) + 1) = (j : Int) + 1 := by rw [IntKind.wrap_i64]; have := HN.out; omega
                obtain ⟨x, hx1, hx2, hxp, hx0, hxm, hxN⟩ := ways_two HR.out HI.out.1 hj
                have HJ : Hid (j < N ∧ j + gk = N ∧ max z x = mxs q ((dst N l (i : Int)).take (j + 1))) := ⟨hj, hg, by rw [mxs_take _ (by rw [dst_len]; exact hj), ← hz, hx1]⟩
                have v1 := HV.out i HI.out.1
                have v2 := HV.out j hj
                obtain ⟨r1, u1⟩ := HU.out i HI.out.1
                obtain ⟨r2, u2⟩ := HU.out j hj
                have u3 := fun X hX => (u1 X hX).2 j hj
                have u4 := fun X hX => (u2 X hX).2 i HI.out.1
                have u1 := fun X hX => (u1 X hX).1
                have u2 := fun X hX => (u2 X hX).1
                rw [hx1] at u3
                rw [hx2] at u4
                obtain ⟨p1, hp1⟩ : ∃ p, (partsL N l).getD i 0 = p := ⟨_, rfl⟩
                obtain ⟨p2, hp2⟩ : ∃ p, (partsL N l).getD j 0 = p := ⟨_, rfl⟩
                rw [hp1] at v1 hxp
                rw [hp2] at v2 hxp
                by_cases hij : i = j
                case pos =>
                  subst hij
                  have hxz : x = 0 := hx0.2 rfl
                  subst hxz
                  have hpp : p1 = p2 := hp1.symm.trans hp2
                  subst hpp
                  clear u2 u4 v2 hp1 hp2 hxp hx0 hxm hxN hx1 hx2 hj hg hz
                  go_wp2
                  refine wp_region_qw (fun X => Below wr.heap.size wr X) (by kernel_rfl) (by kernel_rfl) (Below.refl _ _).drew ?_
                  repeat (first
                    | (refine QW.skip (by rfl) ?_; simp only [Act.put, List.setIfInBounds_toArray, List.set_cons_zero, List.set_cons_succ])
                    | (refine QW.op (by rfl) ?_; apply Exists.intro; refine ⟨fun X hX => ?_, ?_⟩; (have s0 := u1 X (B.trans (hX.mono B.size)); have s1 := u3 X (B.trans (hX.mono B.size)); have s2 := v1 X (B.trans (hX.mono B.size)); go_simp <;> exact rfl); simp only [Act.put, List.setIfInBounds_toArray, List.set_cons_zero, List.set_cons_succ]))
                  refine QW.nil ?_
                  intro X hS
                  have s0 := u1 X (B.trans (hS.mono B.size))
                  have s1 := u3 X (B.trans (hS.mono B.size))
                  go_wp2
                  all_goals
                    go_roundg (gk - 1)
                    case measure => have := HJ.out; omega
                    case rel => exact ⟨i + 1, _, rfl, by first | rfl | go_num, by have := HJ.out; omega, by have := HJ.out.2.2; omega, B.trans (hS.mono B.size)⟩
                case neg =>
                  have hneb : ((i : Int) != (j : Int)) = true := by simp only [bne_iff_ne]; omega
                  by_cases hx : 0 ≤ x
                  case pos =>
                    have hpp : p1 = p2 := hxp.1 hx
                    subst hpp
                    have hxb : (x == 0) = false := by simp only [beq_eq_false_iff_ne]; exact fun e => hij (hx0.1 e)
                    clear hp1 hp2 hxp hx0 hxm hxN hx1 hx2 hj hg hz hij
                    go_wp2
                    refine wp_region_qw (fun X => Below wr.heap.size wr X) (by kernel_rfl) (by kernel_rfl) (Below.refl _ _).drew ?_
                    repeat (first
                      | (refine QW.skip (by rfl) ?_; simp only [Act.put, List.setIfInBounds_toArray, List.set_cons_zero, List.set_cons_succ])
                      | (refine QW.val (.bool ((i : Int) != (j : Int))) (by rfl) (fun X _ => exec_neq3 rfl _ _ rfl rfl X) ?_; simp only [Act.put, List.setIfInBounds_toArray, List.set_cons_zero, List.set_cons_succ]; rw [hneb])
                      | (refine QW.val (.bool (x == 0)) (by rfl) (fun X _ => exec_eql3 rfl _ _ rfl rfl X) ?_; simp only [Act.put, List.setIfInBounds_toArray, List.set_cons_zero, List.set_cons_succ]; rw [hxb])
                      | (refine QW.op (by rfl) ?_; apply Exists.intro; refine ⟨fun X hX => ?_, ?_⟩; (have s0 := u1 X (B.trans (hX.mono B.size)); have s1 := u2 X (B.trans (hX.mono B.size)); have s2 := u3 X (B.trans (hX.mono B.size)); have s3 := u4 X (B.trans (hX.mono B.size)); have s4 := v1 X (B.trans (hX.mono B.size)); have s5 := v2 X (B.trans (hX.mono B.size)); go_simp <;> exact rfl); simp only [Act.put, List.setIfInBounds_toArray, List.set_cons_zero, List.set_cons_succ]))
                    refine QW.nil ?_
                    intro X hS
                    have s0 := u1 X (B.trans (hS.mono B.size))
                    have s1 := u3 X (B.trans (hS.mono B.size))
                    go_wp2
                    all_goals
                      go_roundg (gk - 1)
                      case measure => have := HJ.out; omega
                      case rel => exact ⟨j + 1, _, rfl, by first | rfl | go_num, by have := HJ.out; omega, by have := HJ.out.2.2; omega, B.trans (hS.mono B.size)⟩
                  case neg =>
                    have hpb : (p1 == p2) = false := by simp only [beq_eq_false_iff_ne]; exact fun e => hx (hxp.2 e)
                    have hxe : x = -1 := by omega
                    subst hxe
                    clear hp1 hp2 hxp hx0 hxm hxN hx1 hx2 hj hg hz hij hx
                    go_wp2
                    refine wp_region_qw (fun X => Below wr.heap.size wr X) (by kernel_rfl) (by kernel_rfl) (Below.refl _ _).drew ?_
                    repeat (first
                      | (refine QW.skip (by rfl) ?_; simp only [Act.put, List.setIfInBounds_toArray, List.set_cons_zero, List.set_cons_succ])
                      | (refine QW.val (.bool ((i : Int) != (j : Int))) (by rfl) (fun X _ => exec_neq3 rfl _ _ rfl rfl X) ?_; simp only [Act.put, List.setIfInBounds_toArray, List.set_cons_zero, List.set_cons_succ]; rw [hneb])
                      | (refine QW.val (.bool (p1 == p2)) (by rfl) (fun X _ => exec_eql3 rfl _ _ rfl rfl X) ?_; simp only [Act.put, List.setIfInBounds_toArray, List.set_cons_zero, List.set_cons_succ]; rw [hpb])
                      | (refine QW.op (by rfl) ?_; apply Exists.intro; refine ⟨fun X hX => ?_, ?_⟩; (have s0 := u1 X (B.trans (hX.mono B.size)); have s1 := u2 X (B.trans (hX.mono B.size)); have s2 := u3 X (B.trans (hX.mono B.size)); have s3 := u4 X (B.trans (hX.mono B.size)); have s4 := v1 X (B.trans (hX.mono B.size)); have s5 := v2 X (B.trans (hX.mono B.size)); go_simp <;> exact rfl); simp only [Act.put, List.setIfInBounds_toArray, List.set_cons_zero, List.set_cons_succ]))
                    refine QW.nil ?_
                    intro X hS
                    have s0 := u1 X (B.trans (hS.mono B.size))
                    have s1 := u3 X (B.trans (hS.mono B.size))
                    go_wp2
                    all_goals
                      go_roundg (gk - 1)
                      case measure => have := HJ.out; omega
                      case rel => exact ⟨j + 1, _, rfl, by first | rfl | go_num, by have := HJ.out; omega, by have := HJ.out.2.2; omega, B.trans (hS.mono B.size)⟩
              case neg =>
                have hjI : ¬ (j : Int) < (N : Int) := by omega
                have HZ : Hid (z = widthL l N (i + 1)) := by show _ = _; rw [hz, List.take_of_length_le (by rw [dst_len]; omega), HI.out.2.2]; rfl
                clear hg hz hj
                go_wp2
                go_loopg [122] k (fun gk v122 wr => ∃ m : Nat, v122 = .int .i64 (m : Int) ∧ m + gk = k ∧ Below w3.heap.size w3 wr)
                case atStart => exact ⟨0, by first | rfl | go_num, by omega, B⟩
                case round =>
                  clear B
                  obtain ⟨m, rfl, hg, B⟩ := hrel
                  by_cases hm : m < k
                  case neg =>
                    have hmI : ¬ (m : Int) < (k : Int) := by omega
                    clear hm hg
                    go_wp2
                    go_roundg (g1 - 1)
                    case measure => have := HI.out; have := HG1.out; omega
                    case rel => exact ⟨i + 1, z, rfl, by first | rfl | go_num, by have := HI.out; have := HG1.out; omega, HZ.out, B⟩
                  case pos =>
                    have hmI : (m : Int) < (k : Int) := by omega
                    have hm0 : (0 : Int) ≤ (m : Int) := by omega
                    have hmn : IntKind.i64.wrap ((m : Int) + 1) = (m : Int) + 1 := by rw [IntKind.wrap_i64]; have := HK.out; omega
                    have HMk : Hid (m < k ∧ m + gk = k) := ⟨hm, hg⟩
                    obtain ⟨b, off, rfl, hb, hd, hra⟩ := (HRD.out.below (HB3.out.trans (B.mono HB3.out.size))).at m hm
                    obtain ⟨A, C, hAC, hA, hC, h1, h2, h3, h4, h5⟩ := ways_pair HR.out HI.out.1 (List.mem_of_getElem? hd)
                    rw [hAC] at hra
                    obtain ⟨e0, e1⟩ := cellsW hra
                    obtain ⟨r, u⟩ := HU.out i HI.out.1
                    have u1 := fun X hX => (u X hX).1
                    have u2 := fun X hX => (u X hX).2 A hA
                    have u3 := fun X hX => (u X hX).2 C hC
                    have t1 := dst_hi (N := N) (v := i) (l := l) A
                    have t2 := dst_hi (N := N) (v := i) (l := l) C
                    obtain ⟨x, hx⟩ : ∃ x, (dst N l (i : Int)).getD A 0 = x := ⟨_, rfl⟩
                    obtain ⟨y, hy⟩ : ∃ y, (dst N l (i : Int)).getD C 0 = y := ⟨_, rfl⟩
                    rw [hx] at u2 h1 h2 h3 h4 t1
                    rw [hy] at u3 h1 h2 h3 h5 t2
                    obtain ⟨d1, hd1⟩ : ∃ d, x - y = d := ⟨_, rfl⟩
                    obtain ⟨d2, hd2⟩ : ∃ d, y - x = d := ⟨_, rfl⟩
                    have hs1 : IntKind.i64.wrap (x - y) = d1 := by rw [IntKind.wrap_i64]; have := HN.out; omega
                    have hs2 : IntKind.i64.wrap (y - x) = d2 := by rw [IntKind.wrap_i64]; have := HN.out; omega
                    have hn1 : ¬ 1 < d1 := by omega
                    have hn2 : ¬ 1 < d2 := by omega
                    have hAI : (A : Int) < (N : Int) := by omega
                    have hCI : (C : Int) < (N : Int) := by omega
                    have hA0 : (0 : Int) ≤ (A : Int) := by omega
                    have hC0 : (0 : Int) ≤ (C : Int) := by omega
                    have M := Mem.nil wr
                    clear u hd1 hd2 hra hd hb hAC h1 h2 h4 h5 t1 t2 hx hy hA hC hm hg
                    by_cases hxn : x < 0
                    case pos =>
                      have hyn : y < 0 := h3.1 hxn
                      clear h3
                      go_wp2_with (first
                        | ((with_reducible show wpList _ _ _ (Oper.mk _ (Op.alloc 49) _ _ _ _ :: _) _ _); refine wpList_alloc M rfl rfl rt49 ?_; clear M; intro kt W M)
                        | ((with_reducible show wpList _ _ _ (Oper.mk _ (Op.store 49 _ _) _ _ _ _ :: _) _ _); refine wpList_put M rfl _ _ rfl rt49 0 #[.int .i64 (A : Int), .int .i64 (C : Int)] rfl rfl rfl rfl rfl (by simp [Value.oneCell']) ?_; clear M; intro W2 M; simp only [List.set_cons_zero] at M; have BM := B.trans (M.below.mono B.size); have hlt := row_lt (M.get (.head _)); have hk0 := row_cell (M.get (.head _)) 0 _ rfl; have hk1 := row_cell (M.get (.head _)) 1 _ rfl; have k0 : ∀ X, Below W2.heap.size W2 X → X.cell? ⟨kt, 0, none⟩ = some (.int .i64 (A : Int)) := (fun X hX => (hX.cell (p := ⟨kt, 0, none⟩) hlt).trans hk0); have k1 : ∀ X, Below W2.heap.size W2 X → X.cell? ⟨kt, 1, none⟩ = some (.int .i64 (C : Int)) := (fun X hX => (hX.cell (p := ⟨kt, 1, none⟩) hlt).trans hk1); clear hk0 hk1 hlt M))
                      refine wp_region_qw (fun X => Below W2.heap.size W2 X) (by kernel_rfl) (by kernel_rfl) (Below.refl _ _).drew ?_
                      repeat (first
                        | (refine QW.skip (by rfl) ?_; simp only [Act.put, List.setIfInBounds_toArray, List.set_cons_zero, List.set_cons_succ])
                        | (refine QW.op (by rfl) ?_; apply Exists.intro; refine ⟨fun X hX => ?_, ?_⟩; (have s0 := k0 X hX; have s1 := k1 X hX; have s2 := u1 X (BM.trans (hX.mono BM.size)); have s3 := u2 X (BM.trans (hX.mono BM.size)); have s4 := u3 X (BM.trans (hX.mono BM.size)); go_simp <;> exact rfl); simp only [Act.put, List.setIfInBounds_toArray, List.set_cons_zero, List.set_cons_succ]))
                      refine QW.nil ?_
                      intro X hS
                      have BX := BM.trans (hS.mono BM.size)
                      clear k0 k1 u1 u2 u3 hS BM
                      go_wp2
                      go_roundg (gk - 1)
                      case measure => have := HMk.out; omega
                      case rel => exact ⟨m + 1, by first | rfl | go_num, by have := HMk.out; omega, BX⟩
                    case neg =>
                      have hyn : (0 : Int) ≤ y := by omega
                      have hxn : (0 : Int) ≤ x := by omega
                      clear h3
                      go_wp2_with (first
                        | ((with_reducible show wpList _ _ _ (Oper.mk _ (Op.alloc 49) _ _ _ _ :: _) _ _); refine wpList_alloc M rfl rfl rt49 ?_; clear M; intro kt W M)
                        | ((with_reducible show wpList _ _ _ (Oper.mk _ (Op.store 49 _ _) _ _ _ _ :: _) _ _); refine wpList_put M rfl _ _ rfl rt49 0 #[.int .i64 (A : Int), .int .i64 (C : Int)] rfl rfl rfl rfl rfl (by simp [Value.oneCell']) ?_; clear M; intro W2 M; simp only [List.set_cons_zero] at M; have BM := B.trans (M.below.mono B.size); have hlt := row_lt (M.get (.head _)); have hk0 := row_cell (M.get (.head _)) 0 _ rfl; have hk1 := row_cell (M.get (.head _)) 1 _ rfl; have k0 : ∀ X, Below W2.heap.size W2 X → X.cell? ⟨kt, 0, none⟩ = some (.int .i64 (A : Int)) := (fun X hX => (hX.cell (p := ⟨kt, 0, none⟩) hlt).trans hk0); have k1 : ∀ X, Below W2.heap.size W2 X → X.cell? ⟨kt, 1, none⟩ = some (.int .i64 (C : Int)) := (fun X hX => (hX.cell (p := ⟨kt, 1, none⟩) hlt).trans hk1); clear hk0 hk1 hlt M))
                      refine wp_region_qw (fun X => Below W2.heap.size W2 X) (by kernel_rfl) (by kernel_rfl) (Below.refl _ _).drew ?_
                      repeat (first
                        | (refine QW.skip (by rfl) ?_; simp only [Act.put, List.setIfInBounds_toArray, List.set_cons_zero, List.set_cons_succ])
                        | (refine QW.op (by rfl) ?_; apply Exists.intro; refine ⟨fun X hX => ?_, ?_⟩; (have s0 := k0 X hX; have s1 := k1 X hX; have s2 := u1 X (BM.trans (hX.mono BM.size)); have s3 := u2 X (BM.trans (hX.mono BM.size)); have s4 := u3 X (BM.trans (hX.mono BM.size)); go_simp <;> exact rfl); simp only [Act.put, List.setIfInBounds_toArray, List.set_cons_zero, List.set_cons_succ]))
                      refine QW.nil ?_
                      intro X hS
                      have BX := BM.trans (hS.mono BM.size)
                      clear k0 k1 u1 u2 u3 hS BM
                      go_wp2
                      next h =>
                        exfalso
                        have a1 : decide (x < 0) = false := decide_eq_false (by omega)
                        have a2 : decide (y < 0) = false := decide_eq_false (by omega)
                        rw [a1, a2] at h
                        rcases h with (h | h) | h
                        · omega
                        · omega
                        · cases h
                      go_roundg (gk - 1)
                      case measure => have := HMk.out; omega
                      case rel => exact ⟨m + 1, by first | rfl | go_num, by have := HMk.out; omega, BX⟩
end Go.Proofs.Ytpdmpekkmblgmaa
