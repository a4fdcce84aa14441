/-
  The document: Fit.
-/
import Derived.Test.YtpdmpekkmblgmaaD1
namespace Go.Proofs.Ytpdmpekkmblgmaa
open Go.ChangeShapes Go.WideShapes Go.ChangeAt Go.RowKit Go.Maps Go.Shelf
set_option linter.unusedVariables false
set_option linter.unusedSimpArgs false
attribute [local go_sem] Oper.semAt_some

theorem fitD_no {n : Int} {l : List LK} {i : Nat} (hi : i < l.length) (h : okd n l i = false) : fit n l = false := by
  rw [← fitD_eq]
  unfold fitD
  rw [show (List.range l.length).all (okd n l) = false from by rw [List.all_eq_false]; exact ⟨i, List.mem_range.2 hi, by rw [h]; decide⟩]
  simp
theorem fitD_yes {n : Int} {l : List LK} (h0 : few n = true) (h1 : (l.length : Int) ≤ n * n) (h : ∀ i, i < l.length → okd n l i = true) : fit n l = true := by
  rw [← fitD_eq]
  unfold fitD
  rw [h0, show (List.range l.length).all (okd n l) = true from by rw [List.all_eq_true]; exact fun i hi => h i (List.mem_range.1 hi)]
  simpa using h1
theorem okd_iff {n : Int} {l : List LK} {i : Nat} {p q : Int} (h : l.getD i LK.z = (p, q)) : okd n l i = true ↔ (0 ≤ p ∧ p < q ∧ q < n) ∧ (i = 0 ∨ (l.getD (i - 1) LK.z).1 < p ∨ ((l.getD (i - 1) LK.z).1 = p ∧ (l.getD (i - 1) LK.z).2 < q)) ∧ dg l p ≤ 6 ∧ dg l q ≤ 6 := by
  unfold okd okr inR upA
  rw [h]
  have := ltL_iff (l.getD (i - 1) LK.z) (p, q)
  unfold ltL at this
  rw [decide_eq_true_eq] at this
  simp only [Bool.and_eq_true, decide_eq_true_eq, Bool.or_eq_true]
  constructor
  · rintro ⟨⟨h1, h2⟩, h3⟩
    exact ⟨by omega, h2.imp id (fun h => this.1 h), h3⟩
  · rintro ⟨h1, h2, h3⟩
    exact ⟨⟨by omega, h2.imp id (fun h => this.2 h)⟩, h3⟩
theorem okd_false {n : Int} {l : List LK} {i : Nat} {p q : Int} (h : l.getD i LK.z = (p, q)) (hn : ¬ ((0 ≤ p ∧ p < q ∧ q < n) ∧ (i = 0 ∨ (l.getD (i - 1) LK.z).1 < p ∨ ((l.getD (i - 1) LK.z).1 = p ∧ (l.getD (i - 1) LK.z).2 < q)) ∧ dg l p ≤ 6 ∧ dg l q ≤ 6)) : okd n l i = false := by
  cases h2 : okd n l i with
  | false => rfl
  | true => exact absurd ((okd_iff h).1 h2) hn
set_option maxRecDepth 100000 in
set_option maxHeartbeats 1000000 in
theorem rfit_any (n : Int) (a : Option Addr) (k cap : Nat) (l : List LK) (w : World) (hr : RdL w a k cap l) : Calls Try.prog 15 #[.int .i64 n, .slice a k cap] w fun e w' => e = .returned (.bool (fit n l)) ∧ Below w.heap.size w w' := by
  have HN : Hid (k ≤ 140737488355328) := hr.small
  have HL : Hid (l.length = k) := hr.size
  by_cases h1 : n < 1
  · have HF : Hid (fit n l = false) := by show _ = _; unfold fit few; rw [show decide (1 ≤ n) = false from by simp; omega]; rfl
    go_enter Try.func15, Try.ntmps15
    go_wp2
    go_ret
    exact ⟨ret_bool HF.out.symm, Below.refl _ _⟩
  · by_cases h2 : n > 16
    · have HF : Hid (fit n l = false) := by show _ = _; unfold fit few; rw [show decide (n ≤ 16) = false from by simp; omega]; simp
      go_enter Try.func15, Try.ntmps15
      go_wp2
      go_ret
      exact ⟨ret_bool HF.out.symm, Below.refl _ _⟩
    · have hfew : few n = true := by unfold few; simp; omega
      obtain ⟨N, rfl, hN1, hN2⟩ := few_nat hfew
      have hmul : (N : Int) * N ≤ 256 ∧ 0 ≤ (N : Int) * N := by
        have h4 : N * N ≤ 16 * 16 := Nat.mul_le_mul hN2 hN2
        have h5 : ((N * N : Nat) : Int) = (N : Int) * N := by simp
        omega
      obtain ⟨m, hm⟩ : ∃ m, (N : Int) * N = m := ⟨_, rfl⟩
      rw [hm] at hmul
      have hwm : IntKind.i64.wrap m = m := by rw [IntKind.wrap_i64]; omega
      by_cases h3 : (k : Int) > m
      · have HF : Hid (fit (N : Int) l = false) := by show _ = _; rw [← fitD_eq]; unfold fitD; rw [hm, show decide ((l.length : Int) ≤ m) = false from by have := HL.out; simp only [decide_eq_false_iff_not]; omega]; simp
        go_enter Try.func15, Try.ntmps15
        go_wp2
        go_ret
        exact ⟨ret_bool HF.out.symm, Below.refl _ _⟩
      · have HC : Hid (few (N : Int) = true ∧ (l.length : Int) ≤ (N : Int) * N) := ⟨hfew, by rw [hm, HL.out]; omega⟩
        have KD := fun v W (hb : Below w.heap.size w W) => rdegree_any a k cap l v W (hr.below hb)
        obtain ⟨n, hn⟩ : ∃ n : Int, (N : Int) = n := ⟨_, rfl⟩
        rw [hn] at HC hm h1 h2 ⊢
        go_enter Try.func15, Try.ntmps15
        go_wp2
        clear h1 h2 h3 hwm hmul hm hN1 hN2 hfew hn
        go_loopg [5] k (fun gk v5 wr => ∃ i : Nat, v5 = .int .i64 (i : Int) ∧ i + gk = k ∧ Below w.heap.size w wr ∧ ∀ j, j < i → okd n l j = true)
        case atStart => exact ⟨0, by first | rfl | go_num, by omega, Below.refl _ _, fun j hj => by omega⟩
        case round =>
          obtain ⟨i, rfl, hg, B, hok⟩ := hrel
          have HOK : Hid (∀ j, j < i → okd n l j = true) := hok
          clear hok
          by_cases hi : i < k
          case neg =>
            have HF : Hid (fit n l = true) := fitD_yes HC.out.1 HC.out.2 (fun j hj => HOK.out j (by have := HL.out; omega))
            have hin : ¬ (i : Int) < (k : Int) := by omega
            go_wp2
            go_ret
            exact ⟨ret_bool HF.out.symm, B⟩
          case pos =>
            have hiI : (i : Int) < (k : Int) := by omega
            have HI : Hid (i < l.length) := by show i < _; rw [HL.out]; exact hi
            obtain ⟨b, off, rfl, hb, hd, hra⟩ := (hr.below B).at i hi
            obtain ⟨⟨p, q⟩, hgi⟩ : ∃ x : LK, l.getD i LK.z = x := ⟨_, rfl⟩
            have HG : Hid (l.getD i LK.z = (p, q)) := hgi
            rw [hgi] at hra
            have LD : ∀ {ops : Array Oper} {rest : List Oper} {o : Oper} {A : Act} {Q : Exit → Act → World → Prop} (hgd : o.guard = none) (x : Operand) (ho : o.op = .load 49 x) (hx : A.eval x = .pointer (some ⟨b, off + i * 2, none⟩))
                (h : wpList Try.prog ops Q rest (A.put o.dst (.agg #[.int .i64 p, .int .i64 q])) wr), wpList Try.prog ops Q (o :: rest) A wr := fun hgd x ho hx h => wpList_load49 hgd x ho b _ (p, q) hx hra h
            have BA := B.alloc B.size (.cells #[.int .i64 p, .int .i64 q] 49)
            obtain ⟨dp, hdp⟩ : ∃ d, dg l p = d := ⟨_, rfl⟩
            obtain ⟨dq, hdq⟩ : ∃ d, dg l q = d := ⟨_, rfl⟩
            have HDD : Hid (dg l p = dp ∧ dg l q = dq) := ⟨hdp, hdq⟩
            clear hd hgi
            by_cases h1 : p < 0
            case pos =>
              have HF : Hid (fit n l = false) := fitD_no HI.out (okd_false HG.out (by rw [HDD.out.1, HDD.out.2]; omega))
              go_wp2_with ((with_reducible show wpList _ _ _ (Oper.mk _ (Op.load 49 (Operand.tmp 29)) _ _ _ _ :: _) _ _); refine LD rfl _ rfl rfl ?_)
              go_ret
              exact ⟨ret_bool HF.out.symm, BA⟩
            case neg =>
              by_cases h2 : n ≤ q
              case pos =>
                have HF : Hid (fit n l = false) := fitD_no HI.out (okd_false HG.out (by rw [HDD.out.1, HDD.out.2]; omega))
                go_wp2_with ((with_reducible show wpList _ _ _ (Oper.mk _ (Op.load 49 (Operand.tmp 29)) _ _ _ _ :: _) _ _); refine LD rfl _ rfl rfl ?_)
                go_ret
                exact ⟨ret_bool HF.out.symm, BA⟩
              case neg =>
                by_cases h3 : q ≤ p
                case pos =>
                  have HF : Hid (fit n l = false) := fitD_no HI.out (okd_false HG.out (by rw [HDD.out.1, HDD.out.2]; omega))
                  go_wp2_with ((with_reducible show wpList _ _ _ (Oper.mk _ (Op.load 49 (Operand.tmp 29)) _ _ _ _ :: _) _ _); refine LD rfl _ rfl rfl ?_)
                  go_ret
                  exact ⟨ret_bool HF.out.symm, BA⟩
                case neg =>
                  by_cases h4 : (6 : Int) < (dp : Int)
                  case pos =>
                    have HF : Hid (fit n l = false) := fitD_no HI.out (okd_false HG.out (by rw [HDD.out.1, HDD.out.2]; omega))
                    go_wp2_with (first | ((with_reducible show wpList _ _ _ (Oper.mk _ (Op.load 49 (Operand.tmp 29)) _ _ _ _ :: _) _ _); refine LD rfl _ rfl rfl ?_) | (go_at_call 17; refine (KD _ _ BA).mono ?_; rintro e wx ⟨rfl, hwx⟩; rw [hwx]; clear hwx wx))
                    go_ret
                    exact ⟨ret_bool HF.out.symm, BA⟩
                  case neg =>
                    by_cases h5 : (6 : Int) < (dq : Int)
                    case pos =>
                      have HF : Hid (fit n l = false) := fitD_no HI.out (okd_false HG.out (by rw [HDD.out.1, HDD.out.2]; omega))
                      go_wp2_with (first | ((with_reducible show wpList _ _ _ (Oper.mk _ (Op.load 49 (Operand.tmp 29)) _ _ _ _ :: _) _ _); refine LD rfl _ rfl rfl ?_) | (go_at_call 17; refine (KD _ _ BA).mono ?_; rintro e wx ⟨rfl, hwx⟩; rw [hwx]; clear hwx wx))
                      go_ret
                      exact ⟨ret_bool HF.out.symm, BA⟩
                    case neg =>
                      by_cases h0 : i = 0
                      case pos =>
                        have hi0I : ¬ (0 : Int) < (i : Int) := by omega
                        have hdi : decide (0 < i) = false := decide_eq_false (by omega)
                        have HU : Hid (okd n l i = true) := (okd_iff HG.out).2 ⟨⟨by omega, by omega, by omega⟩, .inl h0, by rw [HDD.out.1]; omega, by rw [HDD.out.2]; omega⟩
                        have hin : IntKind.i64.wrap ((i : Int) + 1) = (i : Int) + 1 := by rw [IntKind.wrap_i64]; have := HN.out; omega
                        clear h0
                        go_wp2_with (first | ((with_reducible show wpList _ _ _ (Oper.mk _ (Op.load 49 (Operand.tmp 29)) _ _ _ _ :: _) _ _); refine LD rfl _ rfl rfl ?_) | (go_at_call 17; refine (KD _ _ BA).mono ?_; rintro e wx ⟨rfl, hwx⟩; rw [hwx]; clear hwx wx))
                        have X6 := World.alloc_heap_new wr (.cells #[.int .i64 p, .int .i64 q] 49)
                        have BB := (Below.refl _ wr).alloc (Nat.le_refl _) (.cells #[.int .i64 p, .int .i64 q] 49)
                        obtain ⟨W4, hW4⟩ : ∃ X, wr.alloc (.cells #[.int .i64 p, .int .i64 q] 49) = X := ⟨_, rfl⟩
                        rw [hW4] at X6 BA BB ⊢
                        clear hW4 LD hdp hdq
                        have kt := fun X (h : Below W4.heap.size W4 X) => (h.block _ (row_lt X6)).trans X6
                        have kt0 : ∀ X, Below W4.heap.size W4 X → X.cell? ⟨wr.heap.size, 0, none⟩ = some (.int .i64 p) := fun X h => row_cell (kt X h) 0 _ rfl
                        have kt1 : ∀ X, Below W4.heap.size W4 X → X.cell? ⟨wr.heap.size, 1, none⟩ = some (.int .i64 q) := fun X h => row_cell (kt X h) 1 _ rfl
                        clear kt
                        refine wp_region_qw (fun X => Below W4.heap.size W4 X) (by kernel_rfl) (by kernel_rfl) (Below.refl _ _).drew ?_
                        repeat (first
                          | (refine QW.skip (by rfl) ?_; simp only [Act.put, List.setIfInBounds_toArray, List.set_cons_zero, List.set_cons_succ])
                          | (refine QW.op (by rfl) ?_; apply Exists.intro; refine ⟨fun X hX => ?_, ?_⟩; (have k0 := kt0 X hX; have k1 := kt1 X hX; go_simp <;> first | exact rfl); simp only [Act.put, List.setIfInBounds_toArray, List.set_cons_zero, List.set_cons_succ]))
                        refine QW.nil ?_
                        intro X hS
                        go_wp2
                        go_roundg (gk - 1)
                        case measure => omega
                        case rel => exact ⟨i + 1, by first | rfl | go_num, by omega, BA.trans (hS.mono BA.size), fun j hj => (Nat.lt_succ_iff_lt_or_eq.1 hj).elim (HOK.out j) (fun e => by rw [e]; exact HU.out)⟩
                      case neg =>
                        have hi0I : (0 : Int) < (i : Int) := by omega
                        have hdi : decide (0 < i) = true := decide_eq_true (by omega)
                        have hsub : IntKind.i64.wrap ((i : Int) - 1) = ((i - 1 : Nat) : Int) := by rw [IntKind.wrap_i64]; have := HN.out; omega
                        have hiI2 : ((i - 1 : Nat) : Int) < (k : Int) := by omega
                        obtain ⟨g2, off2, e2, _, _, hrp⟩ := (hr.below B).at (i - 1) (by omega)
                        cases e2
                        obtain ⟨⟨p1, q1⟩, hpn⟩ : ∃ x : LK, l.getD (i - 1) LK.z = x := ⟨_, rfl⟩
                        rw [hpn] at hrp
                        by_cases h6 : p < p1
                        case pos =>
                          have HF : Hid (fit n l = false) := fitD_no HI.out (okd_false HG.out (by rw [hpn]; dsimp only; omega))
                          go_wp2_with (first | ((with_reducible show wpList _ _ _ (Oper.mk _ (Op.load 49 (Operand.tmp 29)) _ _ _ _ :: _) _ _); refine LD rfl _ rfl rfl ?_) | (go_at_call 17; refine (KD _ _ BA).mono ?_; rintro e wx ⟨rfl, hwx⟩; rw [hwx]; clear hwx wx))
                          have X6 := World.alloc_heap_new wr (.cells #[.int .i64 p, .int .i64 q] 49)
                          have BB := (Below.refl _ wr).alloc (Nat.le_refl _) (.cells #[.int .i64 p, .int .i64 q] 49)
                          obtain ⟨W4, hW4⟩ : ∃ X, wr.alloc (.cells #[.int .i64 p, .int .i64 q] 49) = X := ⟨_, rfl⟩
                          rw [hW4] at X6 BA BB ⊢
                          clear hW4 LD hdp hdq
                          have kt := fun X (h : Below W4.heap.size W4 X) => (h.block _ (row_lt X6)).trans X6
                          have kt0 : ∀ X, Below W4.heap.size W4 X → X.cell? ⟨wr.heap.size, 0, none⟩ = some (.int .i64 p) := fun X h => row_cell (kt X h) 0 _ rfl
                          have kt1 : ∀ X, Below W4.heap.size W4 X → X.cell? ⟨wr.heap.size, 1, none⟩ = some (.int .i64 q) := fun X h => row_cell (kt X h) 1 _ rfl
                          clear kt
                          have kp := fun X (h : Below W4.heap.size W4 X) => cellsL (range_later hrp hb (BB.trans (h.mono BB.size)))
                          have kp0 : ∀ X, Below W4.heap.size W4 X → X.cell? ⟨b, off + (i - 1) * 2, none⟩ = some (.int .i64 p1) := fun X h => (kp X h).1
                          have kp1 : ∀ X, Below W4.heap.size W4 X → X.cell? ⟨b, off + (i - 1) * 2 + 1, none⟩ = some (.int .i64 q1) := fun X h => (kp X h).2
                          clear kp
                          refine wp_region_qw (fun X => Below W4.heap.size W4 X) (by kernel_rfl) (by kernel_rfl) (Below.refl _ _).drew ?_
                          repeat (first
                            | (refine QW.skip (by rfl) ?_; simp only [Act.put, List.setIfInBounds_toArray, List.set_cons_zero, List.set_cons_succ])
                            | (refine QW.op (by rfl) ?_; apply Exists.intro; refine ⟨fun X hX => ?_, ?_⟩; (have k0 := kt0 X hX; have k1 := kt1 X hX; have k2 := kp0 X hX; have k3 := kp1 X hX; have s1 := hsub; have s2 := hiI2; go_simp <;> first | exact rfl); simp only [Act.put, List.setIfInBounds_toArray, List.set_cons_zero, List.set_cons_succ]))
                          refine QW.nil ?_
                          intro X hS
                          go_wp2
                          go_ret
                          exact ⟨ret_bool HF.out.symm, BA.trans (hS.mono BA.size)⟩
                        case neg =>
                          by_cases h7 : p1 = p
                          case pos =>
                            have h7 := h7.symm
                            subst h7
                            by_cases h8 : q ≤ q1
                            case pos =>
                              have HF : Hid (fit n l = false) := fitD_no HI.out (okd_false HG.out (by rw [hpn]; dsimp only; omega))
                              go_wp2_with (first | ((with_reducible show wpList _ _ _ (Oper.mk _ (Op.load 49 (Operand.tmp 29)) _ _ _ _ :: _) _ _); refine LD rfl _ rfl rfl ?_) | (go_at_call 17; refine (KD _ _ BA).mono ?_; rintro e wx ⟨rfl, hwx⟩; rw [hwx]; clear hwx wx))
                              have X6 := World.alloc_heap_new wr (.cells #[.int .i64 p, .int .i64 q] 49)
                              have BB := (Below.refl _ wr).alloc (Nat.le_refl _) (.cells #[.int .i64 p, .int .i64 q] 49)
                              obtain ⟨W4, hW4⟩ : ∃ X, wr.alloc (.cells #[.int .i64 p, .int .i64 q] 49) = X := ⟨_, rfl⟩
                              rw [hW4] at X6 BA BB ⊢
                              clear hW4 LD hdp hdq
                              have kt := fun X (h : Below W4.heap.size W4 X) => (h.block _ (row_lt X6)).trans X6
                              have kt0 : ∀ X, Below W4.heap.size W4 X → X.cell? ⟨wr.heap.size, 0, none⟩ = some (.int .i64 p) := fun X h => row_cell (kt X h) 0 _ rfl
                              have kt1 : ∀ X, Below W4.heap.size W4 X → X.cell? ⟨wr.heap.size, 1, none⟩ = some (.int .i64 q) := fun X h => row_cell (kt X h) 1 _ rfl
                              clear kt
                              have kp := fun X (h : Below W4.heap.size W4 X) => cellsL (range_later hrp hb (BB.trans (h.mono BB.size)))
                              have kp0 : ∀ X, Below W4.heap.size W4 X → X.cell? ⟨b, off + (i - 1) * 2, none⟩ = some (.int .i64 p) := fun X h => (kp X h).1
                              have kp1 : ∀ X, Below W4.heap.size W4 X → X.cell? ⟨b, off + (i - 1) * 2 + 1, none⟩ = some (.int .i64 q1) := fun X h => (kp X h).2
                              clear kp
                              refine wp_region_qw (fun X => Below W4.heap.size W4 X) (by kernel_rfl) (by kernel_rfl) (Below.refl _ _).drew ?_
                              repeat (first
                                | (refine QW.skip (by rfl) ?_; simp only [Act.put, List.setIfInBounds_toArray, List.set_cons_zero, List.set_cons_succ])
                                | (refine QW.op (by rfl) ?_; apply Exists.intro; refine ⟨fun X hX => ?_, ?_⟩; (have k0 := kt0 X hX; have k1 := kt1 X hX; have k2 := kp0 X hX; have k3 := kp1 X hX; have s1 := hsub; have s2 := hiI2; go_simp <;> first | exact rfl); simp only [Act.put, List.setIfInBounds_toArray, List.set_cons_zero, List.set_cons_succ]))
                              refine QW.nil ?_
                              intro X hS
                              go_wp2
                              go_ret
                              exact ⟨ret_bool HF.out.symm, BA.trans (hS.mono BA.size)⟩
                            case neg =>
                              have HU : Hid (okd n l i = true) := (okd_iff HG.out).2 ⟨⟨by omega, by omega, by omega⟩, .inr (by rw [hpn]; dsimp only; omega), by rw [HDD.out.1]; omega, by rw [HDD.out.2]; omega⟩
                              have hin : IntKind.i64.wrap ((i : Int) + 1) = (i : Int) + 1 := by rw [IntKind.wrap_i64]; have := HN.out; omega
                              go_wp2_with (first | ((with_reducible show wpList _ _ _ (Oper.mk _ (Op.load 49 (Operand.tmp 29)) _ _ _ _ :: _) _ _); refine LD rfl _ rfl rfl ?_) | (go_at_call 17; refine (KD _ _ BA).mono ?_; rintro e wx ⟨rfl, hwx⟩; rw [hwx]; clear hwx wx))
                              have X6 := World.alloc_heap_new wr (.cells #[.int .i64 p, .int .i64 q] 49)
                              have BB := (Below.refl _ wr).alloc (Nat.le_refl _) (.cells #[.int .i64 p, .int .i64 q] 49)
                              obtain ⟨W4, hW4⟩ : ∃ X, wr.alloc (.cells #[.int .i64 p, .int .i64 q] 49) = X := ⟨_, rfl⟩
                              rw [hW4] at X6 BA BB ⊢
                              clear hW4 LD hdp hdq
                              have kt := fun X (h : Below W4.heap.size W4 X) => (h.block _ (row_lt X6)).trans X6
                              have kt0 : ∀ X, Below W4.heap.size W4 X → X.cell? ⟨wr.heap.size, 0, none⟩ = some (.int .i64 p) := fun X h => row_cell (kt X h) 0 _ rfl
                              have kt1 : ∀ X, Below W4.heap.size W4 X → X.cell? ⟨wr.heap.size, 1, none⟩ = some (.int .i64 q) := fun X h => row_cell (kt X h) 1 _ rfl
                              clear kt
                              have kp := fun X (h : Below W4.heap.size W4 X) => cellsL (range_later hrp hb (BB.trans (h.mono BB.size)))
                              have kp0 : ∀ X, Below W4.heap.size W4 X → X.cell? ⟨b, off + (i - 1) * 2, none⟩ = some (.int .i64 p) := fun X h => (kp X h).1
                              have kp1 : ∀ X, Below W4.heap.size W4 X → X.cell? ⟨b, off + (i - 1) * 2 + 1, none⟩ = some (.int .i64 q1) := fun X h => (kp X h).2
                              clear kp
                              refine wp_region_qw (fun X => Below W4.heap.size W4 X) (by kernel_rfl) (by kernel_rfl) (Below.refl _ _).drew ?_
                              repeat (first
                                | (refine QW.skip (by rfl) ?_; simp only [Act.put, List.setIfInBounds_toArray, List.set_cons_zero, List.set_cons_succ])
                                | (refine QW.op (by rfl) ?_; apply Exists.intro; refine ⟨fun X hX => ?_, ?_⟩; (have k0 := kt0 X hX; have k1 := kt1 X hX; have k2 := kp0 X hX; have k3 := kp1 X hX; have s1 := hsub; have s2 := hiI2; go_simp <;> first | exact rfl); simp only [Act.put, List.setIfInBounds_toArray, List.set_cons_zero, List.set_cons_succ]))
                              refine QW.nil ?_
                              intro X hS
                              go_wp2
                              go_roundg (gk - 1)
                              case measure => omega
                              case rel => exact ⟨i + 1, by first | rfl | go_num, by omega, BA.trans (hS.mono BA.size), fun j hj => (Nat.lt_succ_iff_lt_or_eq.1 hj).elim (HOK.out j) (fun e => by rw [e]; exact HU.out)⟩
                          case neg =>
                            have h7' : (p1 == p) = false := by simpa using h7
                            have hde6 : decide (p < p1) = false := decide_eq_false h6
                            have hde7 : decide (p1 = p) = false := decide_eq_false h7
                            have HU : Hid (okd n l i = true) := (okd_iff HG.out).2 ⟨⟨by omega, by omega, by omega⟩, .inr (by rw [hpn]; dsimp only; omega), by rw [HDD.out.1]; omega, by rw [HDD.out.2]; omega⟩
                            have hin : IntKind.i64.wrap ((i : Int) + 1) = (i : Int) + 1 := by rw [IntKind.wrap_i64]; have := HN.out; omega
                            go_wp2_with (first | ((with_reducible show wpList _ _ _ (Oper.mk _ (Op.load 49 (Operand.tmp 29)) _ _ _ _ :: _) _ _); refine LD rfl _ rfl rfl ?_) | (go_at_call 17; refine (KD _ _ BA).mono ?_; rintro e wx ⟨rfl, hwx⟩; rw [hwx]; clear hwx wx))
                            have X6 := World.alloc_heap_new wr (.cells #[.int .i64 p, .int .i64 q] 49)
                            have BB := (Below.refl _ wr).alloc (Nat.le_refl _) (.cells #[.int .i64 p, .int .i64 q] 49)
                            obtain ⟨W4, hW4⟩ : ∃ X, wr.alloc (.cells #[.int .i64 p, .int .i64 q] 49) = X := ⟨_, rfl⟩
                            rw [hW4] at X6 BA BB ⊢
                            clear hW4 LD hdp hdq
                            have kt := fun X (h : Below W4.heap.size W4 X) => (h.block _ (row_lt X6)).trans X6
                            have kt0 : ∀ X, Below W4.heap.size W4 X → X.cell? ⟨wr.heap.size, 0, none⟩ = some (.int .i64 p) := fun X h => row_cell (kt X h) 0 _ rfl
                            have kt1 : ∀ X, Below W4.heap.size W4 X → X.cell? ⟨wr.heap.size, 1, none⟩ = some (.int .i64 q) := fun X h => row_cell (kt X h) 1 _ rfl
                            clear kt
                            have kp := fun X (h : Below W4.heap.size W4 X) => cellsL (range_later hrp hb (BB.trans (h.mono BB.size)))
                            have kp0 : ∀ X, Below W4.heap.size W4 X → X.cell? ⟨b, off + (i - 1) * 2, none⟩ = some (.int .i64 p1) := fun X h => (kp X h).1
                            have kp1 : ∀ X, Below W4.heap.size W4 X → X.cell? ⟨b, off + (i - 1) * 2 + 1, none⟩ = some (.int .i64 q1) := fun X h => (kp X h).2
                            clear kp
                            refine wp_region_qw (fun X => Below W4.heap.size W4 X) (by kernel_rfl) (by kernel_rfl) (Below.refl _ _).drew ?_
                            repeat (first
                              | (refine QW.skip (by rfl) ?_; simp only [Act.put, List.setIfInBounds_toArray, List.set_cons_zero, List.set_cons_succ])
                              | (refine QW.op (by rfl) ?_; apply Exists.intro; refine ⟨fun X hX => ?_, ?_⟩; (have k0 := kt0 X hX; have k1 := kt1 X hX; have k2 := kp0 X hX; have k3 := kp1 X hX; have s1 := hsub; have s2 := hiI2; go_simp <;> first | exact rfl); simp only [Act.put, List.setIfInBounds_toArray, List.set_cons_zero, List.set_cons_succ]))
                            refine QW.nil ?_
                            intro X hS
                            go_wp2
                            go_roundg (gk - 1)
                            case measure => omega
                            case rel => exact ⟨i + 1, by first | rfl | go_num, by omega, BA.trans (hS.mono BA.size), fun j hj => (Nat.lt_succ_iff_lt_or_eq.1 hj).elim (HOK.out j) (fun e => by rw [e]; exact HU.out)⟩
end Go.Proofs.Ytpdmpekkmblgmaa
