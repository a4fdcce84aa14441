/-
  Chapter 10's first example, as the statements call it.
-/
import Derived.Test.YtacefkchhcpgaaaC8
import Derived.Test.YtacefkchhcpgaaaC9
namespace Go.Proofs.Ytacefkchhcpgaaa
open Go.ChangeShapes Go.WideShapes Go.ChangeAt Go.RowKit
set_option linter.unusedVariables false
set_option linter.unusedSimpArgs false

abbrev mB : ByteArray := ⟨#[109]⟩
abbrev nB : ByteArray := ⟨#[110]⟩
abbrev x1 : LS := ⟨mB, 1, 2, 7⟩
abbrev x2 : LS := ⟨mB, 2, 5, 9⟩
theorem toL_m : mB.toList = [109] := by rw [ByteArray.toList_eq]
theorem toL_n : nB.toList = [110] := by rw [ByteArray.toList_eq]
theorem lt_mm : ltN mB mB = false := by unfold ltN; rw [toL_m]; rfl
theorem lt_mn : ltN mB nB = true := by unfold ltN; rw [toL_m, toL_n]; rfl
theorem eq_mm : eqN mB mB = true := by unfold eqN; rw [toL_m]; rfl
theorem name_m : nameB mB = true := by decide
theorem pos_m (x : LS) (h : x.name = mB) : posN mB [x] = 0 := by simp [posN, pos, h, lt_mm]
theorem hit_m (x : LS) (h : x.name = mB) : hitN mB [x] = true := by
  unfold hitN hit
  have := pos_m x h
  unfold posN at this
  rw [this]
  simp [h, eq_mm]
theorem reg_m (x : LS) (h : x.name = mB) : regN mB [x] = x := by
  unfold regN
  rw [hit_m x h, pos_m x h]
  rfl
theorem reg_n : regN nB [x1] = LS.z := by
  unfold regN
  have e : posN nB [x1] = 1 := by simp [posN, pos, lt_mn]
  have : hitN nB [x1] = false := by
    unfold hitN hit
    unfold posN at e
    rw [e]
    rfl
  rw [this]
  rfl
theorem wr_1 : wrL mB 1 2 7 [] = [x1] := by
  unfold wrL
  rw [if_neg (by decide), if_neg (by decide), if_pos (by decide)]
  rfl
theorem wr_2 : wrL mB 2 5 9 [x1] = [x2] := by
  unfold wrL
  rw [if_neg (by decide), if_pos (hit_m x1 rfl), pos_m x1 rfl]
  rfl
abbrev hA : HS := ⟨5, 3, 0, [x1], false, 0⟩
abbrev hB : HS := ⟨5, 3, 0, [x2], false, 0⟩
theorem wr_A : (HS.mk 5 3 0 [] false 0).wr mB 1 2 7 = hA := by unfold HS.wr; rw [wr_1]
theorem mg_a : hA.mg 2 mB 1 5 9 = hA ∧ hA.mgC 2 mB 1 5 9 = false := by
  have e : hA.mgB 2 mB 1 5 9 = false := by unfold HS.mgB; rw [reg_m x1 rfl]; decide
  unfold HS.mg HS.mgC
  rw [e]
  exact ⟨rfl, rfl⟩
theorem mg_b : hA.mg 2 mB 2 5 9 = hB ∧ hA.mgC 2 mB 2 5 9 = true := by
  have e : hA.mgB 2 mB 2 5 9 = true := by unfold HS.mgB; rw [reg_m x1 rfl]; decide
  unfold HS.mg HS.mgC
  rw [e, if_pos rfl]
  refine ⟨by unfold HS.wr; rw [wr_2], ?_⟩
  rw [wr_2, reg_m x2 rfl]
  decide
theorem fit_A : hA.fit 2 = true := by
  have e : linesB 2 5 [x1] = true := lines_yes fun j hj => by
    have : j = 0 := by simp at hj; omega
    subst this
    unfold okAt ok1
    show (ltN (prevN [x1] 0) mB && (nameB mB && (!zeroB 1 2 7 && fitB 1 2 7 2 5))) = true
    rw [show prevN [x1] 0 = ⟨#[]⟩ from rfl, lt_nil mB name_m, name_m]
    decide
  unfold HS.fit
  dsimp only
  rw [e]
  decide
set_option maxRecDepth 100000 in
set_option maxHeartbeats 8000000 in
theorem awake_any (w : World) : Calls Try.prog 15 #[] w fun e w' => e = .returned (.bool true) ∧ Below w.heap.size w w' := by
  have K24 : ∀ W, Calls Try.prog 24 #[.int .i64 5, .int .i64 3, .int .i64 0] W fun e w' => e = .returned (.agg #[.int .i64 5, .int .i64 3, .int .i64 0, .slice none 0 0, .bool false, .int .i64 0]) ∧ Below W.heap.size W w' := fun W => begin_any 5 3 0 W
  have K32 : ∀ W, Calls Try.prog 32 #[.agg #[.int .i64 5, .int .i64 3, .int .i64 0, .slice none 0 0, .bool false, .int .i64 0], .string mB, rg 1 2 7] W fun e w' => ∃ a' c', e = .returned (.agg #[.int .i64 5, .int .i64 3, .int .i64 0, .slice a' 1 c', .bool false, .int .i64 0]) ∧ Own W.heap.size w' hA a' c' ∧ Below W.heap.size W w' := fun W => by
    have := write_any (HS.mk 5 3 0 [] false 0) none 0 mB 1 2 7 W (rdL_nil _) (by decide)
    rw [wr_A] at this
    exact this
  have KA : ∀ a c W, RdO W hA a c → Calls Try.prog 34 #[.int .i64 2, .agg #[.int .i64 5, .int .i64 3, .int .i64 0, .slice a 1 c, .bool false, .int .i64 0], .string mB, rg 1 5 9] W fun e w' => ∃ a' c', e = .returned (.tuple #[.agg #[.int .i64 5, .int .i64 3, .int .i64 0, .slice a' 1 c', .bool false, .int .i64 0], .bool false]) ∧ Own W.heap.size w' hA a' c' ∧ Below W.heap.size W w' := fun a c W h => by
    have := merge_hs 2 hA a c mB 1 5 9 W h (by decide)
    rw [mg_a.1, mg_a.2] at this
    exact this
  have KB : ∀ a c W, RdO W hA a c → Calls Try.prog 34 #[.int .i64 2, .agg #[.int .i64 5, .int .i64 3, .int .i64 0, .slice a 1 c, .bool false, .int .i64 0], .string mB, rg 2 5 9] W fun e w' => ∃ a' c', e = .returned (.tuple #[.agg #[.int .i64 5, .int .i64 3, .int .i64 0, .slice a' 1 c', .bool false, .int .i64 0], .bool true]) ∧ Own W.heap.size w' hB a' c' ∧ Below W.heap.size W w' := fun a c W h => by
    have := merge_hs 2 hA a c mB 2 5 9 W h (by decide)
    rw [mg_b.1, mg_b.2] at this
    exact this
  have K8 : ∀ a c W, RdO W hA a c → Calls Try.prog 8 #[.int .i64 2, .agg #[.int .i64 5, .int .i64 3, .int .i64 0, .slice a 1 c, .bool false, .int .i64 0]] W fun e w' => e = .returned (.bool true) ∧ Below W.heap.size W w' := fun a c W h => by
    have := hfit_any 2 hA a c W h
    rw [fit_A] at this
    exact this
  have R1 : ∀ a c W, RdO W hA a c → Calls Try.prog 30 #[.agg #[.int .i64 5, .int .i64 3, .int .i64 0, .slice a 1 c, .bool false, .int .i64 0], .string mB] W fun e w' => e = .returned (rg 1 2 7) ∧ Below W.heap.size W w' := fun a c W h => by
    have := reg_any hA a c mB W h
    rw [reg_m x1 rfl] at this
    exact this
  have R2 : ∀ a c W, RdO W hA a c → Calls Try.prog 30 #[.agg #[.int .i64 5, .int .i64 3, .int .i64 0, .slice a 1 c, .bool false, .int .i64 0], .string nB] W fun e w' => e = .returned (rg 0 0 0) ∧ Below W.heap.size W w' := fun a c W h => by
    have := reg_any hA a c nB W h
    rw [reg_n] at this
    exact this
  have R3 : ∀ a c W, RdO W hB a c → Calls Try.prog 30 #[.agg #[.int .i64 5, .int .i64 3, .int .i64 0, .slice a 1 c, .bool false, .int .i64 0], .string mB] W fun e w' => e = .returned (rg 2 5 9) ∧ Below W.heap.size W w' := fun a c W h => by
    have := reg_any hB a c mB W h
    rw [reg_m x2 rfl] at this
    exact this
  have hf1 : ∀ W, (Instr.field 42 (rg 1 2 7) 2).run Try.prog W = .ok (.int .i64 7) W := fun W => by kernel_rfl
  have hf2 : ∀ W, (Instr.field 42 (rg 2 5 9) 2).run Try.prog W = .ok (.int .i64 9) W := fun W => by kernel_rfl
  go_enter Try.func15, Try.ntmps15
  go_wp2_with (first
    | (go_at_call 24; refine (K24 _).mono ?_; rintro e w1 ⟨rfl, b1⟩; clear K24)
    | (go_at_call 32; refine (K32 _).mono ?_; rintro e w2 ⟨a2, c2, rfl, O2, b2⟩; clear K32; have X2 := World.alloc_heap_new w2 (.cells #[.int .i64 5, .int .i64 3, .int .i64 0, .slice a2 1 c2, .bool false, .int .i64 0] 24); have D2 : RdO (w2.alloc (.cells #[.int .i64 5, .int .i64 3, .int .i64 0, .slice a2 1 c2, .bool false, .int .i64 0] 24)) hA a2 c2 := (O2.rd (by decide)).below ((Below.refl _ _).alloc (Nat.le_refl _) _); have B2 : Below w.heap.size w (w2.alloc (.cells #[.int .i64 5, .int .i64 3, .int .i64 0, .slice a2 1 c2, .bool false, .int .i64 0] 24)) := (b1.trans (b2.mono b1.size)).alloc (Nat.le_trans b1.size b2.size) _; clear O2)
    | (go_at_call 34; refine (KA _ _ _ D2).mono ?_; rintro e w3 ⟨a3, c3, rfl, O3, b3⟩; clear KA; have X3 := (b3.block _ (row_lt X2)).trans X2; have D3 := RdL.below D2 b3; have ⟨p0, p1, p2, p3, p4, p5⟩ := cel6 ((Below.heap_alloc w3 (.cells #[.int .i64 5, .int .i64 3, .int .i64 0, .slice a3 1 c3, .bool false, .int .i64 0] 24) _ (row_lt X3)).trans X3); have D4 := RdL.below D3 ((Below.refl _ _).alloc (Nat.le_refl _) (.cells #[.int .i64 5, .int .i64 3, .int .i64 0, .slice a3 1 c3, .bool false, .int .i64 0] 24)); have B4 : Below w.heap.size w (w3.alloc (.cells #[.int .i64 5, .int .i64 3, .int .i64 0, .slice a3 1 c3, .bool false, .int .i64 0] 24)) := (B2.trans (b3.mono B2.size)).alloc (Nat.le_trans B2.size b3.size) _; have X4 := (Below.heap_alloc w3 (.cells #[.int .i64 5, .int .i64 3, .int .i64 0, .slice a3 1 c3, .bool false, .int .i64 0] 24) _ (row_lt X3)).trans X3; clear X2 D2 O3)
    | (go_at_call 34; refine (KB _ _ _ D4).mono ?_; rintro e w5 ⟨a5, c5, rfl, O5, b5⟩; clear KB; have X5 := (b5.block _ (row_lt X4)).trans X4; have D5 := RdL.below D4 b5; have X6 := (Below.heap_alloc w5 (.cells #[.int .i64 5, .int .i64 3, .int .i64 0, .slice a5 1 c5, .bool false, .int .i64 0] 24) _ (row_lt X5)).trans X5; have Y6 := World.alloc_heap_new w5 (.cells #[.int .i64 5, .int .i64 3, .int .i64 0, .slice a5 1 c5, .bool false, .int .i64 0] 24); have ⟨q0, q1, q2, q3, q4, q5⟩ := cel6 X6; have D6 := RdL.below D5 ((Below.refl _ _).alloc (Nat.le_refl _) (.cells #[.int .i64 5, .int .i64 3, .int .i64 0, .slice a5 1 c5, .bool false, .int .i64 0] 24)); have E6 : RdO (w5.alloc (.cells #[.int .i64 5, .int .i64 3, .int .i64 0, .slice a5 1 c5, .bool false, .int .i64 0] 24)) hB a5 c5 := (O5.rd (by decide)).below ((Below.refl _ _).alloc (Nat.le_refl _) _); have B6 : Below w.heap.size w (w5.alloc (.cells #[.int .i64 5, .int .i64 3, .int .i64 0, .slice a5 1 c5, .bool false, .int .i64 0] 24)) := (B4.trans (b5.mono B4.size)).alloc (Nat.le_trans B4.size b5.size) _; clear X4 D4 O5)
    | (go_at_call 8; refine (K8 _ _ _ D6).mono ?_; rintro e w7 ⟨rfl, b7⟩; clear K8; have X7 := (b7.block _ (row_lt X6)).trans X6; have Y7 := (b7.block _ (row_lt Y6)).trans Y6; have D7 := RdL.below D6 b7; have E7 := RdL.below E6 b7; have B7 := B6.trans (b7.mono B6.size); have ⟨s0, s1, s2, s3, s4, s5⟩ := cel6 X7; clear q0 q1 q2 q3 q4 q5 p0 p1 p2 p3 p4 p5)
    | (go_at_call 30; refine (R1 _ _ _ D7).mono ?_; rintro e w8 ⟨rfl, b8⟩; clear R1; have X8 := (b8.block _ (row_lt X7)).trans X7; have Y8 := (b8.block _ (row_lt Y7)).trans Y7; have D8 := RdL.below D7 b8; have E8 := RdL.below E7 b8; have B8 := B7.trans (b8.mono B7.size); have ⟨t0, t1, t2, t3, t4, t5⟩ := cel6 X8; clear s0 s1 s2 s3 s4 s5)
    | (go_at_call 30; refine (R2 _ _ _ D8).mono ?_; rintro e w9 ⟨rfl, b9⟩; clear R2; have Y9 := (b9.block _ (row_lt Y8)).trans Y8; have E9 := RdL.below E8 b9; have B9 := B8.trans (b9.mono B8.size); have ⟨u0, u1, u2, u3, u4, u5⟩ := cel6 Y9; clear t0 t1 t2 t3 t4 t5)
    | (go_at_call 30; refine (R3 _ _ _ E9).mono ?_; rintro e w10 ⟨rfl, b10⟩; have B10 := B9.trans (b10.mono B9.size)))
  go_ret
  exact ⟨rfl, B10⟩
end Go.Proofs.Ytacefkchhcpgaaa
