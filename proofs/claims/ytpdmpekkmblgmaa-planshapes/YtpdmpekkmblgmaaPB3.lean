/-
  Package plan: Links: a star.
-/
import Derived.Test.YtpdmpekkmblgmaaPB
namespace Go.Proofs.Ytpdmpekkmblgmaa
open Go.ChangeShapes Go.WideShapes Go.ChangeAt Go.RowKit Go.Maps Go.Shelf
set_option linter.unusedVariables false
set_option linter.unusedSimpArgs false
attribute [local go_sem] Oper.semAt_some

set_option maxRecDepth 100000 in
set_option maxHeartbeats 1000000 in
theorem links_3 (n k : Int) (w : World) : Calls Try.prog 8 #[.int .i64 3, .int .i64 n, .int .i64 k] w (LnkP w n (!few n) (treeL n.toNat (n.toNat : Int))) := by
  have K28 := fun W => sketches_any W
  have K29 := fun W => few_any n W
  have hix : ∀ W : World, (Instr.index 53 (.agg tab) (.int .i64 3)).run Try.prog W = .ok (.agg #[.bool false, .func (.func 46) #[] #[]]) W := fun W => by kernel_rfl
  cases hf : few n with
  | false =>
    rw [hf] at K29
    show Calls _ _ _ _ (LnkP w n true _)
    clear hf
    go_enter Try.func8, Try.ntmps8
    go_wp2_with (first
      | (go_at_call 28; refine (K28 _).mono ?_; clear K28; rintro e w1 ⟨rfl, b1⟩; have M := Mem.nil w1)
      | ((with_reducible show wpList _ _ _ (Oper.mk _ (Op.alloc 52) _ _ _ _ :: _) _ _); refine wpList_alloc M rfl rfl rt52 ?_; clear M; intro kt W M)
      | ((with_reducible show wpList _ _ _ (Oper.mk _ (Op.store 52 _ _) _ _ _ _ :: _) _ _); refine wpList_put M rfl _ _ rfl rt52 0 #[.bool false, .func (.func 46) #[] #[]] rfl rfl rfl rfl rfl (by simp [Value.oneCell']) ?_; clear M; intro W2 M; simp only [List.set_cons_zero] at M; have p0 : W2.cell? ⟨kt, 0, none⟩ = some (.bool false) := row_cell (M.get (.head _)) 0 _ rfl; have p1 : W2.cell? ⟨kt, 1, none⟩ = some (.func (.func 46) #[] #[]) := row_cell (M.get (.head _)) 1 _ rfl)
      | (go_at_call 29; refine (K29 _).mono ?_; clear K29; rintro e w3 ⟨rfl, hw3⟩; rw [hw3]; clear hw3 w3))
    refine bodyPost_ret (results_tmp2 rfl _ _ _) rfl ?_
    exact LnkP.bad (b1.trans (M.below.mono b1.size))
  | true =>
    rw [hf] at K29
    show Calls _ _ _ _ (LnkP w n false _)
    obtain ⟨N, rfl, hN1, hN2⟩ := few_nat hf
    rw [Int.toNat_natCast]
    have HNN : Hid (1 ≤ N ∧ N ≤ 16 ∧ few (N : Int) = true) := ⟨hN1, hN2, hf⟩
    have HA : Hid (Apart (treeL N (N : Int))) := treeL_apart N (by omega)
    have HLN : Hid ((treeL N (N : Int)).length ≤ 100000) := by show _ ≤ _; rw [treeL_len]; have := HNN.out; omega
    have KP := fun W => star_any (N : Int) k W
    have KS := fun kb W O => sortedfunc_any 64 #[.pointer (some ⟨kb, 0, none⟩), .pointer (some ⟨kb + 1, 0, none⟩)] (enters_of Try.func64 (by kernel_rfl) rfl) (treeL N (N : Int)) (fun A => One A kb (.int .i64 (N : Int)) ∧ One A (kb + 1) (.int .i64 (N : Int))) W HLN.out (fun W' _ => tree_gives kb (kb + 1) N (N : Int) (by have := HNN.out; omega) (by have := HNN.out; omega) (by have := HNN.out; omega) W') O
    have KC := fun a m c W (hr : RdL W a m c (srt (treeL N (N : Int)))) => crowded_any (N : Int) a m c (srt (treeL N (N : Int))) W hr (Apart.srt HA.out) HNN.out.2.2
    obtain ⟨xs, hxs⟩ : ∃ xs, treeL N (N : Int) = xs := ⟨_, rfl⟩
    rw [hxs] at KS KC ⊢
    obtain ⟨cw, hcw⟩ : ∃ b, crowded (N : Int) (srt xs) = b := ⟨_, rfl⟩
    have HCW : Hid (crowded (N : Int) (srt xs) = cw) := hcw
    rw [hcw] at KC
    clear hf hN1 hN2 hxs hcw
    go_enter Try.func8, Try.ntmps8
    go_wp2_with (first
        | (go_at_call 28; refine (K28 _).mono ?_; clear K28; rintro e w1 ⟨rfl, b1⟩; have M := Mem.nil w1)
        | ((with_reducible show wpList _ _ _ (Oper.mk _ (Op.alloc 52) _ _ _ _ :: _) _ _); refine wpList_alloc M rfl rfl rt52 ?_; clear M; intro kt W M)
        | ((with_reducible show wpList _ _ _ (Oper.mk _ (Op.store 52 _ _) _ _ _ _ :: _) _ _); refine wpList_put M rfl _ _ rfl rt52 0 #[.bool false, .func (.func 46) #[] #[]] rfl rfl rfl rfl rfl (by simp [Value.oneCell']) ?_; clear M; intro W2 M; simp only [List.set_cons_zero] at M; have p0 : W2.cell? ⟨kt, 0, none⟩ = some (.bool false) := row_cell (M.get (.head _)) 0 _ rfl; have p1 : W2.cell? ⟨kt, 1, none⟩ = some (.func (.func 46) #[] #[]) := row_cell (M.get (.head _)) 1 _ rfl)
        | (go_at_call 29; refine (K29 _).mono ?_; clear K29; rintro e w3 ⟨rfl, hw3⟩; rw [hw3]; clear hw3 w3)
        | (go_at_call 46; refine (KP _).mono ?_; clear KP; rintro e w4 ⟨rfl, hw4⟩; have b4 : Below W2.heap.size W2 w4 := (by subst hw4; exact ((Below.refl _ _).alloc (Nat.le_refl _) _).alloc (by simp) _); have KO : ∀ W', Below w4.heap.size w4 W' → One W' W2.heap.size (.int .i64 (N : Int)) ∧ One W' (W2.heap.size + 1) (.int .i64 (N : Int)) := fun W' hb => ⟨One.below (by subst hw4; exact (One.new _ _ _).alloc _) hb, One.below (by subst hw4; exact (One.new _ _ _).at (by simp)) hb⟩; clear hw4)
        | (go_at_call 30; refine (KS W2.heap.size w4 KO).mono ?_; clear KS KO; rintro e w5 ⟨a5, c5, rfl, hr5, b5⟩; have KC5 := KC _ _ _ w5 hr5; have b05 : Below w.heap.size w w5 := ((b1.trans (M.below.mono b1.size)).trans (b4.mono (Nat.le_trans b1.size M.below.size))).trans (b5.mono (Nat.le_trans (Nat.le_trans b1.size M.below.size) b4.size)))
        | (go_at_call 32; refine KC5.mono ?_; clear KC5; rintro e w6 ⟨rfl, b6⟩))
    all_goals
      refine bodyPost_ret (results_tmp2 rfl _ _ _) rfl ?_
      first
        | exact LnkP.crowd (b05.trans (b6.mono b05.size)) (by rw [HCW.out]; first | assumption | simp_all)
        | exact LnkP.good (b05.trans (b6.mono b05.size)) (by rw [HCW.out]; first | assumption | simp_all) (hr5.below b6)
end Go.Proofs.Ytpdmpekkmblgmaa
