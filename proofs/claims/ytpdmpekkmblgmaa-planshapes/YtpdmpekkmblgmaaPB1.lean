/-
  Package plan: Links: a line, every two.
-/
import Derived.Test.YtpdmpekkmblgmaaPB
import Derived.Test.YtpdmpekkmblgmaaP7d
namespace Go.Proofs.Ytpdmpekkmblgmaa
open Go.ChangeShapes Go.WideShapes Go.ChangeAt Go.RowKit Go.Maps Go.Shelf
set_option linter.unusedVariables false
set_option linter.unusedSimpArgs false
attribute [local go_sem] Oper.semAt_some

theorem fullL_mem {n : Nat} {p : LK} : p ∈ fullL n ↔ ∃ a b : Nat, a < b ∧ b < n ∧ p = ((a : Int), (b : Int)) := by
  induction n with
  | zero => exact ⟨fun h => (by cases h), fun ⟨a, b, _, h2, _⟩ => by omega⟩
  | succ n ih =>
    rw [fullL, List.mem_append, ih, fullR, List.mem_map]
    constructor
    · rintro (⟨a, b, h1, h2, rfl⟩ | ⟨a, h1, rfl⟩)
      · exact ⟨a, b, h1, by omega, rfl⟩
      · exact ⟨a, n, List.mem_range.1 h1, by omega, rfl⟩
    · rintro ⟨a, b, h1, h2, rfl⟩
      by_cases h : b = n
      · subst h; exact .inr ⟨a, List.mem_range.2 h1, rfl⟩
      · exact .inl ⟨a, b, h1, by omega, rfl⟩
theorem fullL_apart (n : Nat) : Apart (fullL n) := by
  intro p hp
  obtain ⟨a, b, h1, h2, rfl⟩ := fullL_mem.1 hp
  show (a : Int) ≠ (b : Int)
  omega
theorem fullL_len (n : Nat) : (fullL n).length ≤ n * n := by
  induction n with
  | zero => simp [fullL]
  | succ n ih =>
    rw [fullL, List.length_append, fullR_len]
    have : (n + 1) * (n + 1) = n * n + 2 * n + 1 := by rw [Nat.add_mul, Nat.mul_add]; omega
    omega
theorem gridR_mem {n : Nat} {k : Int} {i : Nat} {p : LK} : p ∈ gridR n k i ↔ ((i : Int) + 1 < (n : Int) ∧ Int.tmod ((i : Int) + 1) k ≠ 0 ∧ p = ((i : Int), (i : Int) + 1)) ∨ (k < (n : Int) - (i : Int) ∧ p = ((i : Int), (i : Int) + k)) := by
  unfold gridR
  rw [List.mem_append]
  constructor
  · rintro (h | h)
    · split at h
      · rename_i hc
        exact .inl ⟨hc.1, hc.2, by simpa using h⟩
      · cases h
    · split at h
      · rename_i hc
        exact .inr ⟨hc, by simpa using h⟩
      · cases h
  · rintro (⟨h1, h2, rfl⟩ | ⟨h1, rfl⟩)
    · exact .inl (by rw [if_pos ⟨h1, h2⟩]; simp)
    · exact .inr (by rw [if_pos h1]; simp)
theorem gridL_mem {n : Nat} {k : Int} {m : Nat} {p : LK} : p ∈ gridL n k m ↔ ∃ i, i < m ∧ p ∈ gridR n k i := by
  induction m with
  | zero => exact ⟨fun h => (by cases h), fun ⟨i, h2, _⟩ => by omega⟩
  | succ m ih =>
    rw [gridL, List.mem_append, ih]
    constructor
    · rintro (⟨i, h1, h2⟩ | h)
      · exact ⟨i, by omega, h2⟩
      · exact ⟨m, by omega, h⟩
    · rintro ⟨i, h1, h2⟩
      by_cases h : i = m
      · subst h; exact .inr h2
      · exact .inl ⟨i, by omega, h2⟩
theorem gridL_apart {n : Nat} {k : Int} (hk : 1 ≤ k) (m : Nat) : Apart (gridL n k m) := by
  intro p hp
  obtain ⟨i, _, h⟩ := gridL_mem.1 hp
  rcases gridR_mem.1 h with ⟨_, _, rfl⟩ | ⟨_, rfl⟩
  · show (i : Int) ≠ (i : Int) + 1
    omega
  · show (i : Int) ≠ (i : Int) + k
    omega
theorem gridL_len (n : Nat) (k : Int) (m : Nat) : (gridL n k m).length ≤ 2 * m := by
  induction m with
  | zero => simp [gridL]
  | succ m ih =>
    rw [gridL, List.length_append]
    have : (gridR n k m).length ≤ 2 := by unfold gridR; split <;> split <;> simp
    omega
set_option maxRecDepth 100000 in
set_option maxHeartbeats 1000000 in
theorem links_1 (n k : Int) (w : World) : Calls Try.prog 8 #[.int .i64 1, .int .i64 n, .int .i64 k] w (LnkP w n (!few n) (lineL n.toNat)) := by
  have K28 := fun W => sketches_any W
  have K29 := fun W => few_any n W
  have hix : ∀ W : World, (Instr.index 53 (.agg tab) (.int .i64 1)).run Try.prog W = .ok (.agg #[.bool false, .func (.func 44) #[] #[]]) W := fun W => by kernel_rfl
  cases hf : few n with
  | false =>
    rw [hf] at K29
    show Calls _ _ _ _ (LnkP w n true _)
    clear hf
    go_enter Try.func8, Try.ntmps8
    go_wp2_with (first
      | (go_at_call 28; refine (K28 _).mono ?_; clear K28; rintro e w1 ⟨rfl, b1⟩; have M := Mem.nil w1)
      | ((with_reducible show wpList _ _ _ (Oper.mk _ (Op.alloc 52) _ _ _ _ :: _) _ _); refine wpList_alloc M rfl rfl rt52 ?_; clear M; intro kt W M)
      | ((with_reducible show wpList _ _ _ (Oper.mk _ (Op.store 52 _ _) _ _ _ _ :: _) _ _); refine wpList_put M rfl _ _ rfl rt52 0 #[.bool false, .func (.func 44) #[] #[]] rfl rfl rfl rfl rfl (by simp [Value.oneCell']) ?_; clear M; intro W2 M; simp only [List.set_cons_zero] at M; have p0 : W2.cell? ⟨kt, 0, none⟩ = some (.bool false) := row_cell (M.get (.head _)) 0 _ rfl; have p1 : W2.cell? ⟨kt, 1, none⟩ = some (.func (.func 44) #[] #[]) := row_cell (M.get (.head _)) 1 _ rfl)
      | (go_at_call 29; refine (K29 _).mono ?_; clear K29; rintro e w3 ⟨rfl, hw3⟩; rw [hw3]; clear hw3 w3))
    refine bodyPost_ret (results_tmp2 rfl _ _ _) rfl ?_
    exact LnkP.bad (b1.trans (M.below.mono b1.size))
  | true =>
    rw [hf] at K29
    show Calls _ _ _ _ (LnkP w n false _)
    obtain ⟨N, rfl, hN1, hN2⟩ := few_nat hf
    rw [Int.toNat_natCast]
    have HNN : Hid (1 ≤ N ∧ N ≤ 16 ∧ few (N : Int) = true) := ⟨hN1, hN2, hf⟩
    have HA : Hid (Apart (lineL N)) := lineL_apart N
    have HLN : Hid ((lineL N).length ≤ 100000) := by show _ ≤ _; rw [lineL_len]; have := HNN.out; omega
    have KP := fun W => line_any (N : Int) k W
    have KS := fun kb W O => sortedfunc_any 60 #[.pointer (some ⟨kb, 0, none⟩)] (enters_of Try.func60 (by kernel_rfl) rfl) (lineL N) (fun A => One A kb (.int .i64 (N : Int))) W HLN.out (fun W' _ => line_gives kb N (by have := HNN.out; omega) W') O
    have KC := fun a m c W (hr : RdL W a m c (srt (lineL N))) => crowded_any (N : Int) a m c (srt (lineL N)) W hr (Apart.srt HA.out) HNN.out.2.2
    obtain ⟨xs, hxs⟩ : ∃ xs, lineL N = xs := ⟨_, rfl⟩
    rw [hxs] at KS KC ⊢
    obtain ⟨cw, hcw⟩ : ∃ b, crowded (N : Int) (srt xs) = b := ⟨_, rfl⟩
    have HCW : Hid (crowded (N : Int) (srt xs) = cw) := hcw
    rw [hcw] at KC
    clear hf hN1 hN2 hxs hcw
    go_enter Try.func8, Try.ntmps8
    go_wp2_with (first
        | (go_at_call 28; refine (K28 _).mono ?_; clear K28; rintro e w1 ⟨rfl, b1⟩; have M := Mem.nil w1)
        | ((with_reducible show wpList _ _ _ (Oper.mk _ (Op.alloc 52) _ _ _ _ :: _) _ _); refine wpList_alloc M rfl rfl rt52 ?_; clear M; intro kt W M)
        | ((with_reducible show wpList _ _ _ (Oper.mk _ (Op.store 52 _ _) _ _ _ _ :: _) _ _); refine wpList_put M rfl _ _ rfl rt52 0 #[.bool false, .func (.func 44) #[] #[]] rfl rfl rfl rfl rfl (by simp [Value.oneCell']) ?_; clear M; intro W2 M; simp only [List.set_cons_zero] at M; have p0 : W2.cell? ⟨kt, 0, none⟩ = some (.bool false) := row_cell (M.get (.head _)) 0 _ rfl; have p1 : W2.cell? ⟨kt, 1, none⟩ = some (.func (.func 44) #[] #[]) := row_cell (M.get (.head _)) 1 _ rfl)
        | (go_at_call 29; refine (K29 _).mono ?_; clear K29; rintro e w3 ⟨rfl, hw3⟩; rw [hw3]; clear hw3 w3)
        | (go_at_call 44; refine (KP _).mono ?_; clear KP; rintro e w4 ⟨rfl, hw4⟩; have b4 : Below W2.heap.size W2 w4 := (by subst hw4; exact (Below.refl _ _).alloc (Nat.le_refl _) _); have KO : ∀ W', Below w4.heap.size w4 W' → One W' W2.heap.size (.int .i64 (N : Int)) := fun W' hb => One.below (by subst hw4; exact One.new _ _ _) hb; clear hw4)
        | (go_at_call 30; refine (KS W2.heap.size w4 KO).mono ?_; clear KS KO; rintro e w5 ⟨a5, c5, rfl, hr5, b5⟩; have KC5 := KC _ _ _ w5 hr5; have b05 : Below w.heap.size w w5 := ((b1.trans (M.below.mono b1.size)).trans (b4.mono (Nat.le_trans b1.size M.below.size))).trans (b5.mono (Nat.le_trans (Nat.le_trans b1.size M.below.size) b4.size)))
        | (go_at_call 32; refine KC5.mono ?_; clear KC5; rintro e w6 ⟨rfl, b6⟩))
    all_goals
      refine bodyPost_ret (results_tmp2 rfl _ _ _) rfl ?_
      first
        | exact LnkP.crowd (b05.trans (b6.mono b05.size)) (by rw [HCW.out]; first | assumption | simp_all)
        | exact LnkP.good (b05.trans (b6.mono b05.size)) (by rw [HCW.out]; first | assumption | simp_all) (hr5.below b6)
end Go.Proofs.Ytpdmpekkmblgmaa
