/-
  Package plan: Distances.
-/
import Derived.Test.YtpdmpekkmblgmaaP4c
namespace Go.Proofs.Ytpdmpekkmblgmaa
open Go.ChangeShapes Go.WideShapes Go.ChangeAt Go.RowKit Go.Maps Go.Shelf
set_option linter.unusedVariables false
set_option linter.unusedSimpArgs false
attribute [local go_sem] Oper.semAt_some

theorem inR_of {n : Int} {l : List LK} (h : rises n l = true) {p : LK} (hp : p ∈ l) : 0 ≤ p.1 ∧ p.1 < p.2 ∧ p.2 < n := by
  obtain ⟨i, hi⟩ := List.getElem?_of_mem hp
  have h1 := rises_at h (List.getElem?_eq_some_iff.1 hi).1
  have h2 : l.getD i LK.z = p := by rw [List.getD_eq_getElem?_getD, hi]; rfl
  unfold okr inR at h1
  rw [h2] at h1
  simp only [Bool.and_eq_true, decide_eq_true_eq] at h1
  omega
theorem nbs_in {n : Int} {l : List LK} (h : rises n l = true) {v u : Int} (hu : u ∈ nbs l v) : 0 ≤ u ∧ u < n := by
  unfold nbs at hu
  obtain ⟨p, hp, e⟩ := List.mem_filterMap.1 hu
  have := inR_of h hp
  unfold nb at e
  split at e
  · cases e; omega
  · split at e
    · cases e; omega
    · cases e
/-- Where the search sets out. -/
def out0 (N : Nat) (v : Int) : List Int := (List.replicate N (-1)).set v.toNat 0
theorem out0_len (N : Nat) (v : Int) : (out0 N v).length = N := by simp [out0]
theorem out0_le (N : Nat) (v : Int) (j : Nat) : (out0 N v).getD j 0 ≤ 0 := by
  unfold out0
  rw [List.getD_eq_getElem?_getD, List.getElem?_set]
  split
  · split <;> simp
  · rw [List.getElem?_replicate]
    split <;> simp
theorem out0_neg {N : Nat} {v : Int} (h : v.toNat < N) : neg (out0 N v) + 1 ≤ N := by
  have h1 : neg (out0 N v) < neg (List.replicate N (-1)) := by
    rw [neg_range, neg_range (List.replicate N (-1)), out0_len, List.length_replicate]
    refine countP_lt (fun j hj _ => ?_) ⟨v.toNat, List.mem_range.2 h, ?_, ?_⟩
    · simp [List.getD_eq_getElem?_getD, List.mem_range.1 hj]
    · simp [List.getD_eq_getElem?_getD, h]
    · unfold out0
      rw [List.getD_eq_getElem?_getD, List.getElem?_set_self (by simpa using h)]
      simp
  have h2 : neg (List.replicate N (-1)) ≤ N := Nat.le_trans (List.countP_le_length) (by simp)
  omega
/-- How far each node is. -/
def dst (N : Nat) (l : List LK) (v : Int) : List Int := if 0 ≤ v ∧ v < (N : Int) then lev l (out0 N v) N else List.replicate N (-1)
theorem dst_len (N : Nat) (l : List LK) (v : Int) : (dst N l v).length = N := by
  unfold dst
  split
  · rw [lev_len, out0_len]
  · simp
theorem few_nat {n : Int} (h : few n = true) : ∃ N : Nat, n = (N : Int) ∧ 1 ≤ N ∧ N ≤ 16 := by
  unfold few at h
  simp only [Bool.and_eq_true, decide_eq_true_eq] at h
  exact ⟨n.toNat, by omega, by omega, by omega⟩
set_option maxRecDepth 100000 in
set_option maxHeartbeats 2000000 in
theorem distances_any (N : Nat) (a : Option Addr) (k cap : Nat) (l : List LK) (v : Int) (w : World) (hr : RdL w a k cap l) (hf : fit (N : Int) l = true) : Calls Try.prog 19 #[.int .i64 (N : Int), .slice a k cap, .int .i64 v] w fun e w' => ∃ g, e = .returned (.slice (some ⟨g, 0, none⟩) N N) ∧ w.heap.size ≤ g ∧ w'.heap[g]? = some (.cells ((dst N l v).map iv).toArray 3 (0, 0)) ∧ Below w.heap.size w w' := by
  have HN : Hid (1 ≤ N ∧ N ≤ 16) := by
    obtain ⟨M, h1, h2, h3⟩ := few_nat (fit_few hf)
    show _ ∧ _
    omega
  have KF := fit_any (N : Int) a k cap l w hr
  rw [hf] at KF
  have KP := fun b W hb hbs => repeat_any b N HN.out.1 HN.out.2 W hb hbs
  have KC := fun g F0 W (hb : Below w.heap.size w W) hg H hn hF hneg => reach_any w a k cap l g N F0 W hr hb hg H hn HN.out.2 (rises_apart (fit_rises hf)) (fun v u hu => nbs_in (fit_rises hf) hu) hF hneg
  clear hr hf
  by_cases h1 : v < 0
  case pos =>
    have HD : Hid (dst N l v = List.replicate N (-1)) := by show _ = _; unfold dst; rw [if_neg (by omega)]
    clear KC
    go_enter Try.func19, Try.ntmps19
    go_wp2_with (first
      | (go_at_call 14; refine KF.mono ?_; clear KF; rintro e w1 ⟨rfl, b1⟩)
      | (go_at_call 38; refine (KP w1.heap.size _ (by simp) (by simp)).mono ?_; clear KP; rintro e w2 ⟨rfl, H2, b2⟩))
    go_ret
    have bA : Below w1.heap.size w1 (w1.alloc (.cells #[.int .i64 (-1)] 3)) := (Below.refl _ w1).alloc (Nat.le_refl _) _
    have b2' := b2.mono (show w.heap.size ≤ _ by have := b1.size; simp; omega)
    exact ⟨_, rfl, by have := b1.size; simp; omega, by rw [HD.out]; rw [World.size_alloc] at H2; exact H2, (b1.trans (bA.mono b1.size)).trans b2'⟩
  case neg =>
    by_cases h2 : (N : Int) ≤ v
    case pos =>
      have HD : Hid (dst N l v = List.replicate N (-1)) := by show _ = _; unfold dst; rw [if_neg (by omega)]
      clear KC
      go_enter Try.func19, Try.ntmps19
      go_wp2_with (first
        | (go_at_call 14; refine KF.mono ?_; clear KF; rintro e w1 ⟨rfl, b1⟩)
        | (go_at_call 38; refine (KP w1.heap.size _ (by simp) (by simp)).mono ?_; clear KP; rintro e w2 ⟨rfl, H2, b2⟩))
      go_ret
      have bA : Below w1.heap.size w1 (w1.alloc (.cells #[.int .i64 (-1)] 3)) := (Below.refl _ w1).alloc (Nat.le_refl _) _
      have b2' := b2.mono (show w.heap.size ≤ _ by have := b1.size; simp; omega)
      exact ⟨_, rfl, by have := b1.size; simp; omega, by rw [HD.out]; rw [World.size_alloc] at H2; exact H2, (b1.trans (bA.mono b1.size)).trans b2'⟩
    case neg =>
      obtain ⟨V, rfl⟩ : ∃ V : Nat, v = (V : Int) := ⟨v.toNat, by omega⟩
      have HD : Hid (dst N l (V : Int) = lev l (out0 N (V : Int)) N ∧ V < N) := by show _ ∧ _; unfold dst; rw [if_pos (by omega)]; exact ⟨rfl, by omega⟩
      have hVN : (V : Int) < (N : Int) := by omega
      go_enter Try.func19, Try.ntmps19
      go_wp2_with (first
        | (go_at_call 14; refine KF.mono ?_; clear KF; rintro e w1 ⟨rfl, b1⟩)
        | (go_at_call 38; refine (KP w1.heap.size _ (by simp) (by simp)).mono ?_; clear KP; rintro e w2 ⟨rfl, H2, b2⟩; rw [World.size_alloc] at H2; have c0 : w2.cell? ⟨w1.heap.size + 1, V, none⟩ = some (.int .i64 (-1)) := row_cell H2 V _ (by have h := HD.out.2; simp [h]); have c1 : w2.frozen? ⟨w1.heap.size + 1, V, none⟩ = false := row_free H2 V)
        | (go_at_call 39; refine (KC (w1.heap.size + 1) (out0 N (V : Int)) _ (by have bA : Below w1.heap.size w1 (w1.alloc (.cells #[.int .i64 (-1)] 3)) := (Below.refl _ w1).alloc (Nat.le_refl _) _; have b3 : Below w.heap.size w w2 := (b1.trans (bA.mono b1.size)).trans (b2.mono (show w.heap.size ≤ _ by have := b1.size; simp; omega)); exact b3.setCell (p := ⟨w1.heap.size + 1, V, none⟩) (show w.heap.size ≤ w1.heap.size + 1 by have := b1.size; omega) _) (by have := b1.size; omega) (by rw [set_row H2]; simp [out0, List.map_set]; rw [← List.toArray_replicate, List.setIfInBounds_toArray]) (out0_len _ _) (fun j => out0_le N (V : Int) j) (out0_neg (by have := HD.out.2; rw [Int.toNat_natCast]; exact this))).mono ?_; clear KC; rintro e w3 ⟨rfl, H3, b3⟩))
      go_ret
      exact ⟨_, rfl, by have := b1.size; omega, by rw [HD.out.1]; exact H3, b3⟩
end Go.Proofs.Ytpdmpekkmblgmaa
