/-
  The document: Degree, Fit.
-/
import Derived.Test.YtpdmpekkmblgmaaP3b
import Derived.Test.YtpdmpekkmblgmaaP5
import Derived.Test.YtpdmpekkmblgmaaP9b
namespace Go.Proofs.Ytpdmpekkmblgmaa
open Go.ChangeShapes Go.WideShapes Go.ChangeAt Go.RowKit Go.Maps Go.Shelf
set_option linter.unusedVariables false
set_option linter.unusedSimpArgs false
attribute [local go_sem] Oper.semAt_some

theorem dg_take (l : List LK) (v : Int) (i : Nat) (p : LK) (h : l[i]? = some p) : dg (l.take (i + 1)) v = dg (l.take i) v + (if p.1 = v ∨ p.2 = v then 1 else 0) := by
  unfold dg
  cases hn : nb v p with
  | none =>
    have hno : ¬ (p.1 = v ∨ p.2 = v) := by
      rintro (e | e)
      · unfold nb at hn; rw [if_pos e] at hn; cases hn
      · unfold nb at hn; rw [if_pos e] at hn; split at hn <;> cases hn
    simp [nbs_take_none h hn, hno]
  | some u =>
    rw [nbs_take_some h hn, List.length_append, if_pos]
    · rfl
    · unfold nb at hn
      split at hn
      · exact .inl (by assumption)
      · split at hn
        · exact .inr (by assumption)
        · cases hn
theorem cellsL {W : World} {b o : Nat} {p q : Int} (h : W.rangeAt b o (LK.cells (p, q))) : W.cell? ⟨b, o, none⟩ = some (.int .i64 p) ∧ W.cell? ⟨b, o + 1, none⟩ = some (.int .i64 q) := ⟨h 0 _ rfl, h 1 _ rfl⟩
set_option maxRecDepth 100000 in
set_option maxHeartbeats 1000000 in
theorem rdegree_any (a : Option Addr) (k cap : Nat) (l : List LK) (v : Int) (w : World) (hr : RdL w a k cap l) : Calls Try.prog 17 #[.slice a k cap, .int .i64 v] w fun e w' => e = .returned (.int .i64 (dg l v : Nat)) ∧ w' = w := by
  have HN : Hid (k ≤ 140737488355328) := hr.small
  have HL : Hid (l.length = k) := hr.size
  go_enter Try.func17, Try.ntmps17
  go_wp2
  go_loopg [5, 6] k (fun gk v5 v6 wr => ∃ i : Nat, v5 = .int .i64 ((dg (l.take i) v : Nat) : Int) ∧ v6 = .int .i64 (i : Int) ∧ i + gk = k ∧ wr = w)
  case atStart => exact ⟨0, by rw [List.take_zero]; rfl, by first | rfl | go_num, by omega, rfl⟩
  case round =>
    obtain ⟨i, rfl, rfl, hg, rfl⟩ := hrel
    by_cases hi : i < k
    case neg =>
      have hiI : ¬ (i : Int) < (k : Int) := by omega
      have HT : Hid (l.take i = l) := by show _ = _; rw [List.take_of_length_le (by have := HL.out; omega)]
      rw [HT.out]
      go_wp2
      go_ret
      exact ⟨rfl, rfl⟩
    case pos =>
      have hiI : (i : Int) < (k : Int) := by omega
      obtain ⟨b, off, rfl, hb, hd, hra⟩ := hr.at i hi
      obtain ⟨⟨p, q⟩, hgi⟩ : ∃ x : LK, l.getD i LK.z = x := ⟨_, rfl⟩
      rw [hgi] at hra hd
      obtain ⟨c0, c1⟩ := cellsL hra
      have HDL : Hid (dg (l.take i) v ≤ i) := nbs_len l v i
      obtain ⟨d, hdd⟩ : ∃ d, dg (l.take i) v = d := ⟨_, rfl⟩
      have hS := dg_take l v i (p, q) hd
      rw [hdd] at hS
      rw [hdd]
      have HDD : Hid (d ≤ i ∧ i < k) := ⟨by have := HDL.out; omega, hi⟩
      clear hd hgi hra hdd HDL
      by_cases h1 : p = v
      case pos =>
        have HS : Hid (dg (l.take (i + 1)) v = d + 1) := by show _ = _; rw [hS, if_pos (Or.inl h1)]
        subst h1
        clear hS
        have hin : IntKind.i64.wrap ((i : Int) + 1) = (i : Int) + 1 := by rw [IntKind.wrap_i64]; have := HN.out; omega
        have hd1 : IntKind.i64.wrap ((d : Int) + 1) = (d : Int) + 1 := by rw [IntKind.wrap_i64]; have := HN.out; have := HDD.out; omega
        go_wp2
        go_roundg (gk - 1)
        case measure => omega
        case rel => exact ⟨i + 1, by first | (rw [HS.out]; done) | (rw [HS.out]; first | rfl | go_num), by first | rfl | go_num, by omega, rfl⟩
      case neg =>
        have h1' : (p == v) = false := by simpa using h1
        by_cases h2 : q = v
        case pos =>
          have HS : Hid (dg (l.take (i + 1)) v = d + 1) := by show _ = _; rw [hS, if_pos (Or.inr h2)]
          subst h2
          clear hS h1
          have hin : IntKind.i64.wrap ((i : Int) + 1) = (i : Int) + 1 := by rw [IntKind.wrap_i64]; have := HN.out; omega
          have hd1 : IntKind.i64.wrap ((d : Int) + 1) = (d : Int) + 1 := by rw [IntKind.wrap_i64]; have := HN.out; have := HDD.out; omega
          go_wp2
          go_roundg (gk - 1)
          case measure => omega
          case rel => exact ⟨i + 1, by first | (rw [HS.out]; done) | (rw [HS.out]; first | rfl | go_num), by first | rfl | go_num, by omega, rfl⟩
        case neg =>
          have h2' : (q == v) = false := by simpa using h2
          have HS : Hid (dg (l.take (i + 1)) v = d) := by show _ = _; rw [hS, if_neg (by rintro (e | e); exact h1 e; exact h2 e), Nat.add_zero]
          clear hS h1 h2
          have hin : IntKind.i64.wrap ((i : Int) + 1) = (i : Int) + 1 := by rw [IntKind.wrap_i64]; have := HN.out; omega
          have hd1 : IntKind.i64.wrap ((d : Int) + 1) = (d : Int) + 1 := by rw [IntKind.wrap_i64]; have := HN.out; have := HDD.out; omega
          go_wp2
          go_roundg (gk - 1)
          case measure => omega
          case rel => exact ⟨i + 1, by first | (rw [HS.out]; done) | (rw [HS.out]; first | rfl | go_num), by first | rfl | go_num, by omega, rfl⟩

/-- The document's look at a pair. -/
def okd (n : Int) (l : List LK) (i : Nat) : Bool := okr n l i && (decide (dg l (l.getD i LK.z).1 ≤ 6) && decide (dg l (l.getD i LK.z).2 ≤ 6))
def fitD (n : Int) (l : List LK) : Bool := few n && (decide ((l.length : Int) ≤ n * n) && (List.range l.length).all (okd n l))
theorem rises_len {N : Nat} {l : List LK} (h : rises (N : Int) l = true) : l.length ≤ N * N := by
  have h0 : ∀ i, i < l.length → (i : Int) ≤ (l.getD i LK.z).1 * N + (l.getD i LK.z).2 := by
    intro i
    induction i with
    | zero =>
      intro hi
      have h1 := rises_at h hi
      unfold okr inR at h1
      simp only [Bool.and_eq_true, decide_eq_true_eq] at h1
      have := Int.mul_nonneg h1.1.1.1 (Int.natCast_nonneg N)
      omega
    | succ i ih =>
      intro hi
      have h1 := rises_at h hi
      have h2 := rises_at h (show i < l.length by omega)
      have h3 := ih (by omega)
      unfold okr inR upA at h1 h2
      simp only [Bool.and_eq_true, decide_eq_true_eq, Bool.or_eq_true, Nat.add_sub_cancel] at h1 h2
      generalize l.getD i LK.z = p at *
      generalize l.getD (i + 1) LK.z = q at *
      have h4 := (ltL_iff p q).1 (by unfold ltL; rw [decide_eq_true_eq]; exact h1.2.resolve_left (by omega))
      rcases h4 with h4 | ⟨h4, h5⟩
      · have : p.1 * N + N ≤ q.1 * N := by
          have := Int.mul_le_mul_of_nonneg_right (show p.1 + 1 ≤ q.1 by omega) (Int.natCast_nonneg N)
          rw [Int.add_mul, Int.one_mul] at this
          exact this
        omega
      · rw [← h4]
        omega
  by_cases hl : l.length = 0
  · omega
  · have h1 := h0 (l.length - 1) (by omega)
    have h2 := rises_at h (show l.length - 1 < l.length by omega)
    unfold okr inR at h2
    simp only [Bool.and_eq_true, decide_eq_true_eq] at h2
    generalize l.getD (l.length - 1) LK.z = p at *
    have h3 : p.1 * N + N ≤ (N : Int) * N := by
      have := Int.mul_le_mul_of_nonneg_right (show p.1 + 1 ≤ (N : Int) by omega) (Int.natCast_nonneg N)
      rw [Int.add_mul, Int.one_mul] at this
      exact this
    have h4 : ((N * N : Nat) : Int) = (N : Int) * N := by simp
    omega
/-- The document's Fit is the program's. -/
theorem fitD_eq (n : Int) (l : List LK) : fitD n l = fit n l := by
  cases hf : few n with
  | false => unfold fitD fit; rw [hf]; rfl
  | true =>
    obtain ⟨N, rfl, h1, h2⟩ := few_nat hf
    have key : fitD (N : Int) l = true ↔ fit (N : Int) l = true := by
      unfold fitD fit
      simp only [hf, Bool.true_and, Bool.and_eq_true, decide_eq_true_eq, List.all_eq_true, List.mem_range, Bool.not_eq_true']
      constructor
      · rintro ⟨_, h⟩
        have hr : rises (N : Int) l = true := rises_yes (fun i hi => by have := h i hi; unfold okd at this; simp only [Bool.and_eq_true] at this; exact this.1)
        refine ⟨hr, crowded_no (fun v hv h6 => ?_)⟩
        have : 0 < (nbs l (v : Int)).length := by unfold dg at h6; omega
        obtain ⟨u, hu⟩ := List.exists_mem_of_length_pos this
        unfold nbs at hu
        obtain ⟨p, hp, e⟩ := List.mem_filterMap.1 hu
        obtain ⟨i, hi⟩ := List.getElem?_of_mem hp
        have h3 := h i (List.getElem?_eq_some_iff.1 hi).1
        unfold okd at h3
        rw [show l.getD i LK.z = p by rw [List.getD_eq_getElem?_getD, hi]; rfl] at h3
        simp only [Bool.and_eq_true, decide_eq_true_eq] at h3
        unfold nb at e
        split at e
        · rename_i e1; rw [e1] at h3; omega
        · split at e
          · rename_i e1; rw [e1] at h3; omega
          · cases e
      · rintro ⟨hr, hc⟩
        refine ⟨by have := rises_len hr; have h4 : ((N * N : Nat) : Int) = (N : Int) * N := by simp
                   omega, fun i hi => ?_⟩
        unfold okd
        simp only [Bool.and_eq_true, decide_eq_true_eq]
        have h3 := rises_at hr hi
        have h4 := h3
        unfold okr inR at h4
        simp only [Bool.and_eq_true, decide_eq_true_eq] at h4
        refine ⟨h3, ?_, ?_⟩
        · have := crowded_at hc (v := (l.getD i LK.z).1.toNat) (by omega)
          rwa [Int.toNat_of_nonneg (by omega)] at this
        · have := crowded_at hc (v := (l.getD i LK.z).2.toNat) (by omega)
          rwa [Int.toNat_of_nonneg (by omega)] at this
    cases h3 : fit (N : Int) l with
    | true => exact key.2 h3
    | false =>
      cases h4 : fitD (N : Int) l with
      | true => rw [key.1 h4] at h3; cases h3
      | false => rfl
end Go.Proofs.Ytpdmpekkmblgmaa
