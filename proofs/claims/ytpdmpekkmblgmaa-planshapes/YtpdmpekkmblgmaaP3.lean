/-
  Package plan: pairs that rise; a node in too many; Fit.
-/
import Derived.Test.YtpdmpekkmblgmaaP1b
import Derived.Test.YtpdmpekkmblgmaaP2b
namespace Go.Proofs.Ytpdmpekkmblgmaa
open Go.ChangeShapes Go.WideShapes Go.ChangeAt Go.RowKit Go.Maps Go.Shelf
set_option linter.unusedVariables false
set_option linter.unusedSimpArgs false
attribute [local go_sem] Oper.semAt_some

def inR (n : Int) (p : LK) : Bool := decide (0 ≤ p.1) && decide (p.1 < p.2) && decide (p.2 < n)
def upA (l : List LK) (i : Nat) : Bool := decide (i = 0) || decide (ordL (l.getD (i - 1) LK.z) (l.getD i LK.z) < 0)
def okr (n : Int) (l : List LK) (i : Nat) : Bool := inR n (l.getD i LK.z) && upA l i
/-- Pairs of nodes below n, the lesser one first, that rise. -/
def rises (n : Int) (l : List LK) : Bool := (List.range l.length).all (okr n l)
theorem rises_no {n : Int} {l : List LK} {i : Nat} (hi : i < l.length) (h : okr n l i = false) : rises n l = false := by
  unfold rises
  rw [List.all_eq_false]
  exact ⟨i, List.mem_range.2 hi, by rw [h]; decide⟩
theorem rises_yes {n : Int} {l : List LK} (h : ∀ i, i < l.length → okr n l i = true) : rises n l = true := by
  unfold rises
  rw [List.all_eq_true]
  exact fun i hi => h i (List.mem_range.1 hi)
theorem rises_at {n : Int} {l : List LK} (h : rises n l = true) {i : Nat} (hi : i < l.length) : okr n l i = true := by
  unfold rises at h
  rw [List.all_eq_true] at h
  exact h i (List.mem_range.2 hi)
theorem rises_apart {n : Int} {l : List LK} (h : rises n l = true) : Apart l := by
  intro p hp
  obtain ⟨i, hi⟩ := List.getElem?_of_mem hp
  have h1 := rises_at h (List.getElem?_eq_some_iff.1 hi).1
  have h2 : l.getD i LK.z = p := by rw [List.getD_eq_getElem?_getD, hi]; rfl
  unfold okr inR at h1
  rw [h2] at h1
  simp only [Bool.and_eq_true, decide_eq_true_eq] at h1
  omega
theorem order_below (p q : LK) (w : World) : Calls Try.prog 31 #[.agg #[.int .i64 p.1, .int .i64 p.2], .agg #[.int .i64 q.1, .int .i64 q.2]] w fun e w' => e = .returned (.int .i64 (ordL p q)) ∧ Below w.heap.size w w' :=
  (order_any p.1 p.2 q.1 q.2 w).mono fun e w' ⟨h1, h2⟩ => ⟨h1, by rw [h2]; exact (((Below.refl _ w).alloc (Nat.le_refl _) _).alloc (by simp) _).drew.alloc (by simp; omega) _⟩
set_option maxRecDepth 100000 in
set_option maxHeartbeats 1000000 in
theorem rises_any (n : Int) (a : Option Addr) (k cap : Nat) (l : List LK) (w : World) (hr : RdL w a k cap l) : Calls Try.prog 36 #[.int .i64 n, .slice a k cap] w fun e w' => e = .returned (.bool (rises n l)) ∧ Below w.heap.size w w' := by
  have HN : Hid (k ≤ 140737488355328) := hr.small
  have HL : Hid (l.length = k) := hr.size
  go_enter Try.func36, Try.ntmps36
  go_wp2
  go_loopg [9] k (fun gk v9 wr => ∃ i : Nat, v9 = .int .i64 (i : Int) ∧ i + gk = k ∧ Below w.heap.size w wr ∧ ∀ j, j < i → okr n l j = true)
  case atStart => exact ⟨0, by first | rfl | go_num, by omega, Below.refl _ _, fun j hj => by omega⟩
  case round =>
    obtain ⟨i, rfl, hg, B, hok⟩ := hrel
    have HOK : Hid (∀ j, j < i → okr n l j = true) := hok
    clear hok
    by_cases hi : i < k
    case neg =>
      have HF : Hid (rises n l = true) := rises_yes (fun j hj => HOK.out j (by have := HL.out; omega))
      have hin : ¬ (i : Int) < (k : Int) := by omega
      go_wp2
      go_ret
      exact ⟨ret_bool HF.out.symm, B⟩
    case pos =>
      have hiI : (i : Int) < (k : Int) := by omega
      have HI : Hid (i < l.length) := by show i < _; rw [HL.out]; exact hi
      obtain ⟨b, off, rfl, hb, hd, hra⟩ := (hr.below B).at i hi
      obtain ⟨⟨p, q⟩, hgi⟩ : ∃ x : LK, l.getD i LK.z = x := ⟨_, rfl⟩
      have HG : Hid (l.getD i LK.z = (p, q)) := hgi
      rw [hgi] at hra
      have LD : ∀ {ops : Array Oper} {rest : List Oper} {o : Oper} {A : Act} {Q : Exit → Act → World → Prop} (hgd : o.guard = none) (x : Operand) (ho : o.op = .load 49 x) (hx : A.eval x = .pointer (some ⟨b, off + i * 2, none⟩))
          (h : wpList Try.prog ops Q rest (A.put o.dst (.agg #[.int .i64 p, .int .i64 q])) wr), wpList Try.prog ops Q (o :: rest) A wr := fun hgd x ho hx h => wpList_load49 hgd x ho b _ (p, q) hx hra h
      have BA := B.alloc B.size (.cells #[.int .i64 p, .int .i64 q] 49)
      clear hd hgi
      by_cases h1 : p < 0
      case pos =>
        have HF : Hid (rises n l = false) := rises_no HI.out (by unfold okr inR; rw [HG.out]; simp; intros; omega)
        go_wp2_with ((with_reducible show wpList _ _ _ (Oper.mk _ (Op.load 49 (Operand.tmp 12)) _ _ _ _ :: _) _ _); refine LD rfl _ rfl rfl ?_)
        go_ret
        exact ⟨ret_bool HF.out.symm, BA⟩
      case neg =>
        by_cases h2 : q ≤ p
        case pos =>
          have HF : Hid (rises n l = false) := rises_no HI.out (by unfold okr inR; rw [HG.out]; simp; intros; omega)
          go_wp2_with ((with_reducible show wpList _ _ _ (Oper.mk _ (Op.load 49 (Operand.tmp 12)) _ _ _ _ :: _) _ _); refine LD rfl _ rfl rfl ?_)
          go_ret
          exact ⟨ret_bool HF.out.symm, BA⟩
        case neg =>
          by_cases h3 : n ≤ q
          case pos =>
            have HF : Hid (rises n l = false) := rises_no HI.out (by unfold okr inR; rw [HG.out]; simp; intros; omega)
            go_wp2_with ((with_reducible show wpList _ _ _ (Oper.mk _ (Op.load 49 (Operand.tmp 12)) _ _ _ _ :: _) _ _); refine LD rfl _ rfl rfl ?_)
            go_ret
            exact ⟨ret_bool HF.out.symm, BA⟩
          case neg =>
            have HR : Hid (inR n (p, q) = true) := by show _ = true; unfold inR; simp; omega
            by_cases h0 : i = 0
            case pos =>
              have hi0I : ¬ (0 : Int) < (i : Int) := by omega
              have hdi : decide (0 < i) = false := decide_eq_false (by omega)
              have HU : Hid (okr n l i = true) := by show _ = true; unfold okr upA; rw [HG.out, HR.out, h0]; rfl
              have hin : IntKind.i64.wrap ((i : Int) + 1) = (i : Int) + 1 := by rw [IntKind.wrap_i64]; have := HN.out; omega
              clear h0
              go_wp2_with ((with_reducible show wpList _ _ _ (Oper.mk _ (Op.load 49 (Operand.tmp 12)) _ _ _ _ :: _) _ _); refine LD rfl _ rfl rfl ?_)
              have X6 := World.alloc_heap_new wr (.cells #[.int .i64 p, .int .i64 q] 49)
              obtain ⟨W4, hW4⟩ : ∃ X, wr.alloc (.cells #[.int .i64 p, .int .i64 q] 49) = X := ⟨_, rfl⟩
              rw [hW4] at X6 BA ⊢
              clear hW4
              refine wp_region_qw (fun X => Below W4.heap.size W4 X) (by kernel_rfl) (by kernel_rfl) (Below.refl _ _).drew ?_
              repeat (first
                | (refine QW.skip (by rfl) ?_; simp only [Act.put, List.setIfInBounds_toArray, List.set_cons_zero, List.set_cons_succ])
                | (refine QW.op (by rfl) ?_; apply Exists.intro; refine ⟨fun X hX => ?_, ?_⟩; (go_simp <;> first | exact rfl); simp only [Act.put, List.setIfInBounds_toArray, List.set_cons_zero, List.set_cons_succ]))
              refine QW.nil ?_
              intro X hS
              go_wp2
              go_roundg (gk - 1)
              case measure => omega
              case rel => exact ⟨i + 1, by first | rfl | go_num, by omega, BA.trans (hS.mono BA.size), fun j hj => (Nat.lt_succ_iff_lt_or_eq.1 hj).elim (HOK.out j) (fun e => by rw [e]; exact HU.out)⟩
            case neg =>
              have hi0I : (0 : Int) < (i : Int) := by omega
              have hdi : decide (0 < i) = true := decide_eq_true (by omega)
              have hsub : IntKind.i64.wrap ((i : Int) - 1) = ((i - 1 : Nat) : Int) := by rw [IntKind.wrap_i64]; have := HN.out; omega
              have hiI2 : ((i - 1 : Nat) : Int) < (k : Int) := by omega
              obtain ⟨g2, off2, e2, _, _, hrp⟩ := (hr.below B).at (i - 1) (by omega)
              cases e2
              obtain ⟨⟨p1, q1⟩, hpn⟩ : ∃ x : LK, l.getD (i - 1) LK.z = x := ⟨_, rfl⟩
              rw [hpn] at hrp
              obtain ⟨o, hor⟩ : ∃ o, ordL (p1, q1) (p, q) = o := ⟨_, rfl⟩
              have BB := (Below.refl _ wr).alloc (Nat.le_refl _) (.cells #[.int .i64 p, .int .i64 q] 49)
              by_cases ho : 0 ≤ o
              case pos =>
                have HF : Hid (rises n l = false) := rises_no HI.out (by unfold okr upA; rw [HG.out, hpn, hor]; simp; omega)
                clear hpn h0
                go_wp2_with ((with_reducible show wpList _ _ _ (Oper.mk _ (Op.load 49 (Operand.tmp 12)) _ _ _ _ :: _) _ _); refine LD rfl _ rfl rfl ?_)
                have X6 := World.alloc_heap_new wr (.cells #[.int .i64 p, .int .i64 q] 49)
                obtain ⟨W4, hW4⟩ : ∃ X, wr.alloc (.cells #[.int .i64 p, .int .i64 q] 49) = X := ⟨_, rfl⟩
                rw [hW4] at X6 BA BB ⊢
                clear hW4
                refine wp_region_qw (fun X => Below W4.heap.size W4 X) (by kernel_rfl) (by kernel_rfl) (Below.refl _ _).drew ?_
                repeat (first
                  | (refine QW.skip (by rfl) ?_; simp only [Act.put, List.setIfInBounds_toArray, List.set_cons_zero, List.set_cons_succ])
                  | (refine QW.val (.agg #[.int .i64 p, .int .i64 q]) (by rfl) (fun X hX => exec_loadr rfl rt49 rfl ((hX.block _ (row_lt X6)).trans X6) rfl) ?_; simp only [Act.put, List.setIfInBounds_toArray, List.set_cons_zero, List.set_cons_succ])
                  | (refine QW.val (.agg #[.int .i64 p1, .int .i64 q1]) (by rfl) (fun X hX => exec_load49 rfl b (off + (i - 1) * 2) (p1, q1) rfl (range_later hrp hb (BB.trans (hX.mono BB.size)))) ?_; simp only [Act.put, List.setIfInBounds_toArray, List.set_cons_zero, List.set_cons_succ])
                  | (refine QW.op (by rfl) ?_; apply Exists.intro; refine ⟨fun X hX => ?_, ?_⟩; (have s1 := hsub; have s2 := hiI2; go_simp <;> first | (go_at_call 31; refine (order_below (p1, q1) (p, q) X).mono ?_; rw [hor]; rintro e x1 ⟨rfl, b1⟩; exact ⟨rfl, hX.trans (b1.mono hX.size)⟩) | exact rfl); simp only [Act.put, List.setIfInBounds_toArray, List.set_cons_zero, List.set_cons_succ]))
                refine QW.nil ?_
                intro X hS
                go_wp2
                go_ret
                exact ⟨ret_bool HF.out.symm, BA.trans (hS.mono BA.size)⟩
              case neg =>
                have HU : Hid (okr n l i = true) := by show _ = true; unfold okr upA; rw [HG.out, HR.out, hpn, hor]; simp; omega
                have hin : IntKind.i64.wrap ((i : Int) + 1) = (i : Int) + 1 := by rw [IntKind.wrap_i64]; have := HN.out; omega
                clear hpn h0
                go_wp2_with ((with_reducible show wpList _ _ _ (Oper.mk _ (Op.load 49 (Operand.tmp 12)) _ _ _ _ :: _) _ _); refine LD rfl _ rfl rfl ?_)
                have X6 := World.alloc_heap_new wr (.cells #[.int .i64 p, .int .i64 q] 49)
                obtain ⟨W4, hW4⟩ : ∃ X, wr.alloc (.cells #[.int .i64 p, .int .i64 q] 49) = X := ⟨_, rfl⟩
                rw [hW4] at X6 BA BB ⊢
                clear hW4
                refine wp_region_qw (fun X => Below W4.heap.size W4 X) (by kernel_rfl) (by kernel_rfl) (Below.refl _ _).drew ?_
                repeat (first
                  | (refine QW.skip (by rfl) ?_; simp only [Act.put, List.setIfInBounds_toArray, List.set_cons_zero, List.set_cons_succ])
                  | (refine QW.val (.agg #[.int .i64 p, .int .i64 q]) (by rfl) (fun X hX => exec_loadr rfl rt49 rfl ((hX.block _ (row_lt X6)).trans X6) rfl) ?_; simp only [Act.put, List.setIfInBounds_toArray, List.set_cons_zero, List.set_cons_succ])
                  | (refine QW.val (.agg #[.int .i64 p1, .int .i64 q1]) (by rfl) (fun X hX => exec_load49 rfl b (off + (i - 1) * 2) (p1, q1) rfl (range_later hrp hb (BB.trans (hX.mono BB.size)))) ?_; simp only [Act.put, List.setIfInBounds_toArray, List.set_cons_zero, List.set_cons_succ])
                  | (refine QW.op (by rfl) ?_; apply Exists.intro; refine ⟨fun X hX => ?_, ?_⟩; (have s1 := hsub; have s2 := hiI2; go_simp <;> first | (go_at_call 31; refine (order_below (p1, q1) (p, q) X).mono ?_; rw [hor]; rintro e x1 ⟨rfl, b1⟩; exact ⟨rfl, hX.trans (b1.mono hX.size)⟩) | exact rfl); simp only [Act.put, List.setIfInBounds_toArray, List.set_cons_zero, List.set_cons_succ]))
                refine QW.nil ?_
                intro X hS
                go_wp2
                go_roundg (gk - 1)
                case measure => omega
                case rel => exact ⟨i + 1, by first | rfl | go_num, by omega, BA.trans (hS.mono BA.size), fun j hj => (Nat.lt_succ_iff_lt_or_eq.1 hj).elim (HOK.out j) (fun e => by rw [e]; exact HU.out)⟩
end Go.Proofs.Ytpdmpekkmblgmaa
