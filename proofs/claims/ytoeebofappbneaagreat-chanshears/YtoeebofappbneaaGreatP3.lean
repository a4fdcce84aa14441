/-
  Package dir: the iterator over what two rising lists have of each name.
-/
import Derived.Test.YtoeebofappbneaaGreatP2
import Derived.Test.YtoeebofappbneaaGreatHeldM
import Derived.Test.YtoeebofappbneaaGreatHeldIn
namespace Go.Proofs.YtoeebofappbneaaGreat
open Go.ChangeShapes Go.WideShapes Go.ChangeAt Go.RowKit Go.Maps Go.Shelf
set_option linter.unusedVariables false
set_option linter.unusedSimpArgs false
attribute [local go_sem] Oper.semAt_some

abbrev encF (x : FO × FO) : Array Value := #[.agg (fcs x.1), .agg (fcs x.2)]
/-- What the iterator reads stays. -/
structure KeepB (w0 : World) (f1 f2 : Nat) (v1 v2 : Value) (A : World) : Prop where
  below : Below w0.heap.size w0 A
  one1 : One A f1 v1
  one2 : One A f2 v2
theorem MemG.re {N : Nat} {C : Nat → Prop} {w W : World} {L : List Blk} (M : MemG N C w W L) : MemG N C W W L := ⟨Same.refl _ _ _, M.size, fun b h => Nat.lt_of_lt_of_le (M.cb b h) M.same.size, M.at_, M.nd⟩
theorem drop_cons {α : Type} {L : List α} {k : Nat} {p : α} {r : List α} (h : L.drop k = p :: r) : L[k]? = some p ∧ L.drop (k + 1) = r := by
  constructor
  · have := congrArg (fun l => l[0]?) h
    simpa using this
  · rw [← List.drop_drop, h]
    rfl
theorem drop_at {l : List CH} {i : Nat} {x : CH} (h : l[i]? = some x) : l.drop i = x :: l.drop (i + 1) := by
  obtain ⟨h1, h2⟩ := List.getElem?_eq_some_iff.1 h
  rw [List.drop_eq_getElem_cons h1, h2]
theorem drop_no {l : List CH} {i : Nat} (h : l[i]? = none) : l.drop i = [] := List.drop_eq_nil_of_le (List.getElem?_eq_none_iff.1 h)
section
variable {F : Fence} {n : Nat} {ops : Array Oper} {rest : List Oper} {o : Oper} {A : Act} {w W : World} {l : List Blk} {Q : Exit → Act → World → Prop} {t : TypeId} {z : Array Value} {N : Nat} {C : Nat → Prop}
theorem wpListIn_load (M : MemG N C w W l) (hgd : o.guard = none) (x : Operand) (ho : o.op = .load t x) (R : RT t z) {k : Nat} {c : Array Value} (hx : A.eval x = .pointer (some ⟨k, 0, none⟩)) (hk : (k, c, t) ∈ l) (hs : c.size = z.size)
    (H : wpListIn F n Tryz.prog ops Q rest (A.put o.dst (.agg c)) W) : wpListIn F n Tryz.prog ops Q (o :: rest) A W := by
  refine wpListIn_plain hgd fun K hK => ?_
  unfold Oper.wpIn
  refine ⟨?_, ?_⟩
  · simp [Oper.about, ho]
  · rw [Oper.semAt_plain F _ _ (by rw [ho]; intro c hc'; cases hc'), exec_loadr ho R hx (M.get hk) hs]
    exact hK _ _ H
end
theorem MemG.turn {N : Nat} {C C' : Nat → Prop} {w W W' : World} {L : List Blk} (M : MemG N C w W L) (t : Turn N C C' W W') : MemG N C' W' W' L := by
  refine ⟨Same.refl _ _ _, Nat.le_trans M.size t.size, fun b h => (t.mine b h).2.1, fun p hp => ?_, M.nd⟩
  obtain ⟨h1, h2, h3⟩ := M.at_ p hp
  refine ⟨(t.keep p.1 h2 (row_lt h1) h3).trans h1, h2, fun h => ?_⟩
  rcases (t.mine _ h).2.2 with h | h
  · exact h3 h
  · have := row_lt h1; omega
set_option maxRecDepth 100000 in
set_option maxHeartbeats 8000000 in
theorem byname_gives (w0 : World) (f1 f2 : Nat) (a : Option Addr) (n cap : Nat) (l : List CH) (a' : Option Addr) (n' cap' : Nat) (m : List CH) (w : World) (hr : RdC w0 a n cap l) (hr' : RdC w0 a' n' cap' m) :
    Gives Tryz.prog 113 #[.pointer (some ⟨f1, 0, none⟩), .pointer (some ⟨f2, 0, none⟩)] encF (Z l m) w (KeepB w0 f1 f2 (.slice a n cap) (.slice a' n' cap')) := by
  intro lp J Jx W hbW hJ hJx hKeep hY h0
  have K0 := hKeep _ _ _ h0
  have HN : Hid (n ≤ 140737488355328) := hr.small
  have HL : Hid (l.length = n) := hr.size
  have HN' : Hid (n' ≤ 140737488355328) := hr'.small
  have HL' : Hid (m.length = n') := hr'.size
  have M := Mem.nil W
  obtain ⟨xs, hxs⟩ : ∃ xs, Z l m = xs := ⟨_, rfl⟩
  rw [hxs] at hY ⊢
  have HXS : Hid (Z l m = xs) := hxs
  clear hxs
  show Calls Tryz.prog 113 #[.func (.yield lp) #[] #[], .pointer (some ⟨f1, 0, none⟩), .pointer (some ⟨f2, 0, none⟩)] W _
  go_enter Tryz.func113, Tryz.ntmps113
  go_wp2_with (fail)
  refine wp_region_any (by kernel_rfl) ?_
  change wpAny _ _ _ _ _ _ _ (World.drew _)
  replace M := M.drew
  generalize World.drew W = WD at M ⊢
  refine wpAny_narrow (fun W' => Below W.heap.size W W') _ _ _ _ ?_
  refine anyH_take 0 11 (.slice a n cap) rfl rfl (by kernel_rfl) (by kernel_rfl) (by kernel_rfl) (fun _ _ _ h => h) (Or.inl ⟨by rfl, by intro w hSw; have s1 : w.cell? ⟨f1, 0, none⟩ = some (.slice a n cap) := (K0.one1.below hSw).1; go_simp⟩) (M.below) ?_
  try simp only [Act.put, List.setIfInBounds_toArray, List.set_cons_zero, List.set_cons_succ]
  refine anyH_take 2 13 (.slice a' n' cap') rfl rfl (by kernel_rfl) (by kernel_rfl) (by kernel_rfl) (fun _ _ _ h => h) (Or.inl ⟨by rfl, by intro w hSw; have s1 : w.cell? ⟨f2, 0, none⟩ = some (.slice a' n' cap') := (K0.one2.below hSw).1; go_simp⟩) (M.below) ?_
  try simp only [Act.put, List.setIfInBounds_toArray, List.set_cons_zero, List.set_cons_succ]
  refine wpAnyH_ready (rs := [1]) (by kernel_rfl) (by simp) ?_
  refine AllReadyH.cons rfl (fun K hK => ?_) AllReadyH.nil
  go_simp
  go_wp2_with (go_at_call 114; refine (mkpull_any M a n cap).mono ?_; clear M; rintro e w1 ⟨ka1, ks1, rfl, M⟩)
  refine hK.out _ _ (M.below) (fun hS => ?_)
  clear hK
  refine wpAnyH_ready (rs := [3]) (by kernel_rfl) (by simp) ?_
  refine AllReadyH.cons rfl (fun K hK => ?_) AllReadyH.nil
  go_simp
  go_wp2_with (go_at_call 114; refine (mkpull_any M a' n' cap').mono ?_; clear M; rintro e w1 ⟨ka2, ks2, rfl, M⟩)
  refine hK.out _ _ (M.below) (fun hS => ?_)
  clear hK
  refine anyH_take 4 4 (.func (.func 119) #[] #[.pointer (some ⟨ka1, 0, none⟩), .pointer (some ⟨ks1, 0, none⟩)]) rfl rfl (by kernel_rfl) (by kernel_rfl) (by kernel_rfl) (fun _ _ _ h => h) (Or.inl ⟨by rfl, by intro w hSw; go_simp⟩) (M.below) ?_
  try simp only [Act.put, List.setIfInBounds_toArray, List.set_cons_zero, List.set_cons_succ]
  refine anyH_take 5 5 (.func (.func 119) #[] #[.pointer (some ⟨ka2, 0, none⟩), .pointer (some ⟨ks2, 0, none⟩)]) rfl rfl (by kernel_rfl) (by kernel_rfl) (by kernel_rfl) (fun _ _ _ h => h) (Or.inl ⟨by rfl, by intro w hSw; go_simp⟩) (M.below) ?_
  try simp only [Act.put, List.setIfInBounds_toArray, List.set_cons_zero, List.set_cons_succ]
  refine wpAnyH_done (by kernel_rfl) ?_ _
  have PA1 := pull_any M 2 3 ka1 ks1 0 a n cap l rfl rfl w0 hr K0.below K0.below.size (Nat.zero_le _)
  have PA2 := fun W (M : MemG W.heap.size (fun _ => False) W W []) => M
  clear PA2
  go_wp2_with (first
      | (go_at_call 119; refine PA1.mono ?_; clear PA1 M; rintro e w1 ⟨rfl, M⟩; simp only [List.set_cons_zero, List.set_cons_succ] at M; have PA2 := pull_any M 0 1 ka2 ks2 0 a' n' cap' m rfl rfl w0 hr' K0.below K0.below.size (Nat.zero_le _))
      | (go_at_call 119; refine PA2.mono ?_; clear PA2 M; rintro e w1 ⟨rfl, M⟩; simp only [List.set_cons_zero, List.set_cons_succ] at M)
      | ((with_reducible show wpList _ _ _ (Oper.mk (some 6) (Op.alloc 125) _ _ _ _ :: _) _ _); refine wpList_alloc M rfl rfl rt68 ?_; clear M; intro k6 W9 M)
      | ((with_reducible show wpList _ _ _ (Oper.mk (some 7) (Op.alloc 125) _ _ _ _ :: _) _ _); refine wpList_alloc M rfl rfl rt68 ?_; clear M; intro k7 W9 M)
      | ((with_reducible show wpList _ _ _ (Oper.mk _ (Op.store 125 _ _) _ _ _ _ :: _) _ _); (first | (refine wpList_put M rfl _ _ rfl rt68 0 _ rfl rfl rfl rfl (fcs_size _) (fcs_one _) ?_) | (refine wpList_put M rfl _ _ rfl rt68 1 _ rfl rfl rfl rfl (fcs_size _) (fcs_one _) ?_)); clear M; intro W9 M; simp only [List.set_cons_zero, List.set_cons_succ] at M))
  try simp only [Act.put, List.setIfInBounds_toArray, List.set_cons_zero, List.set_cons_succ]
  have HS0 : Hid (w0.heap.size ≤ W.heap.size) := K0.below.size
  have J0 := hJ _ _ _ _ h0 M.same
  have M0 := M.re
  clear M h0 K0
  go_loopg [8, 9, 10] (n + n') (fun g v8 v9 v10 wr => ∃ (k i j : Nat) (C : Nat → Prop), i ≤ n ∧ j ≤ n' ∧ (n - i) + (n' - j) = g ∧ J k C wr ∧ (∀ c, C c → W.heap.size ≤ c ∧ c < wr.heap.size) ∧ MemG W.heap.size C wr wr [(k7, fcs (m[j]?), 125), (k6, fcs (l[i]?), 125), (ka2, #[.int .i64 ((nx n' j : Nat) : Int)], 3), (ks2, #[.slice a' n' cap'], 44), (ka1, #[.int .i64 ((nx n i : Nat) : Int)], 3), (ks1, #[.slice a n cap], 44)] ∧ Hid (xs.drop k = Z (l.drop i) (m.drop j) ∧ k ≤ xs.length))
  case atStart => exact ⟨0, 0, 0, fun _ => False, Nat.zero_le _, Nat.zero_le _, by omega, J0, fun c h => h.elim, M0, by show _ ∧ _; rw [List.drop_zero, List.drop_zero, List.drop_zero]; exact ⟨HXS.out.symm, Nat.zero_le _⟩⟩
  case round =>
    clear M0 J0
    obtain ⟨k, i, j, C, hi, hj, hg, hJk, hCw, M, HD⟩ := hrel
    have Kr := hKeep _ _ _ hJk
    have HG : Hid ((n - i) + (n' - j) = gk) := hg
    have HI : Hid (i ≤ n ∧ j ≤ n') := ⟨hi, hj⟩
    have HBK : Hid (Below w0.heap.size w0 wr) := Kr.below
    have HSW : Hid (w0.heap.size ≤ W.heap.size) := HS0.out
    clear hg hi hj Kr
    cases hx : l[i]? with
    | none =>
      cases hy : m[j]? with
      | none =>
        rw [hx, hy] at M
        have HE : Hid (xs.length = k) := by
          show _ = _
          have h9 := HD.out
          rw [drop_no hx, drop_no hy, Z_nn] at h9
          have := List.drop_eq_nil_iff.1 h9.1
          omega
        clear hx hy HD
        go_wp2_with (first
      | ((with_reducible show wpList _ _ _ (Oper.mk _ (Op.load 4 _) _ _ _ _ :: _) _ _); refine wpList_cell4 M (by rfl) _ rfl _ rfl (by first | exact .head _ | exact .tail _ (.head _)) (by rfl) ?_))
        exact bodyPost_end (v := .tuple #[]) (by simp [results, Tryz.results113, go_sem]) rfl ⟨⟨_, rfl⟩, C, hCw, .inl (by rw [HE.out]; exact hJk)⟩
      | some y =>
        have HO : Hid (ordZ (none) (some y) = 1) := by show _ = _; first | rfl | (show cmpN x.nm y.nm = _; unfold cmpN; simp only [hc1, hc2]; rfl)
        have KO : ∀ w, Calls Tryz.prog 115 #[.agg (fcs (none)), .agg (fcs (some y))] w fun e w' => e = .returned (.int .i64 (1)) ∧ Below w.heap.size w w' := fun w => by have h9 := order_any (none) (some y) w; rw [fv_fcs, fv_fcs, HO.out] at h9; exact h9
        have HZ : Hid (xs[k]? = some (none, some y) ∧ xs.drop (k + 1) = Z (l.drop (i)) (m.drop (j + 1))) := by
          show _ ∧ _
          have h9 := HD.out.1
          rw [drop_no hx, drop_at hy, Z_r] at h9
          have h8 := drop_cons h9
          refine ⟨h8.1, h8.2.trans ?_⟩
          rw [drop_no hx]
        have HI2 : Hid (True ∧ j < n') := by
          show _ ∧ _
          refine ⟨?_, ?_⟩
          · trivial
          · rw [← HL'.out]; exact (List.getElem?_eq_some_iff.1 hy).1
        have hny : nx n' j = j + 1 := by unfold nx; rw [if_pos HI2.out.2]
        rw [hny] at M
        have HXX : Hid (l[i]? = none) := hx
        have HYY : Hid (m[j]? = some y) := hy
        rw [hx, hy] at M
        clear HO HD hx hy hny
        go_wp2_with (first
      | ((with_reducible show wpList _ _ _ (Oper.mk _ (Op.load 4 _) _ _ _ _ :: _) _ _); refine wpList_cell4 M (by rfl) _ rfl _ rfl (by first | exact .head _ | exact .tail _ (.head _) | exact .tail _ (.tail _ (.head _)) | exact .tail _ (.tail _ (.tail _ (.head _))) | exact .tail _ (.tail _ (.tail _ (.tail _ (.head _)))) | exact .tail _ (.tail _ (.tail _ (.tail _ (.tail _ (.head _))))) | exact .tail _ (.tail _ (.tail _ (.tail _ (.tail _ (.tail _ (.head _)))))) | exact .tail _ (.tail _ (.tail _ (.tail _ (.tail _ (.tail _ (.tail _ (.head _)))))))) (by rfl) ?_)
      | ((with_reducible show wpList _ _ _ (Oper.mk (some 8) (Op.alloc 125) _ _ _ _ :: _) _ _); refine wpList_alloc M rfl rfl rt68 ?_; clear M; intro k8 W9 M)
      | ((with_reducible show wpList _ _ _ (Oper.mk (some 9) (Op.alloc 125) _ _ _ _ :: _) _ _); refine wpList_alloc M rfl rfl rt68 ?_; clear M; intro k9 W9 M)
      | ((with_reducible show wpList _ _ _ (Oper.mk _ (Op.load 125 _) _ _ _ _ :: _) _ _); refine wpList_load M (by rfl) _ rfl rt68 rfl (by first | exact .head _ | exact .tail _ (.head _) | exact .tail _ (.tail _ (.head _)) | exact .tail _ (.tail _ (.tail _ (.head _))) | exact .tail _ (.tail _ (.tail _ (.tail _ (.head _)))) | exact .tail _ (.tail _ (.tail _ (.tail _ (.tail _ (.head _))))) | exact .tail _ (.tail _ (.tail _ (.tail _ (.tail _ (.tail _ (.head _)))))) | exact .tail _ (.tail _ (.tail _ (.tail _ (.tail _ (.tail _ (.tail _ (.head _)))))))) (by first | rfl | exact fcs_size _) ?_)
      | (go_at_call 115; refine (KO _).mono ?_; clear KO; rintro e w1 ⟨rfl, b1⟩; replace M := M.later b1; clear b1))
        try simp only [Act.put, List.setIfInBounds_toArray, List.set_cons_zero, List.set_cons_succ]
        refine wp_region_any (by kernel_rfl) ?_
        change wpAny _ _ _ _ _ _ _ (World.drew _)
        replace M := M.drew
        generalize World.drew _ = WD at M ⊢
        refine wpAny_until (fun W' => W'.heap[k7]? = some (.cells (fcs (some y)) 125 (0, 0))) 4 _ _ _ _ ?_
        refine anyM_take 0 35 (.agg (fcs (some y))) rfl rfl (by kernel_rfl) (by kernel_rfl) (by kernel_rfl) (fun _ _ _ h => h) (.inr ⟨3, by kernel_rfl, by kernel_rfl, by kernel_rfl⟩) (by kernel_rfl) (Or.inl ⟨by rfl, fun X hSw => exec_loadr rfl rt68 rfl hSw (fcs_size _)⟩) (M.get (.tail _ (.tail _ (.head _)))) ?_
        try simp only [Act.put, List.setIfInBounds_toArray, List.set_cons_zero, List.set_cons_succ]
        refine anyM_take 1 36 (.func (.func 119) #[] #[.pointer (some ⟨ka2, 0, none⟩), .pointer (some ⟨ks2, 0, none⟩)]) rfl rfl (by kernel_rfl) (by kernel_rfl) (by kernel_rfl) (fun _ _ _ h => h) (.inr ⟨2, by kernel_rfl, by kernel_rfl, by kernel_rfl⟩) (by kernel_rfl) (Or.inl ⟨by rfl, by intro w hSw; go_simp⟩) (M.get (.tail _ (.tail _ (.head _)))) ?_
        try simp only [Act.put, List.setIfInBounds_toArray, List.set_cons_zero, List.set_cons_succ]
        refine anyM_one 2 (by kernel_rfl) rfl (fun K hK => ?_)
        go_simp
        go_wp2_with (go_at_call 119; refine (pull_any M 4 5 ka2 ks2 (j + 1) a' n' cap' m rfl rfl w0 hr' HBK.out HSW.out HI2.out.2).mono ?_; clear M; rintro e w1 ⟨rfl, M⟩; simp only [List.set_cons_zero, List.set_cons_succ] at M)
        refine hK.out _ _ (fun _ => (M.get (.tail _ (.tail _ (.head _))))) ?_
        clear hK
        refine anyM_one 3 (by kernel_rfl) rfl (fun K hK => ?_)
        rw [if_pos (by rfl)]
        refine wp_put M _ _ rfl rt68 0 _ rfl rfl rfl rfl (fcs_size _) (fcs_one _) ?_
        clear M
        intro W9 M
        simp only [List.set_cons_zero, List.set_cons_succ] at M
        refine hK.out _ _ (fun _ => (M.get (.tail _ (.tail _ (.head _))))) ?_
        clear hK
        refine anyM_one 4 (by kernel_rfl) rfl (fun K hK => ?_)
        rw [if_pos (by rfl)]
        refine wp_put M _ _ rfl rt68 2 _ rfl rfl rfl (fcs_size _) (fcs_size _) (fcs_one _) ?_
        clear M
        intro W9 M
        simp only [List.set_cons_zero, List.set_cons_succ] at M
        refine hK.out _ _ (fun h => absurd h (by decide)) ?_
        clear hK
        refine anyM_done (by kernel_rfl) ?_ _
        rename (∀ (a : Act) (w : World), Code.wp _ _ _ a w → _) => hgo
        refine hgo _ _ ?_
        clear hgo
        simp only [Act.put, List.setIfInBounds_toArray, List.set_cons_zero, List.set_cons_succ, List.getElem_toArray, List.getElem_cons_succ, List.getElem_cons_zero]
        refine (wpIn_wide (n := 3)).1 ?_
        have JA := hJ _ _ _ _ hJk M.same
        have hz := M.same.size
        obtain ⟨fn1, tmps, assign, body, hy, hR⟩ := hY k C (none, some y) _ JA M.size (fun c hc => ⟨(hCw c hc).1, by have := (hCw c hc).2; omega⟩) HZ.out.1
        dsimp only [encF] at hy hR
        try simp only [show fcs none = zF from rfl] at hy
        gi_wp2_with ((with_reducible show wpListIn _ _ _ _ _ (Oper.mk _ (Op.load 125 _) _ _ _ _ :: _) _ _); refine wpListIn_load M rfl _ rfl rt68 rfl (by first | exact .head _ | exact .tail _ (.head _)) (by first | rfl | exact fcs_size _) ?_)
        refine (RoundIn.wideAny hR).mono ?_
        clear hR hy hY JA
        rintro e W3 (⟨rfl, C', hJ3, t3⟩ | ⟨rfl, C', hx3, t3⟩)
        · have M3 := (M.tail.tail).turn t3
          have hs3 := t3.size
          have hC3 : ∀ c, C' c → W.heap.size ≤ c ∧ c < W3.heap.size := fun c hc => ⟨(t3.mine c hc).1, (t3.mine c hc).2.1⟩
          clear hs3 t3 M hz hJk hCw
          gi_wp2
          try go_wp2
          go_roundg (gk - 1)
          case measure => have := HG.out; have := HI2.out; omega
          case rel => exact ⟨k + 1, i, j + 1, C', by have := HI2.out; have := HI.out; omega, by have := HI2.out; have := HI.out; omega, by have := HG.out; have := HI2.out; have := HI.out; omega, hJ3, hC3, (by rw [HXX.out]; exact M3), ⟨HZ.out.2, (List.getElem?_eq_some_iff.1 HZ.out.1).1⟩⟩
        · gi_wp2
          try go_wp2
          exact bodyPost_ret (v := .tuple #[]) (by simp [results, Tryz.results113, go_sem]) rfl ⟨⟨_, rfl⟩, C', fun b hb => ⟨(t3.mine b hb).1, (t3.mine b hb).2.1⟩, .inr hx3⟩
    | some x =>
      cases hy : m[j]? with
      | none =>
        have HO : Hid (ordZ (some x) (none) = -1) := by show _ = _; first | rfl | (show cmpN x.nm y.nm = _; unfold cmpN; simp only [hc1, hc2]; rfl)
        have KO : ∀ w, Calls Tryz.prog 115 #[.agg (fcs (some x)), .agg (fcs (none))] w fun e w' => e = .returned (.int .i64 (-1)) ∧ Below w.heap.size w w' := fun w => by have h9 := order_any (some x) (none) w; rw [fv_fcs, fv_fcs, HO.out] at h9; exact h9
        have HZ : Hid (xs[k]? = some (some x, none) ∧ xs.drop (k + 1) = Z (l.drop (i + 1)) (m.drop (j))) := by
          show _ ∧ _
          have h9 := HD.out.1
          rw [drop_at hx, drop_no hy, Z_l] at h9
          have h8 := drop_cons h9
          refine ⟨h8.1, h8.2.trans ?_⟩
          rw [drop_no hy]
        have HI2 : Hid (i < n ∧ True) := by
          show _ ∧ _
          refine ⟨?_, ?_⟩
          · rw [← HL.out]; exact (List.getElem?_eq_some_iff.1 hx).1
          · trivial
        have hnx : nx n i = i + 1 := by unfold nx; rw [if_pos HI2.out.1]
        rw [hnx] at M
        have HXX : Hid (l[i]? = some x) := hx
        have HYY : Hid (m[j]? = none) := hy
        rw [hx, hy] at M
        clear HO HD hx hy hnx
        go_wp2_with (first
      | ((with_reducible show wpList _ _ _ (Oper.mk _ (Op.load 4 _) _ _ _ _ :: _) _ _); refine wpList_cell4 M (by rfl) _ rfl _ rfl (by first | exact .head _ | exact .tail _ (.head _) | exact .tail _ (.tail _ (.head _)) | exact .tail _ (.tail _ (.tail _ (.head _))) | exact .tail _ (.tail _ (.tail _ (.tail _ (.head _)))) | exact .tail _ (.tail _ (.tail _ (.tail _ (.tail _ (.head _))))) | exact .tail _ (.tail _ (.tail _ (.tail _ (.tail _ (.tail _ (.head _)))))) | exact .tail _ (.tail _ (.tail _ (.tail _ (.tail _ (.tail _ (.tail _ (.head _)))))))) (by rfl) ?_)
      | ((with_reducible show wpList _ _ _ (Oper.mk (some 8) (Op.alloc 125) _ _ _ _ :: _) _ _); refine wpList_alloc M rfl rfl rt68 ?_; clear M; intro k8 W9 M)
      | ((with_reducible show wpList _ _ _ (Oper.mk (some 9) (Op.alloc 125) _ _ _ _ :: _) _ _); refine wpList_alloc M rfl rfl rt68 ?_; clear M; intro k9 W9 M)
      | ((with_reducible show wpList _ _ _ (Oper.mk _ (Op.load 125 _) _ _ _ _ :: _) _ _); refine wpList_load M (by rfl) _ rfl rt68 rfl (by first | exact .head _ | exact .tail _ (.head _) | exact .tail _ (.tail _ (.head _)) | exact .tail _ (.tail _ (.tail _ (.head _))) | exact .tail _ (.tail _ (.tail _ (.tail _ (.head _)))) | exact .tail _ (.tail _ (.tail _ (.tail _ (.tail _ (.head _))))) | exact .tail _ (.tail _ (.tail _ (.tail _ (.tail _ (.tail _ (.head _)))))) | exact .tail _ (.tail _ (.tail _ (.tail _ (.tail _ (.tail _ (.tail _ (.head _)))))))) (by first | rfl | exact fcs_size _) ?_)
      | (go_at_call 115; refine (KO _).mono ?_; clear KO; rintro e w1 ⟨rfl, b1⟩; replace M := M.later b1; clear b1))
        try simp only [Act.put, List.setIfInBounds_toArray, List.set_cons_zero, List.set_cons_succ]
        refine wp_region_any (by kernel_rfl) ?_
        change wpAny _ _ _ _ _ _ _ (World.drew _)
        replace M := M.drew
        generalize World.drew _ = WD at M ⊢
        refine wpAny_until (fun W' => W'.heap[k6]? = some (.cells (fcs (some x)) 125 (0, 0))) 4 _ _ _ _ ?_
        refine anyM_take 0 30 (.agg (fcs (some x))) rfl rfl (by kernel_rfl) (by kernel_rfl) (by kernel_rfl) (fun _ _ _ h => h) (.inr ⟨3, by kernel_rfl, by kernel_rfl, by kernel_rfl⟩) (by kernel_rfl) (Or.inl ⟨by rfl, fun X hSw => exec_loadr rfl rt68 rfl hSw (fcs_size _)⟩) (M.get (.tail _ (.tail _ (.tail _ (.head _))))) ?_
        try simp only [Act.put, List.setIfInBounds_toArray, List.set_cons_zero, List.set_cons_succ]
        refine anyM_take 1 31 (.func (.func 119) #[] #[.pointer (some ⟨ka1, 0, none⟩), .pointer (some ⟨ks1, 0, none⟩)]) rfl rfl (by kernel_rfl) (by kernel_rfl) (by kernel_rfl) (fun _ _ _ h => h) (.inr ⟨2, by kernel_rfl, by kernel_rfl, by kernel_rfl⟩) (by kernel_rfl) (Or.inl ⟨by rfl, by intro w hSw; go_simp⟩) (M.get (.tail _ (.tail _ (.tail _ (.head _))))) ?_
        try simp only [Act.put, List.setIfInBounds_toArray, List.set_cons_zero, List.set_cons_succ]
        refine anyM_one 2 (by kernel_rfl) rfl (fun K hK => ?_)
        go_simp
        go_wp2_with (go_at_call 119; refine (pull_any M 6 7 ka1 ks1 (i + 1) a n cap l rfl rfl w0 hr HBK.out HSW.out HI2.out.1).mono ?_; clear M; rintro e w1 ⟨rfl, M⟩; simp only [List.set_cons_zero, List.set_cons_succ] at M)
        refine hK.out _ _ (fun _ => (M.get (.tail _ (.tail _ (.tail _ (.head _)))))) ?_
        clear hK
        refine anyM_one 3 (by kernel_rfl) rfl (fun K hK => ?_)
        rw [if_pos (by rfl)]
        refine wp_put M _ _ rfl rt68 1 _ rfl rfl rfl rfl (fcs_size _) (fcs_one _) ?_
        clear M
        intro W9 M
        simp only [List.set_cons_zero, List.set_cons_succ] at M
        refine hK.out _ _ (fun _ => (M.get (.tail _ (.tail _ (.tail _ (.head _)))))) ?_
        clear hK
        refine anyM_one 4 (by kernel_rfl) rfl (fun K hK => ?_)
        rw [if_pos (by rfl)]
        refine wp_put M _ _ rfl rt68 3 _ rfl rfl rfl (fcs_size _) (fcs_size _) (fcs_one _) ?_
        clear M
        intro W9 M
        simp only [List.set_cons_zero, List.set_cons_succ] at M
        refine hK.out _ _ (fun h => absurd h (by decide)) ?_
        clear hK
        refine anyM_done (by kernel_rfl) ?_ _
        rename (∀ (a : Act) (w : World), Code.wp _ _ _ a w → _) => hgo
        refine hgo _ _ ?_
        clear hgo
        simp only [Act.put, List.setIfInBounds_toArray, List.set_cons_zero, List.set_cons_succ, List.getElem_toArray, List.getElem_cons_succ, List.getElem_cons_zero]
        refine (wpIn_wide (n := 3)).1 ?_
        have JA := hJ _ _ _ _ hJk M.same
        have hz := M.same.size
        obtain ⟨fn1, tmps, assign, body, hy, hR⟩ := hY k C (some x, none) _ JA M.size (fun c hc => ⟨(hCw c hc).1, by have := (hCw c hc).2; omega⟩) HZ.out.1
        dsimp only [encF] at hy hR
        try simp only [show fcs none = zF from rfl] at hy
        gi_wp2_with ((with_reducible show wpListIn _ _ _ _ _ (Oper.mk _ (Op.load 125 _) _ _ _ _ :: _) _ _); refine wpListIn_load M rfl _ rfl rt68 rfl (by first | exact .head _ | exact .tail _ (.head _)) (by first | rfl | exact fcs_size _) ?_)
        refine (RoundIn.wideAny hR).mono ?_
        clear hR hy hY JA
        rintro e W3 (⟨rfl, C', hJ3, t3⟩ | ⟨rfl, C', hx3, t3⟩)
        · have M3 := (M.tail.tail).turn t3
          have hs3 := t3.size
          have hC3 : ∀ c, C' c → W.heap.size ≤ c ∧ c < W3.heap.size := fun c hc => ⟨(t3.mine c hc).1, (t3.mine c hc).2.1⟩
          clear hs3 t3 M hz hJk hCw
          gi_wp2
          try go_wp2
          go_roundg (gk - 1)
          case measure => have := HG.out; have := HI2.out; omega
          case rel => exact ⟨k + 1, i + 1, j, C', by have := HI2.out; have := HI.out; omega, by have := HI2.out; have := HI.out; omega, by have := HG.out; have := HI2.out; have := HI.out; omega, hJ3, hC3, (by rw [HYY.out]; exact M3), ⟨HZ.out.2, (List.getElem?_eq_some_iff.1 HZ.out.1).1⟩⟩
        · gi_wp2
          try go_wp2
          exact bodyPost_ret (v := .tuple #[]) (by simp [results, Tryz.results113, go_sem]) rfl ⟨⟨_, rfl⟩, C', fun b hb => ⟨(t3.mine b hb).1, (t3.mine b hb).2.1⟩, .inr hx3⟩
      | some y =>
        rcases three x.nm y.nm with ⟨hc1, hc2, _⟩ | ⟨hc2, hc1, _⟩ | ⟨_, hc1, hc2⟩
        · skip
          have HO : Hid (ordZ (some x) (some y) = -1) := by show _ = _; first | rfl | (show cmpN x.nm y.nm = _; unfold cmpN; simp only [hc1, hc2]; rfl)
          have KO : ∀ w, Calls Tryz.prog 115 #[.agg (fcs (some x)), .agg (fcs (some y))] w fun e w' => e = .returned (.int .i64 (-1)) ∧ Below w.heap.size w w' := fun w => by have h9 := order_any (some x) (some y) w; rw [fv_fcs, fv_fcs, HO.out] at h9; exact h9
          have HZ : Hid (xs[k]? = some (some x, none) ∧ xs.drop (k + 1) = Z (l.drop (i + 1)) (m.drop (j))) := by
            show _ ∧ _
            have h9 := HD.out.1
            rw [drop_at hx, drop_at hy, Z_c, if_pos hc1] at h9
            have h8 := drop_cons h9
            refine ⟨h8.1, h8.2.trans ?_⟩
            rw [drop_at hy]
          have HI2 : Hid (i < n ∧ j < n') := by
            show _ ∧ _
            refine ⟨?_, ?_⟩
            · rw [← HL.out]; exact (List.getElem?_eq_some_iff.1 hx).1
            · rw [← HL'.out]; exact (List.getElem?_eq_some_iff.1 hy).1
          have hnx : nx n i = i + 1 := by unfold nx; rw [if_pos HI2.out.1]
          rw [hnx] at M
          have HXX : Hid (l[i]? = some x) := hx
          have HYY : Hid (m[j]? = some y) := hy
          rw [hx, hy] at M
          clear HO HD hx hy hnx hc1 hc2
          go_wp2_with (first
      | ((with_reducible show wpList _ _ _ (Oper.mk _ (Op.load 4 _) _ _ _ _ :: _) _ _); refine wpList_cell4 M (by rfl) _ rfl _ rfl (by first | exact .head _ | exact .tail _ (.head _) | exact .tail _ (.tail _ (.head _)) | exact .tail _ (.tail _ (.tail _ (.head _))) | exact .tail _ (.tail _ (.tail _ (.tail _ (.head _)))) | exact .tail _ (.tail _ (.tail _ (.tail _ (.tail _ (.head _))))) | exact .tail _ (.tail _ (.tail _ (.tail _ (.tail _ (.tail _ (.head _)))))) | exact .tail _ (.tail _ (.tail _ (.tail _ (.tail _ (.tail _ (.tail _ (.head _)))))))) (by rfl) ?_)
      | ((with_reducible show wpList _ _ _ (Oper.mk (some 8) (Op.alloc 125) _ _ _ _ :: _) _ _); refine wpList_alloc M rfl rfl rt68 ?_; clear M; intro k8 W9 M)
      | ((with_reducible show wpList _ _ _ (Oper.mk (some 9) (Op.alloc 125) _ _ _ _ :: _) _ _); refine wpList_alloc M rfl rfl rt68 ?_; clear M; intro k9 W9 M)
      | ((with_reducible show wpList _ _ _ (Oper.mk _ (Op.load 125 _) _ _ _ _ :: _) _ _); refine wpList_load M (by rfl) _ rfl rt68 rfl (by first | exact .head _ | exact .tail _ (.head _) | exact .tail _ (.tail _ (.head _)) | exact .tail _ (.tail _ (.tail _ (.head _))) | exact .tail _ (.tail _ (.tail _ (.tail _ (.head _)))) | exact .tail _ (.tail _ (.tail _ (.tail _ (.tail _ (.head _))))) | exact .tail _ (.tail _ (.tail _ (.tail _ (.tail _ (.tail _ (.head _)))))) | exact .tail _ (.tail _ (.tail _ (.tail _ (.tail _ (.tail _ (.tail _ (.head _)))))))) (by first | rfl | exact fcs_size _) ?_)
      | (go_at_call 115; refine (KO _).mono ?_; clear KO; rintro e w1 ⟨rfl, b1⟩; replace M := M.later b1; clear b1))
          try simp only [Act.put, List.setIfInBounds_toArray, List.set_cons_zero, List.set_cons_succ]
          refine wp_region_any (by kernel_rfl) ?_
          change wpAny _ _ _ _ _ _ _ (World.drew _)
          replace M := M.drew
          generalize World.drew _ = WD at M ⊢
          refine wpAny_until (fun W' => W'.heap[k6]? = some (.cells (fcs (some x)) 125 (0, 0))) 4 _ _ _ _ ?_
          refine anyM_take 0 30 (.agg (fcs (some x))) rfl rfl (by kernel_rfl) (by kernel_rfl) (by kernel_rfl) (fun _ _ _ h => h) (.inr ⟨3, by kernel_rfl, by kernel_rfl, by kernel_rfl⟩) (by kernel_rfl) (Or.inl ⟨by rfl, fun X hSw => exec_loadr rfl rt68 rfl hSw (fcs_size _)⟩) (M.get (.tail _ (.tail _ (.tail _ (.head _))))) ?_
          try simp only [Act.put, List.setIfInBounds_toArray, List.set_cons_zero, List.set_cons_succ]
          refine anyM_take 1 31 (.func (.func 119) #[] #[.pointer (some ⟨ka1, 0, none⟩), .pointer (some ⟨ks1, 0, none⟩)]) rfl rfl (by kernel_rfl) (by kernel_rfl) (by kernel_rfl) (fun _ _ _ h => h) (.inr ⟨2, by kernel_rfl, by kernel_rfl, by kernel_rfl⟩) (by kernel_rfl) (Or.inl ⟨by rfl, by intro w hSw; go_simp⟩) (M.get (.tail _ (.tail _ (.tail _ (.head _))))) ?_
          try simp only [Act.put, List.setIfInBounds_toArray, List.set_cons_zero, List.set_cons_succ]
          refine anyM_one 2 (by kernel_rfl) rfl (fun K hK => ?_)
          go_simp
          go_wp2_with (go_at_call 119; refine (pull_any M 6 7 ka1 ks1 (i + 1) a n cap l rfl rfl w0 hr HBK.out HSW.out HI2.out.1).mono ?_; clear M; rintro e w1 ⟨rfl, M⟩; simp only [List.set_cons_zero, List.set_cons_succ] at M)
          refine hK.out _ _ (fun _ => (M.get (.tail _ (.tail _ (.tail _ (.head _)))))) ?_
          clear hK
          refine anyM_one 3 (by kernel_rfl) rfl (fun K hK => ?_)
          rw [if_pos (by rfl)]
          refine wp_put M _ _ rfl rt68 1 _ rfl rfl rfl rfl (fcs_size _) (fcs_one _) ?_
          clear M
          intro W9 M
          simp only [List.set_cons_zero, List.set_cons_succ] at M
          refine hK.out _ _ (fun _ => (M.get (.tail _ (.tail _ (.tail _ (.head _)))))) ?_
          clear hK
          refine anyM_one 4 (by kernel_rfl) rfl (fun K hK => ?_)
          rw [if_pos (by rfl)]
          refine wp_put M _ _ rfl rt68 3 _ rfl rfl rfl (fcs_size _) (fcs_size _) (fcs_one _) ?_
          clear M
          intro W9 M
          simp only [List.set_cons_zero, List.set_cons_succ] at M
          refine hK.out _ _ (fun h => absurd h (by decide)) ?_
          clear hK
          refine anyM_done (by kernel_rfl) ?_ _
          rename (∀ (a : Act) (w : World), Code.wp _ _ _ a w → _) => hgo
          refine hgo _ _ ?_
          clear hgo
          simp only [Act.put, List.setIfInBounds_toArray, List.set_cons_zero, List.set_cons_succ, List.getElem_toArray, List.getElem_cons_succ, List.getElem_cons_zero]
          refine (wpIn_wide (n := 3)).1 ?_
          have JA := hJ _ _ _ _ hJk M.same
          have hz := M.same.size
          obtain ⟨fn1, tmps, assign, body, hy, hR⟩ := hY k C (some x, none) _ JA M.size (fun c hc => ⟨(hCw c hc).1, by have := (hCw c hc).2; omega⟩) HZ.out.1
          dsimp only [encF] at hy hR
          try simp only [show fcs none = zF from rfl] at hy
          gi_wp2_with ((with_reducible show wpListIn _ _ _ _ _ (Oper.mk _ (Op.load 125 _) _ _ _ _ :: _) _ _); refine wpListIn_load M rfl _ rfl rt68 rfl (by first | exact .head _ | exact .tail _ (.head _)) (by first | rfl | exact fcs_size _) ?_)
          refine (RoundIn.wideAny hR).mono ?_
          clear hR hy hY JA
          rintro e W3 (⟨rfl, C', hJ3, t3⟩ | ⟨rfl, C', hx3, t3⟩)
          · have M3 := (M.tail.tail).turn t3
            have hs3 := t3.size
            have hC3 : ∀ c, C' c → W.heap.size ≤ c ∧ c < W3.heap.size := fun c hc => ⟨(t3.mine c hc).1, (t3.mine c hc).2.1⟩
            clear hs3 t3 M hz hJk hCw
            gi_wp2
            try go_wp2
            go_roundg (gk - 1)
            case measure => have := HG.out; have := HI2.out; omega
            case rel => exact ⟨k + 1, i + 1, j, C', by have := HI2.out; have := HI.out; omega, by have := HI2.out; have := HI.out; omega, by have := HG.out; have := HI2.out; have := HI.out; omega, hJ3, hC3, (by rw [HYY.out]; exact M3), ⟨HZ.out.2, (List.getElem?_eq_some_iff.1 HZ.out.1).1⟩⟩
          · gi_wp2
            try go_wp2
            exact bodyPost_ret (v := .tuple #[]) (by simp [results, Tryz.results113, go_sem]) rfl ⟨⟨_, rfl⟩, C', fun b hb => ⟨(t3.mine b hb).1, (t3.mine b hb).2.1⟩, .inr hx3⟩
        · skip
          have HO : Hid (ordZ (some x) (some y) = 1) := by show _ = _; first | rfl | (show cmpN x.nm y.nm = _; unfold cmpN; simp only [hc1, hc2]; rfl)
          have KO : ∀ w, Calls Tryz.prog 115 #[.agg (fcs (some x)), .agg (fcs (some y))] w fun e w' => e = .returned (.int .i64 (1)) ∧ Below w.heap.size w w' := fun w => by have h9 := order_any (some x) (some y) w; rw [fv_fcs, fv_fcs, HO.out] at h9; exact h9
          have HZ : Hid (xs[k]? = some (none, some y) ∧ xs.drop (k + 1) = Z (l.drop (i)) (m.drop (j + 1))) := by
            show _ ∧ _
            have h9 := HD.out.1
            rw [drop_at hx, drop_at hy, Z_c, if_neg (by rw [hc1]; decide), if_pos hc2] at h9
            have h8 := drop_cons h9
            refine ⟨h8.1, h8.2.trans ?_⟩
            rw [drop_at hx]
          have HI2 : Hid (i < n ∧ j < n') := by
            show _ ∧ _
            refine ⟨?_, ?_⟩
            · rw [← HL.out]; exact (List.getElem?_eq_some_iff.1 hx).1
            · rw [← HL'.out]; exact (List.getElem?_eq_some_iff.1 hy).1
          have hny : nx n' j = j + 1 := by unfold nx; rw [if_pos HI2.out.2]
          rw [hny] at M
          have HXX : Hid (l[i]? = some x) := hx
          have HYY : Hid (m[j]? = some y) := hy
          rw [hx, hy] at M
          clear HO HD hx hy hny hc1 hc2
          go_wp2_with (first
      | ((with_reducible show wpList _ _ _ (Oper.mk _ (Op.load 4 _) _ _ _ _ :: _) _ _); refine wpList_cell4 M (by rfl) _ rfl _ rfl (by first | exact .head _ | exact .tail _ (.head _) | exact .tail _ (.tail _ (.head _)) | exact .tail _ (.tail _ (.tail _ (.head _))) | exact .tail _ (.tail _ (.tail _ (.tail _ (.head _)))) | exact .tail _ (.tail _ (.tail _ (.tail _ (.tail _ (.head _))))) | exact .tail _ (.tail _ (.tail _ (.tail _ (.tail _ (.tail _ (.head _)))))) | exact .tail _ (.tail _ (.tail _ (.tail _ (.tail _ (.tail _ (.tail _ (.head _)))))))) (by rfl) ?_)
      | ((with_reducible show wpList _ _ _ (Oper.mk (some 8) (Op.alloc 125) _ _ _ _ :: _) _ _); refine wpList_alloc M rfl rfl rt68 ?_; clear M; intro k8 W9 M)
      | ((with_reducible show wpList _ _ _ (Oper.mk (some 9) (Op.alloc 125) _ _ _ _ :: _) _ _); refine wpList_alloc M rfl rfl rt68 ?_; clear M; intro k9 W9 M)
      | ((with_reducible show wpList _ _ _ (Oper.mk _ (Op.load 125 _) _ _ _ _ :: _) _ _); refine wpList_load M (by rfl) _ rfl rt68 rfl (by first | exact .head _ | exact .tail _ (.head _) | exact .tail _ (.tail _ (.head _)) | exact .tail _ (.tail _ (.tail _ (.head _))) | exact .tail _ (.tail _ (.tail _ (.tail _ (.head _)))) | exact .tail _ (.tail _ (.tail _ (.tail _ (.tail _ (.head _))))) | exact .tail _ (.tail _ (.tail _ (.tail _ (.tail _ (.tail _ (.head _)))))) | exact .tail _ (.tail _ (.tail _ (.tail _ (.tail _ (.tail _ (.tail _ (.head _)))))))) (by first | rfl | exact fcs_size _) ?_)
      | (go_at_call 115; refine (KO _).mono ?_; clear KO; rintro e w1 ⟨rfl, b1⟩; replace M := M.later b1; clear b1))
          try simp only [Act.put, List.setIfInBounds_toArray, List.set_cons_zero, List.set_cons_succ]
          refine wp_region_any (by kernel_rfl) ?_
          change wpAny _ _ _ _ _ _ _ (World.drew _)
          replace M := M.drew
          generalize World.drew _ = WD at M ⊢
          refine wpAny_until (fun W' => W'.heap[k7]? = some (.cells (fcs (some y)) 125 (0, 0))) 4 _ _ _ _ ?_
          refine anyM_take 0 35 (.agg (fcs (some y))) rfl rfl (by kernel_rfl) (by kernel_rfl) (by kernel_rfl) (fun _ _ _ h => h) (.inr ⟨3, by kernel_rfl, by kernel_rfl, by kernel_rfl⟩) (by kernel_rfl) (Or.inl ⟨by rfl, fun X hSw => exec_loadr rfl rt68 rfl hSw (fcs_size _)⟩) (M.get (.tail _ (.tail _ (.head _)))) ?_
          try simp only [Act.put, List.setIfInBounds_toArray, List.set_cons_zero, List.set_cons_succ]
          refine anyM_take 1 36 (.func (.func 119) #[] #[.pointer (some ⟨ka2, 0, none⟩), .pointer (some ⟨ks2, 0, none⟩)]) rfl rfl (by kernel_rfl) (by kernel_rfl) (by kernel_rfl) (fun _ _ _ h => h) (.inr ⟨2, by kernel_rfl, by kernel_rfl, by kernel_rfl⟩) (by kernel_rfl) (Or.inl ⟨by rfl, by intro w hSw; go_simp⟩) (M.get (.tail _ (.tail _ (.head _)))) ?_
          try simp only [Act.put, List.setIfInBounds_toArray, List.set_cons_zero, List.set_cons_succ]
          refine anyM_one 2 (by kernel_rfl) rfl (fun K hK => ?_)
          go_simp
          go_wp2_with (go_at_call 119; refine (pull_any M 4 5 ka2 ks2 (j + 1) a' n' cap' m rfl rfl w0 hr' HBK.out HSW.out HI2.out.2).mono ?_; clear M; rintro e w1 ⟨rfl, M⟩; simp only [List.set_cons_zero, List.set_cons_succ] at M)
          refine hK.out _ _ (fun _ => (M.get (.tail _ (.tail _ (.head _))))) ?_
          clear hK
          refine anyM_one 3 (by kernel_rfl) rfl (fun K hK => ?_)
          rw [if_pos (by rfl)]
          refine wp_put M _ _ rfl rt68 0 _ rfl rfl rfl rfl (fcs_size _) (fcs_one _) ?_
          clear M
          intro W9 M
          simp only [List.set_cons_zero, List.set_cons_succ] at M
          refine hK.out _ _ (fun _ => (M.get (.tail _ (.tail _ (.head _))))) ?_
          clear hK
          refine anyM_one 4 (by kernel_rfl) rfl (fun K hK => ?_)
          rw [if_pos (by rfl)]
          refine wp_put M _ _ rfl rt68 2 _ rfl rfl rfl (fcs_size _) (fcs_size _) (fcs_one _) ?_
          clear M
          intro W9 M
          simp only [List.set_cons_zero, List.set_cons_succ] at M
          refine hK.out _ _ (fun h => absurd h (by decide)) ?_
          clear hK
          refine anyM_done (by kernel_rfl) ?_ _
          rename (∀ (a : Act) (w : World), Code.wp _ _ _ a w → _) => hgo
          refine hgo _ _ ?_
          clear hgo
          simp only [Act.put, List.setIfInBounds_toArray, List.set_cons_zero, List.set_cons_succ, List.getElem_toArray, List.getElem_cons_succ, List.getElem_cons_zero]
          refine (wpIn_wide (n := 3)).1 ?_
          have JA := hJ _ _ _ _ hJk M.same
          have hz := M.same.size
          obtain ⟨fn1, tmps, assign, body, hy, hR⟩ := hY k C (none, some y) _ JA M.size (fun c hc => ⟨(hCw c hc).1, by have := (hCw c hc).2; omega⟩) HZ.out.1
          dsimp only [encF] at hy hR
          try simp only [show fcs none = zF from rfl] at hy
          gi_wp2_with ((with_reducible show wpListIn _ _ _ _ _ (Oper.mk _ (Op.load 125 _) _ _ _ _ :: _) _ _); refine wpListIn_load M rfl _ rfl rt68 rfl (by first | exact .head _ | exact .tail _ (.head _)) (by first | rfl | exact fcs_size _) ?_)
          refine (RoundIn.wideAny hR).mono ?_
          clear hR hy hY JA
          rintro e W3 (⟨rfl, C', hJ3, t3⟩ | ⟨rfl, C', hx3, t3⟩)
          · have M3 := (M.tail.tail).turn t3
            have hs3 := t3.size
            have hC3 : ∀ c, C' c → W.heap.size ≤ c ∧ c < W3.heap.size := fun c hc => ⟨(t3.mine c hc).1, (t3.mine c hc).2.1⟩
            clear hs3 t3 M hz hJk hCw
            gi_wp2
            try go_wp2
            go_roundg (gk - 1)
            case measure => have := HG.out; have := HI2.out; omega
            case rel => exact ⟨k + 1, i, j + 1, C', by have := HI2.out; have := HI.out; omega, by have := HI2.out; have := HI.out; omega, by have := HG.out; have := HI2.out; have := HI.out; omega, hJ3, hC3, (by rw [HXX.out]; exact M3), ⟨HZ.out.2, (List.getElem?_eq_some_iff.1 HZ.out.1).1⟩⟩
          · gi_wp2
            try go_wp2
            exact bodyPost_ret (v := .tuple #[]) (by simp [results, Tryz.results113, go_sem]) rfl ⟨⟨_, rfl⟩, C', fun b hb => ⟨(t3.mine b hb).1, (t3.mine b hb).2.1⟩, .inr hx3⟩
        · skip
          have HO : Hid (ordZ (some x) (some y) = 0) := by show _ = _; first | rfl | (show cmpN x.nm y.nm = _; unfold cmpN; simp only [hc1, hc2]; rfl)
          have KO : ∀ w, Calls Tryz.prog 115 #[.agg (fcs (some x)), .agg (fcs (some y))] w fun e w' => e = .returned (.int .i64 (0)) ∧ Below w.heap.size w w' := fun w => by have h9 := order_any (some x) (some y) w; rw [fv_fcs, fv_fcs, HO.out] at h9; exact h9
          have HZ : Hid (xs[k]? = some (some x, some y) ∧ xs.drop (k + 1) = Z (l.drop (i + 1)) (m.drop (j + 1))) := by
            show _ ∧ _
            have h9 := HD.out.1
            rw [drop_at hx, drop_at hy, Z_c, if_neg (by rw [hc1]; decide), if_neg (by rw [hc2]; decide)] at h9
            have h8 := drop_cons h9
            refine ⟨h8.1, h8.2.trans ?_⟩
            rfl
          have HI2 : Hid (i < n ∧ j < n') := by
            show _ ∧ _
            refine ⟨?_, ?_⟩
            · rw [← HL.out]; exact (List.getElem?_eq_some_iff.1 hx).1
            · rw [← HL'.out]; exact (List.getElem?_eq_some_iff.1 hy).1
          have hnx : nx n i = i + 1 := by unfold nx; rw [if_pos HI2.out.1]
          rw [hnx] at M
          have hny : nx n' j = j + 1 := by unfold nx; rw [if_pos HI2.out.2]
          rw [hny] at M
          have HXX : Hid (l[i]? = some x) := hx
          have HYY : Hid (m[j]? = some y) := hy
          rw [hx, hy] at M
          clear HO HD hx hy hnx hny hc1 hc2
          go_wp2_with (first
      | ((with_reducible show wpList _ _ _ (Oper.mk _ (Op.load 4 _) _ _ _ _ :: _) _ _); refine wpList_cell4 M (by rfl) _ rfl _ rfl (by first | exact .head _ | exact .tail _ (.head _) | exact .tail _ (.tail _ (.head _)) | exact .tail _ (.tail _ (.tail _ (.head _))) | exact .tail _ (.tail _ (.tail _ (.tail _ (.head _)))) | exact .tail _ (.tail _ (.tail _ (.tail _ (.tail _ (.head _))))) | exact .tail _ (.tail _ (.tail _ (.tail _ (.tail _ (.tail _ (.head _)))))) | exact .tail _ (.tail _ (.tail _ (.tail _ (.tail _ (.tail _ (.tail _ (.head _)))))))) (by rfl) ?_)
      | ((with_reducible show wpList _ _ _ (Oper.mk (some 8) (Op.alloc 125) _ _ _ _ :: _) _ _); refine wpList_alloc M rfl rfl rt68 ?_; clear M; intro k8 W9 M)
      | ((with_reducible show wpList _ _ _ (Oper.mk (some 9) (Op.alloc 125) _ _ _ _ :: _) _ _); refine wpList_alloc M rfl rfl rt68 ?_; clear M; intro k9 W9 M)
      | ((with_reducible show wpList _ _ _ (Oper.mk _ (Op.load 125 _) _ _ _ _ :: _) _ _); refine wpList_load M (by rfl) _ rfl rt68 rfl (by first | exact .head _ | exact .tail _ (.head _) | exact .tail _ (.tail _ (.head _)) | exact .tail _ (.tail _ (.tail _ (.head _))) | exact .tail _ (.tail _ (.tail _ (.tail _ (.head _)))) | exact .tail _ (.tail _ (.tail _ (.tail _ (.tail _ (.head _))))) | exact .tail _ (.tail _ (.tail _ (.tail _ (.tail _ (.tail _ (.head _)))))) | exact .tail _ (.tail _ (.tail _ (.tail _ (.tail _ (.tail _ (.tail _ (.head _)))))))) (by first | rfl | exact fcs_size _) ?_)
      | (go_at_call 115; refine (KO _).mono ?_; clear KO; rintro e w1 ⟨rfl, b1⟩; replace M := M.later b1; clear b1))
          try simp only [Act.put, List.setIfInBounds_toArray, List.set_cons_zero, List.set_cons_succ]
          refine wp_region_any (by kernel_rfl) ?_
          change wpAny _ _ _ _ _ _ _ (World.drew _)
          replace M := M.drew
          generalize World.drew _ = WD at M ⊢
          refine wpAny_until (fun W' => W'.heap[k6]? = some (.cells (fcs (some x)) 125 (0, 0))) 4 _ _ _ _ ?_
          refine anyM_take 0 30 (.agg (fcs (some x))) rfl rfl (by kernel_rfl) (by kernel_rfl) (by kernel_rfl) (fun _ _ _ h => h) (.inr ⟨3, by kernel_rfl, by kernel_rfl, by kernel_rfl⟩) (by kernel_rfl) (Or.inl ⟨by rfl, fun X hSw => exec_loadr rfl rt68 rfl hSw (fcs_size _)⟩) (M.get (.tail _ (.tail _ (.tail _ (.head _))))) ?_
          try simp only [Act.put, List.setIfInBounds_toArray, List.set_cons_zero, List.set_cons_succ]
          refine anyM_take 1 31 (.func (.func 119) #[] #[.pointer (some ⟨ka1, 0, none⟩), .pointer (some ⟨ks1, 0, none⟩)]) rfl rfl (by kernel_rfl) (by kernel_rfl) (by kernel_rfl) (fun _ _ _ h => h) (.inr ⟨2, by kernel_rfl, by kernel_rfl, by kernel_rfl⟩) (by kernel_rfl) (Or.inl ⟨by rfl, by intro w hSw; go_simp⟩) (M.get (.tail _ (.tail _ (.tail _ (.head _))))) ?_
          try simp only [Act.put, List.setIfInBounds_toArray, List.set_cons_zero, List.set_cons_succ]
          refine anyM_one 2 (by kernel_rfl) rfl (fun K hK => ?_)
          go_simp
          go_wp2_with (go_at_call 119; refine (pull_any M 6 7 ka1 ks1 (i + 1) a n cap l rfl rfl w0 hr HBK.out HSW.out HI2.out.1).mono ?_; clear M; rintro e w1 ⟨rfl, M⟩; simp only [List.set_cons_zero, List.set_cons_succ] at M)
          refine hK.out _ _ (fun _ => (M.get (.tail _ (.tail _ (.tail _ (.head _)))))) ?_
          clear hK
          refine anyM_one 3 (by kernel_rfl) rfl (fun K hK => ?_)
          rw [if_pos (by rfl)]
          refine wp_put M _ _ rfl rt68 1 _ rfl rfl rfl rfl (fcs_size _) (fcs_one _) ?_
          clear M
          intro W9 M
          simp only [List.set_cons_zero, List.set_cons_succ] at M
          refine hK.out _ _ (fun _ => (M.get (.tail _ (.tail _ (.tail _ (.head _)))))) ?_
          clear hK
          refine anyM_one 4 (by kernel_rfl) rfl (fun K hK => ?_)
          rw [if_pos (by rfl)]
          refine wp_put M _ _ rfl rt68 3 _ rfl rfl rfl (fcs_size _) (fcs_size _) (fcs_one _) ?_
          clear M
          intro W9 M
          simp only [List.set_cons_zero, List.set_cons_succ] at M
          refine hK.out _ _ (fun h => absurd h (by decide)) ?_
          clear hK
          refine anyM_done (by kernel_rfl) ?_ _
          go_wp2_with (fail)
          refine wp_region_any (by kernel_rfl) ?_
          change wpAny _ _ _ _ _ _ _ (World.drew _)
          replace M := M.drew
          generalize World.drew _ = WD at M ⊢
          refine wpAny_until (fun W' => W'.heap[k7]? = some (.cells (fcs (some y)) 125 (0, 0))) 4 _ _ _ _ ?_
          refine anyM_take 0 35 (.agg (fcs (some y))) rfl rfl (by kernel_rfl) (by kernel_rfl) (by kernel_rfl) (fun _ _ _ h => h) (.inr ⟨3, by kernel_rfl, by kernel_rfl, by kernel_rfl⟩) (by kernel_rfl) (Or.inl ⟨by rfl, fun X hSw => exec_loadr rfl rt68 rfl hSw (fcs_size _)⟩) (M.get (.tail _ (.tail _ (.head _)))) ?_
          try simp only [Act.put, List.setIfInBounds_toArray, List.set_cons_zero, List.set_cons_succ]
          refine anyM_take 1 36 (.func (.func 119) #[] #[.pointer (some ⟨ka2, 0, none⟩), .pointer (some ⟨ks2, 0, none⟩)]) rfl rfl (by kernel_rfl) (by kernel_rfl) (by kernel_rfl) (fun _ _ _ h => h) (.inr ⟨2, by kernel_rfl, by kernel_rfl, by kernel_rfl⟩) (by kernel_rfl) (Or.inl ⟨by rfl, by intro w hSw; go_simp⟩) (M.get (.tail _ (.tail _ (.head _)))) ?_
          try simp only [Act.put, List.setIfInBounds_toArray, List.set_cons_zero, List.set_cons_succ]
          refine anyM_one 2 (by kernel_rfl) rfl (fun K hK => ?_)
          go_simp
          go_wp2_with (go_at_call 119; refine (pull_any M 4 5 ka2 ks2 (j + 1) a' n' cap' m rfl rfl w0 hr' HBK.out HSW.out HI2.out.2).mono ?_; clear M; rintro e w1 ⟨rfl, M⟩; simp only [List.set_cons_zero, List.set_cons_succ] at M)
          refine hK.out _ _ (fun _ => (M.get (.tail _ (.tail _ (.head _))))) ?_
          clear hK
          refine anyM_one 3 (by kernel_rfl) rfl (fun K hK => ?_)
          rw [if_pos (by rfl)]
          refine wp_put M _ _ rfl rt68 0 _ rfl rfl rfl rfl (fcs_size _) (fcs_one _) ?_
          clear M
          intro W9 M
          simp only [List.set_cons_zero, List.set_cons_succ] at M
          refine hK.out _ _ (fun _ => (M.get (.tail _ (.tail _ (.head _))))) ?_
          clear hK
          refine anyM_one 4 (by kernel_rfl) rfl (fun K hK => ?_)
          rw [if_pos (by rfl)]
          refine wp_put M _ _ rfl rt68 2 _ rfl rfl rfl (fcs_size _) (fcs_size _) (fcs_one _) ?_
          clear M
          intro W9 M
          simp only [List.set_cons_zero, List.set_cons_succ] at M
          refine hK.out _ _ (fun h => absurd h (by decide)) ?_
          clear hK
          refine anyM_done (by kernel_rfl) ?_ _
          rename (∀ (a : Act) (w : World), Code.wp _ _ _ a w → _) => hgo
          refine hgo _ _ ?_
          clear hgo
          simp only [Act.put, List.setIfInBounds_toArray, List.set_cons_zero, List.set_cons_succ, List.getElem_toArray, List.getElem_cons_succ, List.getElem_cons_zero]
          refine (wpIn_wide (n := 3)).1 ?_
          have JA := hJ _ _ _ _ hJk M.same
          have hz := M.same.size
          obtain ⟨fn1, tmps, assign, body, hy, hR⟩ := hY k C (some x, some y) _ JA M.size (fun c hc => ⟨(hCw c hc).1, by have := (hCw c hc).2; omega⟩) HZ.out.1
          dsimp only [encF] at hy hR
          try simp only [show fcs none = zF from rfl] at hy
          gi_wp2_with ((with_reducible show wpListIn _ _ _ _ _ (Oper.mk _ (Op.load 125 _) _ _ _ _ :: _) _ _); refine wpListIn_load M rfl _ rfl rt68 rfl (by first | exact .head _ | exact .tail _ (.head _)) (by first | rfl | exact fcs_size _) ?_)
          refine (RoundIn.wideAny hR).mono ?_
          clear hR hy hY JA
          rintro e W3 (⟨rfl, C', hJ3, t3⟩ | ⟨rfl, C', hx3, t3⟩)
          · have M3 := (M.tail.tail).turn t3
            have hs3 := t3.size
            have hC3 : ∀ c, C' c → W.heap.size ≤ c ∧ c < W3.heap.size := fun c hc => ⟨(t3.mine c hc).1, (t3.mine c hc).2.1⟩
            clear hs3 t3 M hz hJk hCw
            gi_wp2
            try go_wp2
            go_roundg (gk - 2)
            case measure => have := HG.out; have := HI2.out; omega
            case rel => exact ⟨k + 1, i + 1, j + 1, C', by have := HI2.out; have := HI.out; omega, by have := HI2.out; have := HI.out; omega, by have := HG.out; have := HI2.out; have := HI.out; omega, hJ3, hC3, M3, ⟨HZ.out.2, (List.getElem?_eq_some_iff.1 HZ.out.1).1⟩⟩
          · gi_wp2
            try go_wp2
            exact bodyPost_ret (v := .tuple #[]) (by simp [results, Tryz.results113, go_sem]) rfl ⟨⟨_, rfl⟩, C', fun b hb => ⟨(t3.mine b hb).1, (t3.mine b hb).2.1⟩, .inr hx3⟩
end Go.Proofs.YtoeebofappbneaaGreat
