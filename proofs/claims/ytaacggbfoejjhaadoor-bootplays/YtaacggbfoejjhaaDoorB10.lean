/-
  Package boot: what load tells of a disk; a slot is written.
-/
import Derived.Test.YtaacggbfoejjhaaDoorB9
namespace Go.Proofs.YtaacggbfoejjhaaDoor
open Go.ChangeShapes Go.WideShapes Go.ChangeAt Go.RowKit
open D
set_option linter.unusedVariables false
set_option linter.unusedSimpArgs false

/-- What load tells. -/
def ldC (S : DS) : Int := if S.gone then 32 else if S.n < 4 then 31 else 0
def ldV (S : DS) : List Int := if S.gone then zr 64 else if S.n < 4 then zr 64 else S.bs.take 64
theorem ld_any (d l : Nat) (S : DS) (w : World) (D : DkP w d l S) : Calls Tryd.prog 24 #[.pointer (some ⟨d, 0, none⟩)] w fun e w' => e = .returned (.tuple #[vb (ldV S), .int .i64 (ldC S)]) ∧ Below w.heap.size w w' := by
  unfold ldC ldV
  cases hg : S.gone with
  | true =>
    refine (load_walk _ 0 32 S.bs w rfl (by omega) (fun p W h => absurd h (by omega)) (fun W h b => ?_)).mono ?_
    · exact read_dead d l S 0 W (D.only (Only.of_below (C := none_) (b.mono (Nat.le_refl _))) (fun h => h) (fun h => h)) hg
    · rintro e w' ⟨rfl, b⟩
      exact ⟨rfl, b⟩
  | false =>
    refine (load_walk _ S.n 31 S.bs w rfl (by rw [D.ok.len]; omega) (fun p W h h4 b => ?_) (fun W h b => ?_)).mono ?_
    · exact read_ok d l S p W (D.below b) hg h
    · exact read_no d l S _ W (D.below b) hg (by unfold inS; simp)
    · rintro e w' ⟨rfl, b⟩
      refine ⟨?_, b⟩
      by_cases h4 : 4 ≤ S.n
      · simp only [if_pos h4, if_neg (Nat.not_lt.2 h4), Bool.false_eq_true, if_false]
      · simp only [if_neg h4, if_pos (Nat.lt_of_not_le h4), Bool.false_eq_true, if_false]
set_option maxHeartbeats 1000000 in
theorem given_nil (w : World) : Calls Tryd.prog 36 #[.pointer none] w fun e w' => e = .returned (.bool false) ∧ w' = w := by
  go_enter Tryd.func36, Tryd.ntmps36
  go_wp2
  go_ret
  exact ⟨rfl, rfl⟩
set_option maxHeartbeats 1000000 in
theorem dead_nil (w : World) : Calls Tryd.prog 53 #[.pointer none] w fun e w' => e = .returned (.bool true) ∧ w' = w := by
  go_enter Tryd.func53, Tryd.ntmps53
  go_wp2_with (go_at_call 36; refine (given_nil _).mono ?_; rintro e w1 ⟨rfl, rfl⟩)
  go_ret
  exact ⟨rfl, rfl⟩
set_option maxHeartbeats 1000000 in
theorem who_nil (w : World) : Calls Tryd.prog 50 #[.pointer none] w fun e w' => e = .returned (.iface 96 (.agg #[])) ∧ Below w.heap.size w w' := by
  go_enter Tryd.func50, Tryd.ntmps50
  go_wp2_with (go_at_call 53; refine (dead_nil _).mono ?_; rintro e w1 ⟨rfl, rfl⟩)
  go_ret
  exact ⟨rfl, Below.refl _ _⟩
set_option maxHeartbeats 1000000 in
theorem read_nil (x : Int) (w : World) : Calls Tryd.prog 41 #[.pointer none, .int .i64 x] w fun e w' => e = .returned (.tuple #[.slice none 0 0, .int .i64 32]) ∧ Below w.heap.size w w' := by
  go_enter Tryd.func41, Tryd.ntmps41
  go_wp2_with (first
    | (go_at_call 50; refine (who_nil _).mono ?_; rintro e w1 ⟨rfl, b1⟩)
    | (go_at_call 70; refine (offread_any x _).mono ?_; rintro e w2 ⟨rfl, b2⟩))
  go_ret2
  exact ⟨rfl, b1.trans (b2.mono b1.size)⟩
theorem ld_nil (w : World) : Calls Tryd.prog 24 #[.pointer none] w fun e w' => e = .returned (.tuple #[vb (zr 64), .int .i64 32]) ∧ Below w.heap.size w w' :=
  (load_walk _ 0 32 [] w rfl (by simp) (fun p W h => absurd h (by omega)) (fun W h b => read_nil 0 W)).mono fun e w' ⟨h, b⟩ => ⟨h, b⟩
/-- A record's halves; the disk behind some of its writes, and what the next one tells. -/
def hlf (r : List Int) (j : Nat) : List Int := (r.drop (j * 16)).take 16
theorem hlf_len {r : List Int} (h : r.length = 32) {j : Nat} (hj : j < 2) : (hlf r j).length = 16 := by unfold hlf; rw [List.length_take, List.length_drop]; omega
theorem hlf_byt {r : List Int} (h : Byt r) (j : Nat) : Byt (hlf r j) := fun c hc => h c (List.mem_of_mem_drop (List.mem_of_mem_take hc))
def sts (S : DS) (i : Nat) (r : List Int) : Nat → DS
  | 0 => S
  | j + 1 => wrS (sts S i r j) ((i * 2 + j : Nat) : Int) 16 (hlf r j)
def wcs (S : DS) (i : Nat) (r : List Int) (j : Nat) : Int := wrC (sts S i r j) ((i * 2 + j : Nat) : Int) 16
/-- What store tells, and leaves. -/
def stoC (S : DS) (i : Nat) (r : List Int) : Int := if wcs S i r 0 = 0 then wcs S i r 1 else wcs S i r 0
def stoS (S : DS) (i : Nat) (r : List Int) : DS := if wcs S i r 0 = 0 then sts S i r 2 else sts S i r 1
set_option maxRecDepth 100000 in
set_option maxHeartbeats 8000000 in
theorem store_any (d l : Nat) (S : DS) (i : Nat) (r : List Int) (w : World) (D : DkP w d l S) (hi : i < 2) (hr : r.length = 32) (hb : Byt r) :
    Calls Tryd.prog 27 #[.pointer (some ⟨d, 0, none⟩), .int .i64 (i : Int), vb r] w fun e w' => e = .returned (.int .i64 (stoC S i r)) ∧ DkP w' d l (stoS S i r) ∧ Only (at2 d l) w w' := by
  have hd := row_lt D.obj
  have hl := row_lt D.lst
  go_enter Tryd.func27, Tryd.ntmps27
  go_wp2_with (first
    | ((with_reducible show wpList _ _ _ (Oper.mk _ (Op.box 54 _) _ _ _ _ :: _) _ _); refine wpList_boxB rfl 54 _ rfl r rfl ?_; intro w1 N1)
    | ((with_reducible show wpList _ _ _ (Oper.mk _ (Op.load 54 _) _ _ _ _ :: _) _ _); refine wpList_loadB rfl 54 32 arr54 _ rfl w.heap.size 0 r rfl N1.blk.whole hr ?_))
  go_loopg [11] 2 (fun g ix wr => ∃ (j : Nat), ix = .int .i64 (j : Int) ∧ j + g = 2 ∧ Hid (∀ q, q < j → wcs S i r q = 0) ∧ DkP wr d l (sts S i r j) ∧ Only (at2 d l) w wr)
  case atStart => exact ⟨0, rfl, rfl, fun q h => absurd h (by omega), D.below N1.below, Only.of_below N1.below⟩
  case round =>
    obtain ⟨j, rfl, hg, HW, Dj, oj⟩ := hrel
    by_cases hc : j < 2
    · have hcI : (j : Int) < 2 := by omega
      have hhl := hlf_len hr hc
      have hhb := hlf_byt hb j
      have KP := fun W => place_any i j W hi hc
      have HST : Hid (sts S i r (j + 1) = wrS (sts S i r j) ((i * 2 + j : Nat) : Int) 16 (hlf r j)) := rfl
      have HWC : Hid (wcs S i r j = wrC (sts S i r j) ((i * 2 + j : Nat) : Int) 16) := rfl
      obtain ⟨p, hp⟩ : ∃ p, i * 2 + j = p := ⟨_, rfl⟩
      rw [hp] at KP HST HWC
      clear hp
      obtain ⟨ys, HYS⟩ : ∃ ys, Hid (hlf r j = ys) := ⟨_, rfl⟩
      rw [HYS.out] at hhl hhb HST
      obtain ⟨Sj, hSj⟩ : ∃ Sj, sts S i r j = Sj := ⟨_, rfl⟩
      rw [hSj] at Dj HST HWC
      clear hSj
      go_wp2_with (first
        | ((with_reducible show wpList _ _ _ (Oper.mk _ (Op.index 54 _ _) _ _ _ _ :: _) _ _); refine wpList_indexB rfl 54 52 16 arr52 und54 und52 _ _ rfl r j hc rfl rfl ?_; rw [show (r.drop (j * 16)).take 16 = ys from HYS.out])
        | ((with_reducible show wpList _ _ _ (Oper.mk _ (Op.alloc 52) _ _ _ _ :: _) _ _); refine wpList_allocB rfl 52 16 arr52 rfl ?_; intro w2 N2)
        | ((with_reducible show wpList _ _ _ (Oper.mk _ (Op.store 52 _ _) _ _ _ _ :: _) _ _); refine wpList_storeB rfl 52 16 arr52 _ _ rfl wr.heap.size 0 52 (zr 16) ys rfl rfl N2.blk hhl (by rw [zr_len]; decide) ?_; intro w3 W3; rw [splice_all _ _ (by rw [hhl, zr_len])] at W3))
      have b3 := N2.wrote W3
      refine wp_region_any (by kernel_rfl) ?_
      change wpAny _ _ _ _ _ _ _ (World.drew _)
      obtain ⟨wd, hwd⟩ : ∃ wd, World.drew w3 = wd := ⟨_, rfl⟩
      rw [hwd]
      have Dd : DkP wd d l Sj := by rw [← hwd]; exact Dj.below b3.drew
      have od : Only (at2 d l) w wd := by rw [← hwd]; exact (oj.trans (Only.of_below b3)).drew
      have Bd : Blk wd wr.heap.size 52 ys := by rw [← hwd]; exact W3.blk
      have hgs := oj.size
      have Rd := Bd.row hhb 0 16 16 (by omega) (by omega)
      rw [List.drop_zero, List.take_of_length_le (by omega)] at Rd
      clear hwd N2 W3 b3 Dj
      obtain ⟨k, hk⟩ : ∃ k, wr.heap.size = k := ⟨_, rfl⟩
      rw [hk] at Bd Rd hgs ⊢
      clear hk
      refine any_take 0 15 (.pointer (some ⟨d, 0, none⟩)) rfl rfl (by kernel_rfl) (by kernel_rfl) (by kernel_rfl) (fun _ _ _ h => h) (Or.inl ⟨by rfl, by intro X; go_simp⟩) ?_
      try simp only [Act.put, List.setIfInBounds_toArray, List.set_cons_zero, List.set_cons_succ]
      refine any_take 1 16 (.int .i64 (i : Int)) rfl rfl (by kernel_rfl) (by kernel_rfl) (by kernel_rfl) (fun _ _ _ h => h) (Or.inl ⟨by rfl, by intro X; go_simp⟩) ?_
      try simp only [Act.put, List.setIfInBounds_toArray, List.set_cons_zero, List.set_cons_succ]
      refine any_take 2 17 (.int .i64 (j : Int)) rfl rfl (by kernel_rfl) (by kernel_rfl) (by kernel_rfl) (fun _ _ _ h => h) (Or.inl ⟨by rfl, by intro X; go_simp⟩) ?_
      try simp only [Act.put, List.setIfInBounds_toArray, List.set_cons_zero, List.set_cons_succ]
      refine any_take 4 19 (.slice (some ⟨k, 0, none⟩) 16 16) rfl rfl (by kernel_rfl) (by kernel_rfl) (by kernel_rfl) (fun _ _ _ h => h) (Or.inl ⟨by rfl, by intro X; go_simp⟩) ?_
      try simp only [Act.put, List.setIfInBounds_toArray, List.set_cons_zero, List.set_cons_succ]
      refine wpAny_ready (rs := [3]) (by kernel_rfl) (by simp) ?_
      refine AllReady.cons rfl (fun K hK => ?_) AllReady.nil
      go_simp
      go_wp2_with (go_at_call 42; refine (KP _).mono ?_; rintro e w4 ⟨rfl, hw⟩; rw [hw]; clear hw)
      refine wpAny_ready (rs := [5]) (by kernel_rfl) (by simp) ?_
      refine AllReady.cons rfl (fun K hK => ?_) AllReady.nil
      go_simp
      go_wp2_with (go_at_call 34; refine (write_all d l Sj (p : Int) (some ⟨k, 0, none⟩) 16 16 ys wd Dd Rd (by intro b o e; cases e; exact ⟨by omega, by omega⟩)).mono ?_; rintro e w5 ⟨rfl, D5, o5⟩; rw [← HST.out] at D5; rw [← HWC.out])
      obtain ⟨cc, hcc⟩ : ∃ cc, wcs S i r j = cc := ⟨_, rfl⟩
      rw [hcc]
      have HCC : Hid (wcs S i r j = cc) := hcc
      clear hcc
      refine any_take 6 9 (.int .i64 cc) rfl rfl (by kernel_rfl) (by kernel_rfl) (by kernel_rfl) (fun _ _ _ h => h) (Or.inl ⟨by rfl, by intro X; go_simp⟩) ?_
      try simp only [Act.put, List.setIfInBounds_toArray, List.set_cons_zero, List.set_cons_succ]
      refine wpAny_done (by kernel_rfl) ?_ _
      have o5' := od.trans o5
      by_cases hz : cc = 0
      · have hz' : (cc != 0) = false := by simp [hz]
        have HN : Hid (∀ q, q < j + 1 → wcs S i r q = 0) := by
          intro q hq
          by_cases e : q = j
          · rw [e, HCC.out]; exact hz
          · exact HW.out q (by omega)
        clear hz
        go_wp2
        go_roundg (gk - 1)
        case measure => omega
        case rel => exact ⟨j + 1, by first | rfl | go_num, by omega, HN, D5, o5'⟩
      · have hz' : (cc != 0) = true := by simp [hz]
        have HZ : Hid (stoC S i r = cc ∧ stoS S i r = sts S i r (j + 1)) := by
          show _ ∧ _
          unfold stoC stoS
          have hj : j = 0 ∨ j = 1 := by omega
          rcases hj with rfl | rfl
          · have h := HCC.out; rw [if_neg (by rw [h]; exact hz), if_neg (by rw [h]; exact hz)]; exact ⟨h, rfl⟩
          · have h := HW.out 0 (by omega); rw [if_pos h, if_pos h]; exact ⟨HCC.out, rfl⟩
        clear hz
        go_wp2
        go_ret
        exact ⟨by rw [HZ.out.1]; rfl, by rw [HZ.out.2]; exact D5, o5'⟩
    · have e : j = 2 := by omega
      subst e
      have HZ : Hid (stoC S i r = 0 ∧ stoS S i r = sts S i r 2) := by
        show _ ∧ _
        unfold stoC stoS
        have h := HW.out 0 (by omega)
        rw [if_pos h, if_pos h]; exact ⟨HW.out 1 (by omega), rfl⟩
      go_wp2
      go_ret
      exact ⟨by rw [HZ.out.1]; rfl, by rw [HZ.out.2]; exact Dj, oj⟩
end Go.Proofs.YtaacggbfoejjhaaDoor
