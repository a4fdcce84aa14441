/-
  Lists of half-edges compared: Same, and the document's own.
-/
import Derived.Test.YtifkkkfejbgifaaH2
namespace Go.Proofs.Ytifkkkfejbgifaa
open Go.ChangeShapes Go.WideShapes Go.ChangeAt Go.RowKit
set_option linter.unusedVariables false
set_option linter.unusedSimpArgs false

def eqHs (a b : List HS) : Bool := decide (a.length = b.length) && (List.range a.length).all (fun i => (a.getD i HS.z).eq1 (b.getD i HS.z))
theorem eqHs_no {a b : List HS} {i : Nat} (hi : i < a.length) (h : (a.getD i HS.z).eq1 (b.getD i HS.z) = false) : eqHs a b = false := by
  unfold eqHs
  rw [List.all_eq_false.2 ⟨i, List.mem_range.2 hi, by rw [h]; decide⟩, Bool.and_false]
theorem eqHs_yes {a b : List HS} (hl : a.length = b.length) (h : ∀ j, j < a.length → (a.getD j HS.z).eq1 (b.getD j HS.z) = true) : eqHs a b = true := by
  unfold eqHs
  rw [decide_eq_true hl, List.all_eq_true.2 fun j hj => h j (List.mem_range.1 hj)]
  rfl

set_option maxRecDepth 100000 in
set_option maxHeartbeats 4000000 in
theorem rsame_same (A A' : Option Addr) (c d : Nat) (hs ks : List HS) (w : World) (P : Hs w A hs.length c hs) (Q : Hs w A' hs.length d ks) : Calls Try.prog 27 #[.slice A hs.length c, .slice A' hs.length d] w fun e w' => e = .returned (.bool (eqHs hs ks)) ∧ Below w.heap.size w w' := by
  have HSM : Hid (hs.length ≤ 140737488355328) := by show _ ≤ _; have := P.small; omega
  have HLM : Hid (hs.length = ks.length) := Q.size.symm
  go_enter Try.func27, Try.ntmps27
  go_wp2
  go_loopg [5] hs.length (fun gk vi wr => ∃ i : Nat, vi = .int .i64 (i : Int) ∧ i + gk = hs.length ∧ Below w.heap.size w wr ∧ ∀ j, j < i → (hs.getD j HS.z).eq1 (ks.getD j HS.z) = true)
  case atStart => exact ⟨0, by first | rfl | go_num, by omega, Below.refl _ _, fun j hj => by omega⟩
  case round =>
    obtain ⟨i, rfl, hgk, B, hok⟩ := hrel
    have HOK : Hid (∀ j, j < i → (hs.getD j HS.z).eq1 (ks.getD j HS.z) = true) := hok
    clear hok
    by_cases hi : i < hs.length
    case pos =>
      have HI : Hid (i < hs.length) := hi
      have hiI : (i : Int) < (hs.length : Int) := by omega
      have hwr : IntKind.i64.wrap ((i : Int) + 1) = (i : Int) + 1 := by rw [IntKind.wrap_i64]; have := HSM.out; omega
      obtain ⟨g1, o1, a1, c1, rfl, k10, r10, R1⟩ := P.at i hi
      obtain ⟨g2, o2, a2, c2, rfl, k20, r20, R2⟩ := Q.at i hi
      obtain ⟨x, e1⟩ : ∃ x, hs.getD i HS.z = x := ⟨_, rfl⟩
      obtain ⟨y, e2⟩ : ∃ x, ks.getD i HS.z = x := ⟨_, rfl⟩
      rw [e1] at r10 R1
      rw [e2] at r20 R2
      have r1 := range_later r10 k10 B
      have r2 := range_later r20 k20 B
      have k1 := Nat.lt_of_lt_of_le k10 B.size
      have k2 := Nat.lt_of_lt_of_le k20 B.size
      have HE : Hid (hs.getD i HS.z = x ∧ ks.getD i HS.z = y) := ⟨e1, e2⟩
      have KC := fun W (h : Below w.heap.size w W) => sone_any x y a1 a2 c1 c2 W (RdL.below R1 h) (RdL.below R2 h)
      clear e1 e2 r10 r20 R1 R2
      cases heq : x.eq1 y with
      | true =>
        have HQ : Hid ((hs.getD i HS.z).eq1 (ks.getD i HS.z) = true) := by show _ = _; rw [HE.out.1, HE.out.2]; exact heq
        go_wp2_with (fail)
        refine wp_region_any (by kernel_rfl) ?_
        change wpAny _ _ _ _ _ _ _ (World.drew _)
        refine wpAny_narrow (fun W' => Below wr.heap.size wr W') _ _ _ _ ?_
        refine anyH_take 0 17 (.slice (some ⟨g1, o1, none⟩) hs.length c) rfl rfl (by kernel_rfl) (by kernel_rfl) (by kernel_rfl) (fun _ _ _ h => h) (Or.inl ⟨by rfl, by intro w hSw; go_simp⟩) ((Below.refl _ _).drew) ?_
        try simp only [Act.put, List.setIfInBounds_toArray, List.set_cons_zero, List.set_cons_succ]
        refine anyH_take 1 18 (.int .i64 (i : Int)) rfl rfl (by kernel_rfl) (by kernel_rfl) (by kernel_rfl) (fun _ _ _ h => h) (Or.inl ⟨by rfl, by intro w hSw; go_simp⟩) ((Below.refl _ _).drew) ?_
        try simp only [Act.put, List.setIfInBounds_toArray, List.set_cons_zero, List.set_cons_succ]
        refine anyH_take 2 19 (.pointer (some ⟨g1, o1 + i * 6, none⟩)) rfl rfl (by kernel_rfl) (by kernel_rfl) (by kernel_rfl) (fun _ _ _ h => h) (Or.inl ⟨by rfl, by intro w hSw; go_simp⟩) ((Below.refl _ _).drew) ?_
        try simp only [Act.put, List.setIfInBounds_toArray, List.set_cons_zero, List.set_cons_succ]
        refine anyH_take 3 20 ((x.on a1 c1).val) rfl rfl (by kernel_rfl) (by kernel_rfl) (by kernel_rfl) (fun _ _ _ h => h) (Or.inl ⟨by rfl, fun X hSw => exec_load24 rfl g1 (o1 + i * 6) (x.on a1 c1) rfl (range_later r1 k1 hSw)⟩) ((Below.refl _ _).drew) ?_
        try simp only [Act.put, List.setIfInBounds_toArray, List.set_cons_zero, List.set_cons_succ]
        refine anyH_take 4 21 (.slice (some ⟨g2, o2, none⟩) hs.length d) rfl rfl (by kernel_rfl) (by kernel_rfl) (by kernel_rfl) (fun _ _ _ h => h) (Or.inl ⟨by rfl, by intro w hSw; go_simp⟩) ((Below.refl _ _).drew) ?_
        try simp only [Act.put, List.setIfInBounds_toArray, List.set_cons_zero, List.set_cons_succ]
        refine anyH_take 5 22 (.int .i64 (i : Int)) rfl rfl (by kernel_rfl) (by kernel_rfl) (by kernel_rfl) (fun _ _ _ h => h) (Or.inl ⟨by rfl, by intro w hSw; go_simp⟩) ((Below.refl _ _).drew) ?_
        try simp only [Act.put, List.setIfInBounds_toArray, List.set_cons_zero, List.set_cons_succ]
        refine anyH_take 6 23 (.pointer (some ⟨g2, o2 + i * 6, none⟩)) rfl rfl (by kernel_rfl) (by kernel_rfl) (by kernel_rfl) (fun _ _ _ h => h) (Or.inl ⟨by rfl, by intro w hSw; go_simp⟩) ((Below.refl _ _).drew) ?_
        try simp only [Act.put, List.setIfInBounds_toArray, List.set_cons_zero, List.set_cons_succ]
        refine anyH_take 7 24 ((y.on a2 c2).val) rfl rfl (by kernel_rfl) (by kernel_rfl) (by kernel_rfl) (fun _ _ _ h => h) (Or.inl ⟨by rfl, fun X hSw => exec_load24 rfl g2 (o2 + i * 6) (y.on a2 c2) rfl (range_later r2 k2 hSw)⟩) ((Below.refl _ _).drew) ?_
        try simp only [Act.put, List.setIfInBounds_toArray, List.set_cons_zero, List.set_cons_succ]
        refine wpAnyH_ready (rs := [8]) (by kernel_rfl) (by simp) ?_
        refine AllReadyH.cons rfl (fun K hK => ?_) AllReadyH.nil
        go_simp
        go_wp2_with (go_at_call 37; refine (KC _ (B.trans ((Below.refl _ _).drew.mono B.size))).mono ?_; rw [heq]; rintro e w5 ⟨rfl, b5⟩)
        refine hK.out _ _ ((Below.refl _ _).drew.trans b5) (fun hS => ?_)
        clear hK
        refine anyH_take 9 26 (.bool false) rfl rfl (by kernel_rfl) (by kernel_rfl) (by kernel_rfl) (fun _ _ _ h => h) (Or.inl ⟨by rfl, by intro w hSw; go_simp⟩) (hS) ?_
        try simp only [Act.put, List.setIfInBounds_toArray, List.set_cons_zero, List.set_cons_succ]
        refine wpAnyH_done (by kernel_rfl) ?_ _
        go_wp2
        go_roundg (gk - 1)
        case measure => omega
        case rel => exact ⟨i + 1, by first | rfl | go_num, by omega, B.trans (hS.mono B.size), fun j hj => (Nat.lt_succ_iff_lt_or_eq.1 hj).elim (HOK.out j) (fun e => by rw [e]; exact HQ.out)⟩
      | false =>
        have HQ : Hid (eqHs hs ks = false) := eqHs_no HI.out (by rw [HE.out.1, HE.out.2]; exact heq)
        go_wp2_with (fail)
        refine wp_region_any (by kernel_rfl) ?_
        change wpAny _ _ _ _ _ _ _ (World.drew _)
        refine wpAny_narrow (fun W' => Below wr.heap.size wr W') _ _ _ _ ?_
        refine anyH_take 0 17 (.slice (some ⟨g1, o1, none⟩) hs.length c) rfl rfl (by kernel_rfl) (by kernel_rfl) (by kernel_rfl) (fun _ _ _ h => h) (Or.inl ⟨by rfl, by intro w hSw; go_simp⟩) ((Below.refl _ _).drew) ?_
        try simp only [Act.put, List.setIfInBounds_toArray, List.set_cons_zero, List.set_cons_succ]
        refine anyH_take 1 18 (.int .i64 (i : Int)) rfl rfl (by kernel_rfl) (by kernel_rfl) (by kernel_rfl) (fun _ _ _ h => h) (Or.inl ⟨by rfl, by intro w hSw; go_simp⟩) ((Below.refl _ _).drew) ?_
        try simp only [Act.put, List.setIfInBounds_toArray, List.set_cons_zero, List.set_cons_succ]
        refine anyH_take 2 19 (.pointer (some ⟨g1, o1 + i * 6, none⟩)) rfl rfl (by kernel_rfl) (by kernel_rfl) (by kernel_rfl) (fun _ _ _ h => h) (Or.inl ⟨by rfl, by intro w hSw; go_simp⟩) ((Below.refl _ _).drew) ?_
        try simp only [Act.put, List.setIfInBounds_toArray, List.set_cons_zero, List.set_cons_succ]
        refine anyH_take 3 20 ((x.on a1 c1).val) rfl rfl (by kernel_rfl) (by kernel_rfl) (by kernel_rfl) (fun _ _ _ h => h) (Or.inl ⟨by rfl, fun X hSw => exec_load24 rfl g1 (o1 + i * 6) (x.on a1 c1) rfl (range_later r1 k1 hSw)⟩) ((Below.refl _ _).drew) ?_
        try simp only [Act.put, List.setIfInBounds_toArray, List.set_cons_zero, List.set_cons_succ]
        refine anyH_take 4 21 (.slice (some ⟨g2, o2, none⟩) hs.length d) rfl rfl (by kernel_rfl) (by kernel_rfl) (by kernel_rfl) (fun _ _ _ h => h) (Or.inl ⟨by rfl, by intro w hSw; go_simp⟩) ((Below.refl _ _).drew) ?_
        try simp only [Act.put, List.setIfInBounds_toArray, List.set_cons_zero, List.set_cons_succ]
        refine anyH_take 5 22 (.int .i64 (i : Int)) rfl rfl (by kernel_rfl) (by kernel_rfl) (by kernel_rfl) (fun _ _ _ h => h) (Or.inl ⟨by rfl, by intro w hSw; go_simp⟩) ((Below.refl _ _).drew) ?_
        try simp only [Act.put, List.setIfInBounds_toArray, List.set_cons_zero, List.set_cons_succ]
        refine anyH_take 6 23 (.pointer (some ⟨g2, o2 + i * 6, none⟩)) rfl rfl (by kernel_rfl) (by kernel_rfl) (by kernel_rfl) (fun _ _ _ h => h) (Or.inl ⟨by rfl, by intro w hSw; go_simp⟩) ((Below.refl _ _).drew) ?_
        try simp only [Act.put, List.setIfInBounds_toArray, List.set_cons_zero, List.set_cons_succ]
        refine anyH_take 7 24 ((y.on a2 c2).val) rfl rfl (by kernel_rfl) (by kernel_rfl) (by kernel_rfl) (fun _ _ _ h => h) (Or.inl ⟨by rfl, fun X hSw => exec_load24 rfl g2 (o2 + i * 6) (y.on a2 c2) rfl (range_later r2 k2 hSw)⟩) ((Below.refl _ _).drew) ?_
        try simp only [Act.put, List.setIfInBounds_toArray, List.set_cons_zero, List.set_cons_succ]
        refine wpAnyH_ready (rs := [8]) (by kernel_rfl) (by simp) ?_
        refine AllReadyH.cons rfl (fun K hK => ?_) AllReadyH.nil
        go_simp
        go_wp2_with (go_at_call 37; refine (KC _ (B.trans ((Below.refl _ _).drew.mono B.size))).mono ?_; rw [heq]; rintro e w5 ⟨rfl, b5⟩)
        refine hK.out _ _ ((Below.refl _ _).drew.trans b5) (fun hS => ?_)
        clear hK
        refine anyH_take 9 26 (.bool true) rfl rfl (by kernel_rfl) (by kernel_rfl) (by kernel_rfl) (fun _ _ _ h => h) (Or.inl ⟨by rfl, by intro w hSw; go_simp⟩) (hS) ?_
        try simp only [Act.put, List.setIfInBounds_toArray, List.set_cons_zero, List.set_cons_succ]
        refine wpAnyH_done (by kernel_rfl) ?_ _
        go_wp2
        go_ret
        exact ⟨ret_bool (by rw [HQ.out]), B.trans (hS.mono B.size)⟩
    case neg =>
      have hiI : ¬ (i : Int) < (hs.length : Int) := by omega
      have HV : Hid (eqHs hs ks = true) := eqHs_yes HLM.out (fun j hj => HOK.out j (by omega))
      go_wp2
      go_ret
      exact ⟨ret_bool (by rw [HV.out]), B⟩

set_option maxHeartbeats 1000000 in
theorem rsame_len (a b : Option Addr) (n m c d : Nat) (w : World) (h : n ≠ m) : Calls Try.prog 27 #[.slice a n c, .slice b m d] w fun e w' => e = .returned (.bool false) ∧ w' = w := by
  have h1 : ((n : Int) == (m : Int)) = false := by simp; omega
  have h3 : ¬ (n : Int) = (m : Int) := by omega
  go_enter Try.func27, Try.ntmps27
  go_wp2
  go_ret
  exact ⟨rfl, rfl⟩

theorem rsame_any (A A' : Option Addr) (c d : Nat) (hs ks : List HS) (w : World) (P : Hs w A hs.length c hs) (Q : Hs w A' ks.length d ks) : Calls Try.prog 27 #[.slice A hs.length c, .slice A' ks.length d] w fun e w' => e = .returned (.bool (eqHs hs ks)) ∧ Below w.heap.size w w' := by
  by_cases h : hs.length = ks.length
  · have Q' := Q
    rw [← h] at Q' ⊢
    exact rsame_same A A' c d hs ks w P Q'
  · refine (rsame_len A A' hs.length ks.length c d w h).mono ?_
    rintro e w' ⟨rfl, hw⟩
    rw [hw, show eqHs hs ks = false by unfold eqHs; rw [decide_eq_false h]; rfl]
    exact ⟨rfl, Below.refl _ _⟩

end Go.Proofs.Ytifkkkfejbgifaa
