/-
  What the law HalfKeeps returns, where all is fit.
-/
import Derived.Test.YtacefkchhcpgaaaH13
namespace Go.Proofs.Ytacefkchhcpgaaa
open Go.ChangeShapes Go.WideShapes Go.ChangeAt Go.RowKit
set_option linter.unusedVariables false
set_option linter.unusedSimpArgs false

set_option maxRecDepth 100000 in
set_option maxHeartbeats 8000000 in
theorem keeps_fit (id : Int) (h : HS) (a : Option Addr) (c1 : Nat) (A : Option Addr) (c : Nat) (hs : List HS) (w : World) (R0 : RdO w h a c1) (P0 : Hs w A hs.length c hs) (hf : fitsB id hs = true) (hx : h.fit id = true) : Calls Try.prog 7 #[.int .i64 id, .slice A hs.length c, (h.on a c1).val] w fun e w' => e = .returned (.bool true) ∧ Below w.heap.size w w' := by
  have BW : Below w.heap.size w (w.alloc (.cells #[.int .i64 h.peer, .int .i64 h.boot, .int .i64 h.life, .slice a h.ls.length c1, .bool h.pend, .int .i64 h.miss] 24)) := (Below.refl _ _).alloc (Nat.le_refl _) _
  have T : (w.alloc (.cells #[.int .i64 h.peer, .int .i64 h.boot, .int .i64 h.life, .slice a h.ls.length c1, .bool h.pend, .int .i64 h.miss] 24)).heap[w.heap.size]? = some (.cells (h.on a c1).cells.toArray 24 (0, 0)) := heap_new rfl
  have R : RdO (w.alloc (.cells #[.int .i64 h.peer, .int .i64 h.boot, .int .i64 h.life, .slice a h.ls.length c1, .bool h.pend, .int .i64 h.miss] 24)) h a c1 := RdL.below R0 BW
  have P := P0.below BW
  have hr := fits_rise hf
  have h16 := fits_few hf
  have K11 := rfits_any id A c hs (w.alloc (.cells #[.int .i64 h.peer, .int .i64 h.boot, .int .i64 h.life, .slice a h.ls.length c1, .bool h.pend, .int .i64 h.miss] 24)) P
  have K9 := fun W (b : Below (w.alloc (.cells #[.int .i64 h.peer, .int .i64 h.boot, .int .i64 h.life, .slice a h.ls.length c1, .bool h.pend, .int .i64 h.miss] 24)).heap.size (w.alloc (.cells #[.int .i64 h.peer, .int .i64 h.boot, .int .i64 h.life, .slice a h.ls.length c1, .bool h.pend, .int .i64 h.miss] 24)) W) => dfit_any id h a c1 W (RdL.below R b)
  have K21 := fun W (b : Below (w.alloc (.cells #[.int .i64 h.peer, .int .i64 h.boot, .int .i64 h.life, .slice a h.ls.length c1, .bool h.pend, .int .i64 h.miss] 24)).heap.size (w.alloc (.cells #[.int .i64 h.peer, .int .i64 h.boot, .int .i64 h.life, .slice a h.ls.length c1, .bool h.pend, .int .i64 h.miss] 24)) W) => put_any h a c1 A c hs W (RdL.below R b) (P.below b) (by omega)
  have KL := fun W (b : Below (w.alloc (.cells #[.int .i64 h.peer, .int .i64 h.boot, .int .i64 h.life, .slice a h.ls.length c1, .bool h.pend, .int .i64 h.miss] 24)).heap.size (w.alloc (.cells #[.int .i64 h.peer, .int .i64 h.boot, .int .i64 h.life, .slice a h.ls.length c1, .bool h.pend, .int .i64 h.miss] 24)) W) => find_any h.peer A c hs W (P.below b)
  have HPH := fun base cap W es a' => put_hs (base := base) (cap := cap) (W := W) (es := es) (a := a') hf hx
  have e1 := put_found (x := h) hr
  have e2 := put_fits hf hx
  have e3 := fun i hi hne => put_other (x := h) hr i hi hne
  have e4 := drop_put (x := h) hr
  have e5 := fun k => drop_back (x := h) hr k
  have hD16 := fits_few e2
  rw [hf] at K11
  simp only [hx] at K9
  obtain ⟨D, hD⟩ : ∃ D, putH h hs = D := ⟨_, rfl⟩
  simp only [hD] at K21 HPH e1 e2 e3 e4 e5 hD16
  have KF := fun W A' c' (H : Hs W A' D.length c' D) => find_any h.peer A' c' D W H
  rw [e1.2.1, e1.2.2] at KF
  have KO := fun i (hi : i < hs.length) (hne : (hs.getD i HS.z).peer ≠ h.peer) W A' c' (H : Hs W A' D.length c' D) => find_any (hs.getD i HS.z).peer A' c' D W H
  have KR := fun W A' c' (H : Hs W A' D.length c' D) => rfits_any id A' c' D W H
  rw [e2] at KR
  have KD := fun W A' c' (H : Hs W A' D.length c' D) => drop_any h.peer A' c' D W H
  rw [e1.2.1] at KD
  obtain ⟨E, hE⟩ : ∃ E, dropH h.peer D = E := ⟨_, rfl⟩
  rw [hE] at KD e4
  simp only [hE] at e5
  have HE3 : Hid (∀ i, i < hs.length → (hs.getD i HS.z).peer ≠ h.peer → hitH (hs.getD i HS.z).peer D = true ∧ findH (hs.getD i HS.z).peer D = hs.getD i HS.z) := e3
  have HKO : Hid (∀ i, i < hs.length → ∀ W A' c', Hs W A' D.length c' D → Calls Try.prog 16 #[.slice A' D.length c', .int .i64 (hs.getD i HS.z).peer] W fun e w' => ∃ a' c'', e = .returned (.tuple #[((findH (hs.getD i HS.z).peer D).on a' c'').val, .bool (hitH (hs.getD i HS.z).peer D)]) ∧ Own W.heap.size w' (findH (hs.getD i HS.z).peer D) a' c'' ∧ Below W.heap.size W w') := fun i hi W A' c' H => find_any _ A' c' D W H
  have HSM : Hid (hs.length ≤ 16) := h16
  have hsub : IntKind.i64.wrap ((D.length : Int) - 1) = (E.length : Int) := by rw [IntKind.wrap_i64]; omega
  have HE5 : Hid (hitH h.peer hs = false → E = hs) := e5
  have HFW : Hid (h.ls.length * 40 ≤ 140737488355328) := R0.few
  have HFX : Hid (∀ j, j < hs.length → (hs.getD j HS.z).ls.length * 40 ≤ 140737488355328) := fits_lines hf
  have kp0 : ∀ X, Below (w.alloc (.cells #[.int .i64 h.peer, .int .i64 h.boot, .int .i64 h.life, .slice a h.ls.length c1, .bool h.pend, .int .i64 h.miss] 24)).heap.size (w.alloc (.cells #[.int .i64 h.peer, .int .i64 h.boot, .int .i64 h.life, .slice a h.ls.length c1, .bool h.pend, .int .i64 h.miss] 24)) X → X.cell? ⟨w.heap.size, 0, none⟩ = some (.int .i64 h.peer) := fun X b => (b.cell (p := ⟨w.heap.size, 0, none⟩) (row_lt T)).trans (row_cell T 0 _ rfl)
  clear KO e1 e2 e3 e4 e5 hE hD hf hx hr h16 hD16 R0 P0
  rw [show (h.on a c1).val = .agg #[.int .i64 h.peer, .int .i64 h.boot, .int .i64 h.life, .slice a h.ls.length c1, .bool h.pend, .int .i64 h.miss] from rfl]
  go_enter Try.func7, Try.ntmps7
  go_wp2_with (first
    | (go_at_call 11; refine K11.mono ?_; rintro e w1 ⟨rfl, B1⟩; clear K11; have TT := (B1.block _ (row_lt T)).trans T)
    | ((with_reducible show wpList _ _ _ (Oper.mk _ (Op.load 24 (Operand.tmp 5)) _ _ _ _ :: _) _ _); refine wpList_load24g (by rfl) rfl w.heap.size (h.on a c1) rfl TT ?_)
    | ((with_reducible show wpList _ _ _ (Oper.mk _ (Op.load 24 (Operand.tmp 8)) _ _ _ _ :: _) _ _); refine wpList_load24g (by rfl) rfl w4.heap.size (h.on a4 c4) rfl T8 ?_)
    | (go_at_call 9; refine (K9 _ B1).mono ?_; rintro e w2 ⟨rfl, b2⟩; clear K9; have B2 := B1.trans (b2.mono B1.size); have TT := (B2.block _ (row_lt T)).trans T)
    | (go_at_call 21; refine (K21 _ B2).mono ?_; rintro e w3 ⟨a3, c3, es3, rfl, L3, E3, N3, b3⟩; clear K21; have B3 := B2.trans (b3.mono B2.size); have H3 := HPH _ _ _ _ _ E3 L3; have kp3 : w3.cell? ⟨w.heap.size, 0, none⟩ = some (.int .i64 h.peer) := kp0 _ B3)
    | (go_at_call 16; refine (KF _ _ _ H3).mono ?_; rintro e w4 ⟨a4, c4, rfl, O4, b4⟩; clear KF; dsimp only [HS.on, HR.val]; have bA : Below w4.heap.size w4 (w4.alloc (.cells #[.int .i64 h.peer, .int .i64 h.boot, .int .i64 h.life, .slice a4 h.ls.length c4, .bool h.pend, .int .i64 h.miss] 24)) := (Below.refl _ _).alloc (Nat.le_refl _) _; have T8 : (w4.alloc (.cells #[.int .i64 h.peer, .int .i64 h.boot, .int .i64 h.life, .slice a4 h.ls.length c4, .bool h.pend, .int .i64 h.miss] 24)).heap[w4.heap.size]? = some (.cells (h.on a4 c4).cells.toArray 24 (0, 0)) := heap_new rfl; have B4 := (B3.trans (b4.mono B3.size)).trans (bA.mono (Nat.le_trans B3.size b4.size)); have TT := (B4.block _ (row_lt T)).trans T; have O5 : RdO (w4.alloc (.cells #[.int .i64 h.peer, .int .i64 h.boot, .int .i64 h.life, .slice a4 h.ls.length c4, .bool h.pend, .int .i64 h.miss] 24)) h a4 c4 := RdL.below (O4.rd HFW.out) bA; have H4 := (H3.below b4).below bA)
    | (go_at_call 20; refine (sone_any h h a4 a c4 c1 _ O5 (RdL.below R B4)).mono ?_; rintro e w6 ⟨rfl, b6⟩; rw [eq1_self]; have B6 := B4.trans (b6.mono B4.size); have H6 := H4.below b6)
    | (go_at_call 11; refine (KR _ _ _ H6).mono ?_; rintro e w7 ⟨rfl, b7⟩; clear KR; have B7 := B6.trans (b7.mono B6.size); have H7 := H6.below b7))
  clear HPH T8 TT O5 H4 O4 H3 H6 kp3 L3 E3 N3 b2 b3 b4 b6 b7 bA B1 B2 B3 B4 B6
  go_loopg [10] hs.length (fun gk v10 wr => ∃ i : Nat, v10 = .int .i64 (i : Int) ∧ i + gk = hs.length ∧ Below w7.heap.size w7 wr)
  case atStart => exact ⟨0, by first | rfl | go_num, by omega, Below.refl _ _⟩
  case round =>
    obtain ⟨i, rfl, hgk, Br⟩ := hrel
    have BZr := B7.trans (Br.mono B7.size)
    have Hr := H7.below Br
    by_cases hi : i < hs.length
    case pos =>
      have hiI : (i : Int) < (hs.length : Int) := by omega
      have hwr : IntKind.i64.wrap ((i : Int) + 1) = (i : Int) + 1 := by rw [IntKind.wrap_i64]; have := HSM.out; omega
      obtain ⟨g, o, ai, ci, rfl, k10, r10, R10⟩ := P.at i hi
      have KOi := HKO.out i hi
      have E3i := HE3.out i hi
      have FXi := HFX.out i hi
      obtain ⟨x, ex⟩ : ∃ x, hs.getD i HS.z = x := ⟨_, rfl⟩
      rw [ex] at r10 R10 KOi E3i FXi
      have r1 := range_later r10 k10 BZr
      have k1 := Nat.lt_of_lt_of_le k10 BZr.size
      have kc : ∀ X, Below wr.heap.size wr X → X.cell? ⟨g, o + i * 6, none⟩ = some (.int .i64 x.peer) := fun X b => peer_cell (range_later r1 k1 b)
      have kp : ∀ X, Below wr.heap.size wr X → X.cell? ⟨w.heap.size, 0, none⟩ = some (.int .i64 h.peer) := fun X b => kp0 _ (BZr.trans (b.mono BZr.size))
      have HXF : Hid (x.ls.length * 40 ≤ 140737488355328) := FXi
      clear ex FXi KL KD
      by_cases hcmp : x.peer = h.peer
      case pos =>
        clear KOi E3i
        go_wp2_with (fail)
        refine wp_region_any (by kernel_rfl) ?_
        change wpAny _ _ _ _ _ _ _ (World.drew _)
        refine wpAny_narrow (fun W' => Below wr.heap.size wr W') _ _ _ _ ?_
        refine anyH_take 0 58 (.slice (some ⟨g, o, none⟩) hs.length c) rfl rfl (by kernel_rfl) (by kernel_rfl) (by kernel_rfl) (fun _ _ _ h => h) (Or.inl ⟨by rfl, by intro w hSw; go_simp⟩) ((Below.refl _ _).drew) ?_
        try simp only [Act.put, List.setIfInBounds_toArray, List.set_cons_zero, List.set_cons_succ]
        refine anyH_take 1 59 (.int .i64 (i : Int)) rfl rfl (by kernel_rfl) (by kernel_rfl) (by kernel_rfl) (fun _ _ _ h => h) (Or.inl ⟨by rfl, by intro w hSw; go_simp⟩) ((Below.refl _ _).drew) ?_
        try simp only [Act.put, List.setIfInBounds_toArray, List.set_cons_zero, List.set_cons_succ]
        refine anyH_take 2 60 (.pointer (some ⟨g, o + i * 6, none⟩)) rfl rfl (by kernel_rfl) (by kernel_rfl) (by kernel_rfl) (fun _ _ _ h => h) (Or.inl ⟨by rfl, by intro w hSw; go_simp⟩) ((Below.refl _ _).drew) ?_
        try simp only [Act.put, List.setIfInBounds_toArray, List.set_cons_zero, List.set_cons_succ]
        refine anyH_take 3 61 (.pointer (some ⟨g, o + i * 6, none⟩)) rfl rfl (by kernel_rfl) (by kernel_rfl) (by kernel_rfl) (fun _ _ _ h => h) (Or.inl ⟨by rfl, by intro w hSw; go_simp⟩) ((Below.refl _ _).drew) ?_
        try simp only [Act.put, List.setIfInBounds_toArray, List.set_cons_zero, List.set_cons_succ]
        refine anyH_take 4 62 (.int .i64 x.peer) rfl rfl (by kernel_rfl) (by kernel_rfl) (by kernel_rfl) (fun _ _ _ h => h) (Or.inl ⟨by rfl, by intro w hSw; have s1 := kc _ hSw; go_simp⟩) ((Below.refl _ _).drew) ?_
        try simp only [Act.put, List.setIfInBounds_toArray, List.set_cons_zero, List.set_cons_succ]
        refine anyH_take 5 63 (.pointer (some ⟨w.heap.size, 0, none⟩)) rfl rfl (by kernel_rfl) (by kernel_rfl) (by kernel_rfl) (fun _ _ _ h => h) (Or.inl ⟨by rfl, by intro w hSw; go_simp⟩) ((Below.refl _ _).drew) ?_
        try simp only [Act.put, List.setIfInBounds_toArray, List.set_cons_zero, List.set_cons_succ]
        refine anyH_take 6 64 (.int .i64 h.peer) rfl rfl (by kernel_rfl) (by kernel_rfl) (by kernel_rfl) (fun _ _ _ h => h) (Or.inl ⟨by rfl, by intro w hSw; have s1 := kp _ hSw; go_simp⟩) ((Below.refl _ _).drew) ?_
        try simp only [Act.put, List.setIfInBounds_toArray, List.set_cons_zero, List.set_cons_succ]
        refine anyH_take 7 65 (.bool true) rfl rfl (by kernel_rfl) (by kernel_rfl) (by kernel_rfl) (fun _ _ _ h => h) (Or.inl ⟨by rfl, by intro w hSw; have s3 := hcmp; go_simp⟩) ((Below.refl _ _).drew) ?_
        try simp only [Act.put, List.setIfInBounds_toArray, List.set_cons_zero, List.set_cons_succ]
        refine wpAnyH_done (by kernel_rfl) ?_ _
        go_wp2
        go_roundg (gk - 1)
        case measure => omega
        case rel => exact ⟨i + 1, by first | rfl | go_num, by omega, Br.drew⟩
      case neg =>
        rw [(E3i hcmp).1, (E3i hcmp).2] at KOi
        clear E3i
        go_wp2_with (fail)
        refine wp_region_any (by kernel_rfl) ?_
        change wpAny _ _ _ _ _ _ _ (World.drew _)
        refine wpAny_narrow (fun W' => Below wr.heap.size wr W') _ _ _ _ ?_
        refine anyH_take 0 58 (.slice (some ⟨g, o, none⟩) hs.length c) rfl rfl (by kernel_rfl) (by kernel_rfl) (by kernel_rfl) (fun _ _ _ h => h) (Or.inl ⟨by rfl, by intro w hSw; go_simp⟩) ((Below.refl _ _).drew) ?_
        try simp only [Act.put, List.setIfInBounds_toArray, List.set_cons_zero, List.set_cons_succ]
        refine anyH_take 1 59 (.int .i64 (i : Int)) rfl rfl (by kernel_rfl) (by kernel_rfl) (by kernel_rfl) (fun _ _ _ h => h) (Or.inl ⟨by rfl, by intro w hSw; go_simp⟩) ((Below.refl _ _).drew) ?_
        try simp only [Act.put, List.setIfInBounds_toArray, List.set_cons_zero, List.set_cons_succ]
        refine anyH_take 2 60 (.pointer (some ⟨g, o + i * 6, none⟩)) rfl rfl (by kernel_rfl) (by kernel_rfl) (by kernel_rfl) (fun _ _ _ h => h) (Or.inl ⟨by rfl, by intro w hSw; go_simp⟩) ((Below.refl _ _).drew) ?_
        try simp only [Act.put, List.setIfInBounds_toArray, List.set_cons_zero, List.set_cons_succ]
        refine anyH_take 3 61 (.pointer (some ⟨g, o + i * 6, none⟩)) rfl rfl (by kernel_rfl) (by kernel_rfl) (by kernel_rfl) (fun _ _ _ h => h) (Or.inl ⟨by rfl, by intro w hSw; go_simp⟩) ((Below.refl _ _).drew) ?_
        try simp only [Act.put, List.setIfInBounds_toArray, List.set_cons_zero, List.set_cons_succ]
        refine anyH_take 4 62 (.int .i64 x.peer) rfl rfl (by kernel_rfl) (by kernel_rfl) (by kernel_rfl) (fun _ _ _ h => h) (Or.inl ⟨by rfl, by intro w hSw; have s1 := kc _ hSw; go_simp⟩) ((Below.refl _ _).drew) ?_
        try simp only [Act.put, List.setIfInBounds_toArray, List.set_cons_zero, List.set_cons_succ]
        refine anyH_take 5 63 (.pointer (some ⟨w.heap.size, 0, none⟩)) rfl rfl (by kernel_rfl) (by kernel_rfl) (by kernel_rfl) (fun _ _ _ h => h) (Or.inl ⟨by rfl, by intro w hSw; go_simp⟩) ((Below.refl _ _).drew) ?_
        try simp only [Act.put, List.setIfInBounds_toArray, List.set_cons_zero, List.set_cons_succ]
        refine anyH_take 6 64 (.int .i64 h.peer) rfl rfl (by kernel_rfl) (by kernel_rfl) (by kernel_rfl) (fun _ _ _ h => h) (Or.inl ⟨by rfl, by intro w hSw; have s1 := kp _ hSw; go_simp⟩) ((Below.refl _ _).drew) ?_
        try simp only [Act.put, List.setIfInBounds_toArray, List.set_cons_zero, List.set_cons_succ]
        refine anyH_take 7 65 (.bool false) rfl rfl (by kernel_rfl) (by kernel_rfl) (by kernel_rfl) (fun _ _ _ h => h) (Or.inl ⟨by rfl, by intro w hSw; have s3 := hcmp; go_simp⟩) ((Below.refl _ _).drew) ?_
        try simp only [Act.put, List.setIfInBounds_toArray, List.set_cons_zero, List.set_cons_succ]
        refine wpAnyH_done (by kernel_rfl) ?_ _
        have kc1 : wr.drew.cell? ⟨g, o + i * 6, none⟩ = some (.int .i64 x.peer) := kc _ (Below.refl _ _).drew
        go_wp2_with (go_at_call 16; refine (KOi _ _ _ (Hr.below (Below.refl _ _).drew)).mono ?_; rintro e w9 ⟨a9, c9, rfl, O9, b9⟩; dsimp only [HS.on, HR.val]; have bX : Below w9.heap.size w9 (w9.alloc (.cells #[.int .i64 x.peer, .int .i64 x.boot, .int .i64 x.life, .slice a9 x.ls.length c9, .bool x.pend, .int .i64 x.miss] 24)) := (Below.refl _ _).alloc (Nat.le_refl _) _; have TX : (w9.alloc (.cells #[.int .i64 x.peer, .int .i64 x.boot, .int .i64 x.life, .slice a9 x.ls.length c9, .bool x.pend, .int .i64 x.miss] 24)).heap[w9.heap.size]? = some (.cells (x.on a9 c9).cells.toArray 24 (0, 0)) := heap_new rfl; have OX : RdO (w9.alloc (.cells #[.int .i64 x.peer, .int .i64 x.boot, .int .i64 x.life, .slice a9 x.ls.length c9, .bool x.pend, .int .i64 x.miss] 24)) x a9 c9 := RdL.below (O9.rd HXF.out) bX; have B9 : Below wr.heap.size wr (w9.alloc (.cells #[.int .i64 x.peer, .int .i64 x.boot, .int .i64 x.life, .slice a9 x.ls.length c9, .bool x.pend, .int .i64 x.miss] 24)) := ((Below.refl _ _).drew.trans b9).trans (bX.mono b9.size); have RX : RdO (w9.alloc (.cells #[.int .i64 x.peer, .int .i64 x.boot, .int .i64 x.life, .slice a9 x.ls.length c9, .bool x.pend, .int .i64 x.miss] 24)) x ai ci := RdL.below R10 (BZr.trans (B9.mono BZr.size)); have rX := range_later r1 k1 B9; have kX := Nat.lt_of_lt_of_le k1 B9.size)
        refine wp_region_any (by kernel_rfl) ?_
        change wpAny _ _ _ _ _ _ _ (World.drew _)
        refine wpAny_narrow (fun W' => Below (w9.alloc (.cells #[.int .i64 x.peer, .int .i64 x.boot, .int .i64 x.life, .slice a9 x.ls.length c9, .bool x.pend, .int .i64 x.miss] 24)).heap.size (w9.alloc (.cells #[.int .i64 x.peer, .int .i64 x.boot, .int .i64 x.life, .slice a9 x.ls.length c9, .bool x.pend, .int .i64 x.miss] 24)) W') _ _ _ _ ?_
        refine anyH_take 0 76 (.bool true) rfl rfl (by kernel_rfl) (by kernel_rfl) (by kernel_rfl) (fun _ _ _ h => h) (Or.inl ⟨by rfl, by intro w hSw; go_simp⟩) ((Below.refl _ _).drew) ?_
        try simp only [Act.put, List.setIfInBounds_toArray, List.set_cons_zero, List.set_cons_succ]
        refine anyH_take 1 77 (.bool false) rfl rfl (by kernel_rfl) (by kernel_rfl) (by kernel_rfl) (fun _ _ _ h => h) (Or.inl ⟨by rfl, by intro w hSw; go_simp⟩) ((Below.refl _ _).drew) ?_
        try simp only [Act.put, List.setIfInBounds_toArray, List.set_cons_zero, List.set_cons_succ]
        refine anyH_take 2 78 (.bool false) rfl rfl (by kernel_rfl) (by kernel_rfl) (by kernel_rfl) (fun _ _ _ h => h) (Or.inl ⟨by rfl, by intro w hSw; go_simp⟩) ((Below.refl _ _).drew) ?_
        try simp only [Act.put, List.setIfInBounds_toArray, List.set_cons_zero, List.set_cons_succ]
        refine anyH_take 3 79 ((x.on a9 c9).val) rfl rfl (by kernel_rfl) (by kernel_rfl) (by kernel_rfl) (fun _ _ _ h => h) (Or.inl ⟨by rfl, fun X hSw => exec_load24 rfl w9.heap.size 0 (x.on a9 c9) rfl (range_rowH ((hSw.block _ (row_lt TX)).trans TX))⟩) ((Below.refl _ _).drew) ?_
        try simp only [Act.put, List.setIfInBounds_toArray, List.set_cons_zero, List.set_cons_succ]
        refine anyH_take 4 80 (.slice (some ⟨g, o, none⟩) hs.length c) rfl rfl (by kernel_rfl) (by kernel_rfl) (by kernel_rfl) (fun _ _ _ h => h) (Or.inl ⟨by rfl, by intro w hSw; go_simp⟩) ((Below.refl _ _).drew) ?_
        try simp only [Act.put, List.setIfInBounds_toArray, List.set_cons_zero, List.set_cons_succ]
        refine anyH_take 5 81 (.int .i64 (i : Int)) rfl rfl (by kernel_rfl) (by kernel_rfl) (by kernel_rfl) (fun _ _ _ h => h) (Or.inl ⟨by rfl, by intro w hSw; go_simp⟩) ((Below.refl _ _).drew) ?_
        try simp only [Act.put, List.setIfInBounds_toArray, List.set_cons_zero, List.set_cons_succ]
        refine anyH_take 6 82 (.pointer (some ⟨g, o + i * 6, none⟩)) rfl rfl (by kernel_rfl) (by kernel_rfl) (by kernel_rfl) (fun _ _ _ h => h) (Or.inl ⟨by rfl, by intro w hSw; go_simp⟩) ((Below.refl _ _).drew) ?_
        try simp only [Act.put, List.setIfInBounds_toArray, List.set_cons_zero, List.set_cons_succ]
        refine anyH_take 7 83 ((x.on ai ci).val) rfl rfl (by kernel_rfl) (by kernel_rfl) (by kernel_rfl) (fun _ _ _ h => h) (Or.inl ⟨by rfl, fun X hSw => exec_load24 rfl g (o + i * 6) (x.on ai ci) rfl (range_later rX kX hSw)⟩) ((Below.refl _ _).drew) ?_
        try simp only [Act.put, List.setIfInBounds_toArray, List.set_cons_zero, List.set_cons_succ]
        refine wpAnyH_ready (rs := [8]) (by kernel_rfl) (by simp) ?_
        refine AllReadyH.cons rfl (fun K hK => ?_) AllReadyH.nil
        go_simp
        go_wp2_with (go_at_call 20; refine (sone_any x x a9 ai c9 ci _ (RdL.below OX (Below.refl _ _).drew) (RdL.below RX (Below.refl _ _).drew)).mono ?_; rintro e w10 ⟨rfl, b10⟩; rw [eq1_self])
        refine hK.out _ _ ((Below.refl _ _).drew.trans b10) (fun hS => ?_)
        clear hK
        refine anyH_take 9 85 (.bool false) rfl rfl (by kernel_rfl) (by kernel_rfl) (by kernel_rfl) (fun _ _ _ h => h) (Or.inl ⟨by rfl, by intro w hSw; go_simp⟩) (hS) ?_
        try simp only [Act.put, List.setIfInBounds_toArray, List.set_cons_zero, List.set_cons_succ]
        refine anyH_take 10 86 (.bool false) rfl rfl (by kernel_rfl) (by kernel_rfl) (by kernel_rfl) (fun _ _ _ h => h) (Or.inl ⟨by rfl, by intro w hSw; go_simp⟩) (hS) ?_
        try simp only [Act.put, List.setIfInBounds_toArray, List.set_cons_zero, List.set_cons_succ]
        refine wpAnyH_done (by kernel_rfl) ?_ _
        go_wp2
        go_roundg (gk - 1)
        case measure => omega
        case rel => exact ⟨i + 1, by first | rfl | go_num, by omega, (Br.trans (B9.mono Br.size)).trans (hS.mono (Nat.le_trans Br.size B9.size))⟩
    case neg =>
      have hiI : ¬ (i : Int) < (hs.length : Int) := by omega
      clear HKO HE3 HFX
      have kpr : wr.cell? ⟨w.heap.size, 0, none⟩ = some (.int .i64 h.peer) := kp0 _ BZr
      obtain ⟨HF, hHF⟩ : ∃ HF, findH h.peer hs = HF := ⟨_, rfl⟩
      rw [hHF] at KL
      clear hHF
      cases hh : hitH h.peer hs with
      | true =>
        rw [hh] at KL
        go_wp2_with (first
          | (go_at_call 18; refine (KD _ _ _ Hr).mono ?_; rintro e w11 ⟨a8, c8, rfl, H8, b11⟩; clear KD; have BB := BZr.trans (b11.mono BZr.size); have kp11 : w11.cell? ⟨w.heap.size, 0, none⟩ = some (.int .i64 h.peer) := kp0 _ BB)
          | (go_at_call 16; refine (KL _ BB).mono ?_; rintro e w12 ⟨a13, c13, rfl, O12, b12⟩; dsimp only [HS.on, HR.val]; have BC := BB.trans (b12.mono BB.size))
          | (go_at_call 15; refine (awake_any _).mono ?_; rintro e w14 ⟨rfl, b14⟩; have BD := BC.trans (((Below.refl _ _).alloc (Nat.le_refl _) (.cells #[.int .i64 HF.peer, .int .i64 HF.boot, .int .i64 HF.life, .slice a13 HF.ls.length c13, .bool HF.pend, .int .i64 HF.miss] 24)).mono BC.size); have BE := (BW.trans (BD.mono BW.size)).trans (b14.mono (Nat.le_trans BW.size BD.size))))
        go_ret
        exact ⟨rfl, BE⟩
      | false =>
        rw [hh] at KL
        have HEH : Hid (E = hs) := HE5.out hh
        go_wp2_with (first
          | (go_at_call 18; refine (KD _ _ _ Hr).mono ?_; rintro e w11 ⟨a8, c8, rfl, H8, b11⟩; clear KD; have BB := BZr.trans (b11.mono BZr.size); have kp11 : w11.cell? ⟨w.heap.size, 0, none⟩ = some (.int .i64 h.peer) := kp0 _ BB)
          | (go_at_call 16; refine (KL _ BB).mono ?_; rintro e w12 ⟨a13, c13, rfl, O12, b12⟩; dsimp only [HS.on, HR.val]; have BC := BB.trans (b12.mono BB.size))
          | (go_at_call 13; (have BD := BC.trans (((Below.refl _ _).alloc (Nat.le_refl _) (.cells #[.int .i64 HF.peer, .int .i64 HF.boot, .int .i64 HF.life, .slice a13 HF.ls.length c13, .bool HF.pend, .int .i64 HF.miss] 24)).mono BC.size)); refine (rsame_any a8 A c8 c E hs _ ((H8.below b12).below ((Below.refl _ _).alloc (Nat.le_refl _) _)) (P.below BD)).mono ?_; rintro e w13 ⟨rfl, b13⟩; rw [HEH.out, eqHs_self]; have BF := BD.trans (b13.mono BD.size))
          | (go_at_call 15; refine (awake_any _).mono ?_; rintro e w14 ⟨rfl, b14⟩; have BE := (BW.trans (BF.mono BW.size)).trans (b14.mono (Nat.le_trans BW.size BF.size))))
        go_ret
        exact ⟨rfl, BE⟩

end Go.Proofs.Ytacefkchhcpgaaa
