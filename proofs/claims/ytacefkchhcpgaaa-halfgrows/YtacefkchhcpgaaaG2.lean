/-
  What the law HalfGrows comes to.
-/
import Derived.Test.YtacefkchhcpgaaaG1
namespace Go.Proofs.Ytacefkchhcpgaaa
open Go.ChangeShapes Go.WideShapes Go.ChangeAt Go.RowKit
set_option linter.unusedVariables false
set_option linter.unusedSimpArgs false

set_option maxRecDepth 100000 in
set_option maxHeartbeats 16000000 in
theorem grows_main (id : Int) (h : HS) (a : Option Addr) (c : Nat) (name : ByteArray) (la : Option Addr) (n lc : Nat) (l : List RS) (w : World) (R : RdO w h a c) (hr : Rgs w la n l) (hN : n * 24 ≤ 140737488351232) (hfit : h.fit id = true) (hname : nameB name = true) (hok : zeroB (regF name h.ls).v (regF name h.ls).p (regF name h.ls).f = false ∨ h.ls.length < 8) : Calls Try.prog 6 #[.int .i64 id, .agg #[.int .i64 h.peer, .int .i64 h.boot, .int .i64 h.life, .slice a h.ls.length c, .bool h.pend, .int .i64 h.miss], .string name, .slice la n lc] w fun e w' => e = .returned (.bool true) ∧ Below w.heap.size w w' := by
  have K9 : ∀ W, RdO W h a c → Calls Try.prog 9 #[.int .i64 id, .agg #[.int .i64 h.peer, .int .i64 h.boot, .int .i64 h.life, .slice a h.ls.length c, .bool h.pend, .int .i64 h.miss]] W fun e w' => e = .returned (.bool (h.fit id)) ∧ Below W.heap.size W w' := fun W k => dfit_any id h a c W k
  have K31 : ∀ W, RdO W h a c → Calls Try.prog 31 #[.agg #[.int .i64 h.peer, .int .i64 h.boot, .int .i64 h.life, .slice a h.ls.length c, .bool h.pend, .int .i64 h.miss], .string name] W fun e w' => e = .returned (rg (regF name h.ls).v (regF name h.ls).p (regF name h.ls).f) ∧ Below W.heap.size W w' := fun W k => rreg_any h a c name W k
  have C0 := (Bx.nil w).add rfl (.cells #[.int .i64 h.peer, .int .i64 h.boot, .int .i64 h.life, .slice a h.ls.length c, .bool h.pend, .int .i64 h.miss] 24)
  have R0 := RdL.below R C0.below
  have KO : ∀ W, RdO W h a c → Calls Try.prog 29 #[.agg #[.int .i64 h.peer, .int .i64 h.boot, .int .i64 h.life, .slice a h.ls.length c, .bool h.pend, .int .i64 h.miss]] W fun e w' => ∃ a' c', e = .returned (.agg #[.int .i64 h.peer, .int .i64 h.boot, .int .i64 h.life, .slice a' h.ls.length c', .bool h.pend, .int .i64 h.miss]) ∧ Own W.heap.size w' h a' c' ∧ Below W.heap.size W w' := fun W k => one_any h a c W k
  have hreg : regF name h.ls = regN name h.ls := reg_eq name (by
    have hq := hfit
    unfold HS.fit at hq
    simp only [Bool.and_eq_true, decide_eq_true_eq] at hq
    exact hq.2.2.2.2.2.2.2)
  have HGR : Hid (Grw id h name h [(regN name h.ls).rs]) := Grw.start hfit (by rw [← hreg]; exact hok)
  have HREG : Hid (regF name h.ls = regN name h.ls) := hreg
  have HL : Hid (l.length = n) := hr.size
  have HNN : Hid (n * 24 ≤ 140737488351232) := hN
  clear hreg hN
  go_enter Try.func6, Try.ntmps6
  go_upto_region 1 with fail
  go_cut [41] (fun cc wx => cc = .bool false ∧ Bx w [.cells #[.int .i64 h.peer, .int .i64 h.boot, .int .i64 h.life, .slice a h.ls.length c, .bool h.pend, .int .i64 h.miss] 24] wx)
  case first =>
    cases hzr : zeroB (regF name h.ls).v (regF name h.ls).p (regF name h.ls).f with
    | false =>
      clear hok
      go_wp2_with (first
        | (go_at_call 9; refine (K9 _ R0).mono ?_; rw [hfit]; rintro e w1 ⟨rfl, b1⟩; clear K9; have C1 := C0.later b1; have R1 := RdL.below R0 b1; have ⟨p0, p1, p2, p3, p4, p5⟩ := cel6 (C1.at0 _ rfl))
        | (go_at_call 28; refine (rname_any name _).mono ?_; rw [hname]; rintro e wx ⟨rfl, hwx⟩; rw [hwx]; clear hwx)
        | (go_at_call 31; refine (K31 _ R1).mono ?_; rintro e w2 ⟨rfl, b2⟩; have C2 := C1.later b2; have R2 := RdL.below R1 b2; have ⟨q0, q1, q2, q3, q4, q5⟩ := cel6 (C2.at0 _ rfl); clear R1 p0 p1 p2 p3 p4 p5)
        | ((with_reducible show wpList _ _ _ (Oper.mk _ (Op.binOp .eql 42 _ _ 42) _ _ _ _ :: _) _ _); refine wpList_eql42 (by rfl) rfl (regF name h.ls).v (regF name h.ls).p (regF name h.ls).f 0 0 0 rfl rfl ?_; rw [zero_same, hzr]))
      go_meet
      exact ⟨rfl, C2⟩
    | true =>
      have h8 : ¬ (8 : Int) ≤ (h.ls.length : Int) := by have := hok.resolve_left (by rw [hzr]; decide); omega
      clear hok
      go_wp2_with (first
        | (go_at_call 9; refine (K9 _ R0).mono ?_; rw [hfit]; rintro e w1 ⟨rfl, b1⟩; clear K9; have C1 := C0.later b1; have R1 := RdL.below R0 b1; have ⟨p0, p1, p2, p3, p4, p5⟩ := cel6 (C1.at0 _ rfl))
        | (go_at_call 28; refine (rname_any name _).mono ?_; rw [hname]; rintro e wx ⟨rfl, hwx⟩; rw [hwx]; clear hwx)
        | (go_at_call 31; refine (K31 _ R1).mono ?_; rintro e w2 ⟨rfl, b2⟩; have C2 := C1.later b2; have R2 := RdL.below R1 b2; have ⟨q0, q1, q2, q3, q4, q5⟩ := cel6 (C2.at0 _ rfl); clear R1 p0 p1 p2 p3 p4 p5)
        | ((with_reducible show wpList _ _ _ (Oper.mk _ (Op.binOp .eql 42 _ _ 42) _ _ _ _ :: _) _ _); refine wpList_eql42 (by rfl) rfl (regF name h.ls).v (regF name h.ls).p (regF name h.ls).f 0 0 0 rfl rfl ?_; rw [zero_same, hzr]))
      go_meet
      exact ⟨by simp; omega, C2⟩
  case rest =>
    obtain ⟨rfl, C2⟩ := hcut
    have R2 : RdO wc h a c := RdL.below R C2.below
    have ⟨q0, q1, q2, q3, q4, q5⟩ := cel6 (C2.at0 _ rfl)
    clear hok hfit R0 C0
    obtain ⟨⟨yn, yv, yp, yf⟩, hy⟩ : ∃ y, (regF name h.ls) = y := ⟨_, rfl⟩
    simp only [hy] at K31
    have HY : Hid ((regF name h.ls) = ⟨yn, yv, yp, yf⟩) := hy
    clear hy K9
    go_wp2_with (first
      | (go_at_call 31; refine (K31 _ R2).mono ?_; rintro e w3 ⟨rfl, b3⟩; clear K31; have C3 := (C2.later b3).later ((Below.refl _ _).alloc (Nat.le_refl _) (.cells #[.int .i64 yv, .int .i64 yp, .int .i64 yf] 42)); have R3 := (RdL.below R2 b3); have X3 : (w3.alloc (.cells #[.int .i64 yv, .int .i64 yp, .int .i64 yf] 42)).heap[w3.heap.size]? = some (.cells #[.int .i64 yv, .int .i64 yp, .int .i64 yf] 42 (0, 0)) := World.alloc_heap_new _ _; have R4 := RdL.below R3 ((Below.refl _ _).alloc (Nat.le_refl _) (.cells #[.int .i64 yv, .int .i64 yp, .int .i64 yf] 42)); clear q0 q1 q2 q3 q4 q5 R2)
      | ((with_reducible show wpList _ _ _ (Oper.mk _ (Op.call { callee := Callee.builtin Builtin.append, args := _, argTypes := #[53, 53] }) _ _ _ _ :: _) _ _); go_must (refine wpList_more_lstR (base := w.heap.size + 1) (k := 0) (es := []) (ds := [⟨yv, yp, yf⟩]) (ad := ⟨w3.heap.size, 0, none⟩) rfl _ _ rfl rfl rfl (World.ownsRow_nil _ _ 42 3) rfl (fun j u hj => by rw [add_plain, Nat.zero_add]; exact row_cell X3 j u (by simpa [csR, RS.cells] using hj)) (by omega) C3.size ?_; intro vm w4 O4 g4 b4; have C4 := C3.later' b4; have R4' : RdO w4 h a c := RdL.below R C4.below; have ⟨p0, p1, p2, p3, p4, p5⟩ := cel6 (C4.at0 _ rfl)))
      | (go_at_call 29; refine (KO _ R4').mono ?_; rintro e w5 ⟨a5, c5, rfl, O5, b5⟩; clear KO))
    have C5 := (C4.later b5).later ((Below.refl _ _).alloc (Nat.le_refl _) (.cells #[.int .i64 h.peer, .int .i64 h.boot, .int .i64 h.life, .slice a5 h.ls.length c5, .bool h.pend, .int .i64 h.miss] 24))
    have G0 : Gs w #[.int .i64 h.peer, .int .i64 h.boot, .int .i64 h.life, .slice a h.ls.length c, .bool h.pend, .int .i64 h.miss] w5.heap.size h a5 c5 vm [⟨yv, yp, yf⟩] (w5.alloc (.cells #[.int .i64 h.peer, .int .i64 h.boot, .int .i64 h.life, .slice a5 h.ls.length c5, .bool h.pend, .int .i64 h.miss] 24)) :=
      ⟨C5, World.alloc_heap_new _ _, Nat.le_trans C4.size b5.size, (O5.below ((Below.refl _ _).alloc (Nat.le_refl _) _)).mono C4.size, owns_later (owns_later (by simpa using O4) b5) ((Below.refl _ _).alloc (Nat.le_refl _) _)⟩
    have HW0 : Hid (Grw id h name h [⟨yv, yp, yf⟩]) := by
      have := HGR.out
      rw [← HREG.out, HY.out] at this
      exact this
    clear HGR C5 C4 C3 R3 R4 R4' p0 p1 p2 p3 p4 p5 b3 b4 O4 g4 O5 X3 b5 hname C2
    go_loopg [9, 11] n (fun gk v9 v11 wr => ∃ (i : Nat) (x : HS) (ax : Option Addr) (cx : Nat) (ms : List RS), v11 = .int .i64 (i : Int) ∧ i + gk = n ∧ ms.length ≤ i + 1 ∧ Gs w #[.int .i64 h.peer, .int .i64 h.boot, .int .i64 h.life, .slice a h.ls.length c, .bool h.pend, .int .i64 h.miss] w5.heap.size x ax cx v9 ms wr ∧ Grw id h name x ms)
    case atStart => exact ⟨0, h, a5, c5, [⟨yv, yp, yf⟩], by first | rfl | go_num, by omega, by simp, G0, HW0.out⟩
    case round =>
      clear G0 HW0
      obtain ⟨i, x, ax, cx, ms, rfl, hgk, hms, S, G⟩ := hrel
      rename Value => v9
      have HMS : Hid (ms.length ≤ i + 1 ∧ i ≤ n) := ⟨hms, by omega⟩
      clear hms
      by_cases hi : i < n
      case pos =>
        have hiI : (i : Int) < (n : Int) := by omega
        obtain ⟨lg, lo, rfl, hlg, hr00⟩ := hr.at i hi
        obtain ⟨⟨v, p, f⟩, hri⟩ : ∃ r, l.getD i RS.z = r := ⟨_, rfl⟩
        rw [hri] at hr00
        clear hri
        have hrw := range_later hr00 hlg S.bx.below
        have hlgw : lg < wr.heap.size := Nat.lt_of_lt_of_le hlg S.bx.below.size
        have kb : ∀ X, Below wr.heap.size wr X → X.cell? ⟨w.heap.size, 0, none⟩ = some (.int .i64 h.peer) := fun X k => (cel6 ((S.bx.later k).at0 _ rfl)).c0
        have hwi : IntKind.i64.wrap ((i : Int) + 1) = (i : Int) + 1 := by rw [IntKind.wrap_i64]; have := HNN.out; omega
        have HX40 : Hid (x.ls.length * 40 ≤ 140737488355328) := by show _ ≤ _; have := G.few; omega
        obtain ⟨g1, g2, g3, g4⟩ := G.step ⟨v, p, f⟩
        dsimp only at g1 g2 g3 g4
        have KM1 : ∀ W, RdO W x ax cx → Calls Try.prog 34 #[.int .i64 id, .agg #[.int .i64 x.peer, .int .i64 x.boot, .int .i64 x.life, .slice ax x.ls.length cx, .bool x.pend, .int .i64 x.miss], .string name, rg v p f] W fun e w' => ∃ a' c', e = .returned (.tuple #[.agg #[.int .i64 (x.mg id name v p f).peer, .int .i64 (x.mg id name v p f).boot, .int .i64 (x.mg id name v p f).life, .slice a' (x.mg id name v p f).ls.length c', .bool (x.mg id name v p f).pend, .int .i64 (x.mg id name v p f).miss], .bool (x.mgC id name v p f)]) ∧ Own W.heap.size w' (x.mg id name v p f) a' c' ∧ Below W.heap.size W w' := fun W k => merge_hs id x ax cx name v p f W k (by have := G.few; omega)
        have KM2 : ∀ a c W, RdO W (x.mg id name v p f) a c → Calls Try.prog 34 #[.int .i64 id, .agg #[.int .i64 (x.mg id name v p f).peer, .int .i64 (x.mg id name v p f).boot, .int .i64 (x.mg id name v p f).life, .slice a (x.mg id name v p f).ls.length c, .bool (x.mg id name v p f).pend, .int .i64 (x.mg id name v p f).miss], .string name, rg v p f] W fun e w' => ∃ a' c', e = .returned (.tuple #[.agg #[.int .i64 ((x.mg id name v p f).mg id name v p f).peer, .int .i64 ((x.mg id name v p f).mg id name v p f).boot, .int .i64 ((x.mg id name v p f).mg id name v p f).life, .slice a' ((x.mg id name v p f).mg id name v p f).ls.length c', .bool ((x.mg id name v p f).mg id name v p f).pend, .int .i64 ((x.mg id name v p f).mg id name v p f).miss], .bool ((x.mg id name v p f).mgC id name v p f)]) ∧ Own W.heap.size w' ((x.mg id name v p f).mg id name v p f) a' c' ∧ Below W.heap.size W w' := fun a c W k => merge_hs id (x.mg id name v p f) a c name v p f W k (by have := g1.few; omega)
        have KR1 : ∀ W, RdO W x ax cx → Calls Try.prog 30 #[.agg #[.int .i64 x.peer, .int .i64 x.boot, .int .i64 x.life, .slice ax x.ls.length cx, .bool x.pend, .int .i64 x.miss], .string name] W fun e w' => e = .returned (rg (regN name x.ls).v (regN name x.ls).p (regN name x.ls).f) ∧ Below W.heap.size W w' := fun W k => reg_any x ax cx name W k
        have KR2 : ∀ a c W, RdO W (x.mg id name v p f) a c → Calls Try.prog 30 #[.agg #[.int .i64 (x.mg id name v p f).peer, .int .i64 (x.mg id name v p f).boot, .int .i64 (x.mg id name v p f).life, .slice a (x.mg id name v p f).ls.length c, .bool (x.mg id name v p f).pend, .int .i64 (x.mg id name v p f).miss], .string name] W fun e w' => e = .returned (rg (regN name (x.mg id name v p f).ls).v (regN name (x.mg id name v p f).ls).p (regN name (x.mg id name v p f).ls).f) ∧ Below W.heap.size W w' := fun a c W k => reg_any (x.mg id name v p f) a c name W k
        rw [g2] at KM2
        clear g2
        have hmc : fitB v p f id h.peer = false → x.mgC id name v p f = false := fun e => (mg_no (G.unfit (r := ⟨v, p, f⟩) e)).2
        clear G
        generalize x.mg id name v p f = x1 at *
        generalize x1.mg id name v p f = x2 at *
        obtain ⟨⟨wn, wv, wp, wf⟩, hw⟩ : ∃ y, regN name x.ls = y := ⟨_, rfl⟩
        obtain ⟨⟨nn, nv, np, nf⟩, hnw⟩ : ∃ y, regN name x1.ls = y := ⟨_, rfl⟩
        simp only [hw] at KR1 g3 g4
        simp only [hnw] at KR2 g3 g4
        clear hw hnw
        cases hf : fitB v p f id h.peer with
        | false =>
          rw [hmc hf] at g3 g4 KM1
          clear hmc g4
          as_aux_lemma =>
            have hm1 : (if fitB v p f id h.peer = true then ms ++ [⟨v, p, f⟩] else ms) = ms := by rw [hf]; rfl
            rw [hm1] at g1
            clear hm1
            have HG1 : Hid (Grw id h name x1 ms) := g1
            clear g1
            go_wp2_with (fail)
            refine wp_region_any (by kernel_rfl) ?_
            change wpAny _ _ _ _ _ _ _ (World.drew _)
            refine wpAny_narrow (fun W' => Below wr.heap.size wr W') _ _ _ _ ?_
            refine anyH_take 0 57 (.slice (some ⟨lg, lo, none⟩) n lc) rfl rfl (by kernel_rfl) (by kernel_rfl) (by kernel_rfl) (fun _ _ _ h => h) (Or.inl ⟨by rfl, by intro w hSw; go_simp⟩) ((Below.refl _ _).drew) ?_
            try simp only [Act.put, List.setIfInBounds_toArray, List.set_cons_zero, List.set_cons_succ]
            refine anyH_take 1 58 (.int .i64 (i : Int)) rfl rfl (by kernel_rfl) (by kernel_rfl) (by kernel_rfl) (fun _ _ _ h => h) (Or.inl ⟨by rfl, by intro w hSw; go_simp⟩) ((Below.refl _ _).drew) ?_
            try simp only [Act.put, List.setIfInBounds_toArray, List.set_cons_zero, List.set_cons_succ]
            refine anyH_take 2 59 (.pointer (some ⟨lg, lo + i * 3, none⟩)) rfl rfl (by kernel_rfl) (by kernel_rfl) (by kernel_rfl) (fun _ _ _ h => h) (Or.inl ⟨by rfl, by intro w hSw; go_simp⟩) ((Below.refl _ _).drew) ?_
            try simp only [Act.put, List.setIfInBounds_toArray, List.set_cons_zero, List.set_cons_succ]
            refine anyH_take 3 60 (rg v p f) rfl rfl (by kernel_rfl) (by kernel_rfl) (by kernel_rfl) (fun _ _ _ h => h) (Or.inl ⟨by rfl, fun X hSw => exec_load42m rfl lg (lo + i * 3) v p f rfl X (range_later hrw hlgw hSw)⟩) ((Below.refl _ _).drew) ?_
            try simp only [Act.put, List.setIfInBounds_toArray, List.set_cons_zero, List.set_cons_succ]
            refine anyH_take 4 61 (.int .i64 id) rfl rfl (by kernel_rfl) (by kernel_rfl) (by kernel_rfl) (fun _ _ _ h => h) (Or.inl ⟨by rfl, by intro w hSw; go_simp⟩) ((Below.refl _ _).drew) ?_
            try simp only [Act.put, List.setIfInBounds_toArray, List.set_cons_zero, List.set_cons_succ]
            refine anyH_take 5 62 (.pointer (some ⟨w.heap.size, 0, none⟩)) rfl rfl (by kernel_rfl) (by kernel_rfl) (by kernel_rfl) (fun _ _ _ h => h) (Or.inl ⟨by rfl, by intro w hSw; go_simp⟩) ((Below.refl _ _).drew) ?_
            try simp only [Act.put, List.setIfInBounds_toArray, List.set_cons_zero, List.set_cons_succ]
            refine anyH_take 6 63 (.int .i64 h.peer) rfl rfl (by kernel_rfl) (by kernel_rfl) (by kernel_rfl) (fun _ _ _ h => h) (Or.inl ⟨by rfl, by intro w hSw; have m0 := kb _ hSw; go_simp⟩) ((Below.refl _ _).drew) ?_
            try simp only [Act.put, List.setIfInBounds_toArray, List.set_cons_zero, List.set_cons_succ]
            refine wpAnyH_ready (rs := [7]) (by kernel_rfl) (by simp) ?_
            refine AllReadyH.cons rfl (fun K hK => ?_) AllReadyH.nil
            go_simp
            go_wp2_with (go_at_call 38; refine (rfit_any v p f id h.peer _).mono ?_; rw [hf]; rintro e w7 ⟨rfl, b7⟩)
            refine hK.out _ _ ((Below.refl _ _).drew.trans b7) (fun hS => ?_)
            clear hK
            refine wpAnyH_done (by kernel_rfl) ?_ _
            have S7 := S.later hS
            have hrw7 := range_later hrw hlgw hS
            have ⟨c0, c1, c2, c3, c4, c5x⟩ := cel6 S7.cur
            clear kb
            go_wp2_with (first
              | (go_at_call 30; refine (KR1 _ (S7.own.rd HX40.out)).mono ?_; rintro e w9 ⟨rfl, b9⟩; clear KR1))
            have S9 := (S7.later b9).later ((Below.refl _ _).alloc (Nat.le_refl _) (.cells #[.int .i64 wv, .int .i64 wp, .int .i64 wf] 42))
            have T9 := Tri.new w9 (.int .i64 wv) (.int .i64 wp) (.int .i64 wf) 42
            have hs9 := S9.bx.size
            obtain ⟨W0, hW0⟩ : ∃ W0, w9.alloc (.cells #[.int .i64 wv, .int .i64 wp, .int .i64 wf] 42) = W0 := ⟨_, rfl⟩
            rw [hW0] at S9 T9 hs9 ⊢
            clear hW0
            have hrr := range_later hr00 hlg S9.bx.below
            have hlg0 : lg < W0.heap.size := Nat.lt_of_lt_of_le hlg S9.bx.below.size
            have kx : ∀ X, Below W0.heap.size W0 X → Cel6 X w5.heap.size (.int .i64 x.peer) (.int .i64 x.boot) (.int .i64 x.life) (.slice ax x.ls.length cx) (.bool x.pend) (.int .i64 x.miss) := fun X k => cel6 ((k.block _ (row_lt S9.cur)).trans S9.cur)
            have RX : RdO W0.drew x ax cx := (S9.own.of_blocks (W' := W0.drew) fun _ _ _ => rfl).rd HX40.out
            have hbx0 := row_lt S9.cur
            go_cut [13, 14] (fun p13 cc wx => ∃ k a5 c5, p13 = .pointer (some ⟨k, 0, none⟩) ∧ cc = .bool false ∧ wx.heap[k]? = some (.cells (x1.on a5 c5).cells.toArray 24 (0, 0)) ∧ Own (w.heap.size + 1) wx x1 a5 c5 ∧ Below W0.heap.size W0 wx ∧ W0.heap.size ≤ k)
            case first =>
              refine wp_region_any (by kernel_rfl) ?_
              change wpAny _ _ _ _ _ _ _ (World.drew _)
              refine wpAny_narrow (fun W' => Below W0.heap.size W0 W') _ _ _ _ ?_
              refine anyH_take 0 76 (.int .i64 id) rfl rfl (by kernel_rfl) (by kernel_rfl) (by kernel_rfl) (fun _ _ _ h => h) (Or.inl ⟨by rfl, by intro w hSw; go_simp⟩) ((Below.refl _ _).drew) ?_
              try simp only [Act.put, List.setIfInBounds_toArray, List.set_cons_zero, List.set_cons_succ]
              refine anyH_take 1 77 (.agg #[.int .i64 x.peer, .int .i64 x.boot, .int .i64 x.life, .slice ax x.ls.length cx, .bool x.pend, .int .i64 x.miss]) rfl rfl (by kernel_rfl) (by kernel_rfl) (by kernel_rfl) (fun _ _ _ h => h) (Or.inl ⟨by rfl, by intro w hSw; have ⟨k0, k1, k2, k3, k4, k5⟩ := kx _ hSw; go_simp⟩) ((Below.refl _ _).drew) ?_
              try simp only [Act.put, List.setIfInBounds_toArray, List.set_cons_zero, List.set_cons_succ]
              refine anyH_take 2 78 (.string name) rfl rfl (by kernel_rfl) (by kernel_rfl) (by kernel_rfl) (fun _ _ _ h => h) (Or.inl ⟨by rfl, by intro w hSw; go_simp⟩) ((Below.refl _ _).drew) ?_
              try simp only [Act.put, List.setIfInBounds_toArray, List.set_cons_zero, List.set_cons_succ]
              refine anyH_take 3 79 (.slice (some ⟨lg, lo, none⟩) n lc) rfl rfl (by kernel_rfl) (by kernel_rfl) (by kernel_rfl) (fun _ _ _ h => h) (Or.inl ⟨by rfl, by intro w hSw; go_simp⟩) ((Below.refl _ _).drew) ?_
              try simp only [Act.put, List.setIfInBounds_toArray, List.set_cons_zero, List.set_cons_succ]
              refine anyH_take 4 80 (.int .i64 (i : Int)) rfl rfl (by kernel_rfl) (by kernel_rfl) (by kernel_rfl) (fun _ _ _ h => h) (Or.inl ⟨by rfl, by intro w hSw; go_simp⟩) ((Below.refl _ _).drew) ?_
              try simp only [Act.put, List.setIfInBounds_toArray, List.set_cons_zero, List.set_cons_succ]
              refine anyH_take 5 81 (.pointer (some ⟨lg, lo + i * 3, none⟩)) rfl rfl (by kernel_rfl) (by kernel_rfl) (by kernel_rfl) (fun _ _ _ h => h) (Or.inl ⟨by rfl, by intro w hSw; go_simp⟩) ((Below.refl _ _).drew) ?_
              try simp only [Act.put, List.setIfInBounds_toArray, List.set_cons_zero, List.set_cons_succ]
              refine anyH_take 6 82 (rg v p f) rfl rfl (by kernel_rfl) (by kernel_rfl) (by kernel_rfl) (fun _ _ _ h => h) (Or.inl ⟨by rfl, fun X hSw => exec_load42m rfl lg (lo + i * 3) v p f rfl X (range_later hrr hlg0 hSw)⟩) ((Below.refl _ _).drew) ?_
              try simp only [Act.put, List.setIfInBounds_toArray, List.set_cons_zero, List.set_cons_succ]
              refine wpAnyH_ready (rs := [7, 11]) (by kernel_rfl) (by simp) ?_
              refine AllReadyH.cons rfl (fun K hK => ?_) (AllReadyH.cons rfl (fun K hK => ?_) AllReadyH.nil)
              · replace hK : Shut _ := hK
                go_simp
                go_wp2_with (go_at_call 34; refine (KM1 _ RX).mono ?_; rintro e w5m ⟨a5, c5, rfl, O5, b5⟩)
                refine hK.out _ _ ((Below.refl _ _).drew.trans b5) (fun hS => ?_)
                clear hK
                refine anyH_take 8 75 (.tuple #[.agg #[.int .i64 x1.peer, .int .i64 x1.boot, .int .i64 x1.life, .slice a5 x1.ls.length c5, .bool x1.pend, .int .i64 x1.miss], .bool false]) rfl rfl (by kernel_rfl) (by kernel_rfl) (by kernel_rfl) (fun _ _ _ h => h) (Or.inl ⟨by rfl, by intro w hSw; go_simp⟩) (hS) ?_
                try simp only [Act.put, List.setIfInBounds_toArray, List.set_cons_zero, List.set_cons_succ]
                refine anyH_take 9 84 (.agg #[.int .i64 x1.peer, .int .i64 x1.boot, .int .i64 x1.life, .slice a5 x1.ls.length c5, .bool x1.pend, .int .i64 x1.miss]) rfl rfl (by kernel_rfl) (by kernel_rfl) (by kernel_rfl) (fun _ _ _ h => h) (Or.inl ⟨by rfl, by intro w hSw; go_simp⟩) (hS) ?_
                try simp only [Act.put, List.setIfInBounds_toArray, List.set_cons_zero, List.set_cons_succ]
                refine anyH_take 10 85 (.bool false) rfl rfl (by kernel_rfl) (by kernel_rfl) (by kernel_rfl) (fun _ _ _ h => h) (Or.inl ⟨by rfl, by intro w hSw; go_simp⟩) (hS) ?_
                try simp only [Act.put, List.setIfInBounds_toArray, List.set_cons_zero, List.set_cons_succ]
                refine wpAnyH_ready (rs := [11]) (by kernel_rfl) (by simp) ?_
                refine AllReadyH.cons rfl (fun K hK => ?_) AllReadyH.nil
                replace hK : Shut _ := hK
                go_simp
                go_wp2
                refine hK.out _ _ (hS.alloc hS.size _) (fun hS6 => ?_)
                clear hK
                have X6 := World.alloc_heap_new w5m (.cells z6 24)
                have O6 := O5.below ((Below.refl _ _).alloc (Nat.le_refl _) (.cells z6 24))
                refine wpAnyH_ready (rs := [12]) (by kernel_rfl) (by simp) ?_
                refine AllReadyH.cons rfl (fun K hK => ?_) AllReadyH.nil
                refine wp_store24row _ _ rfl (x1.on a5 c5) X6 rfl rfl rfl ?_
                refine hK.out _ _ ((Only.setRow (C := none_) (Only.of_below hS6) (fun k => absurd k (by have := hS.size; omega)) _).calm) (fun hS7 => ?_)
                clear hK
                try simp only [Act.put, List.setIfInBounds_toArray, List.set_cons_zero, List.set_cons_succ]
                refine anyH_take 13 14 (.bool false) rfl rfl (by kernel_rfl) (by kernel_rfl) (by kernel_rfl) (fun _ _ _ h => h) (Or.inl ⟨by rfl, by intro w hSw; go_simp⟩) (hS7) ?_
                try simp only [Act.put, List.setIfInBounds_toArray, List.set_cons_zero, List.set_cons_succ]
                refine wpAnyH_done (by kernel_rfl) ?_ _
                go_wp2_with (fail)
                go_meet
                refine ⟨w5m.heap.size, a5, c5, rfl, rfl, setRow_heap _ _ _ _ _ _ X6, ⟨O6.lst.of_block fun g off e => setRow_other _ _ _ _ (by have := O5.lst.lt' e; omega), fun g off e => Nat.le_trans hs9 (O6.new g off e)⟩, hS7, hS.size⟩
              · replace hK : Shut _ := hK
                go_simp
                go_wp2
                refine hK.out _ _ ((Below.refl _ _).drew.alloc (Nat.le_refl _) _) (fun hS => ?_)
                clear hK
                refine wpAnyH_ready (rs := [7]) (by kernel_rfl) (by simp) ?_
                refine AllReadyH.cons rfl (fun K hK => ?_) AllReadyH.nil
                replace hK : Shut _ := hK
                go_simp
                go_wp2_with (go_at_call 34; refine (KM1 _ (RdL.below RX ((Below.refl _ _).alloc (Nat.le_refl _) _))).mono ?_; rintro e w5m ⟨a5, c5, rfl, O5, b5⟩)
                refine hK.out _ _ (hS.trans (b5.mono hS.size)) (fun hS6 => ?_)
                clear hK
                refine anyH_take 8 75 (.tuple #[.agg #[.int .i64 x1.peer, .int .i64 x1.boot, .int .i64 x1.life, .slice a5 x1.ls.length c5, .bool x1.pend, .int .i64 x1.miss], .bool false]) rfl rfl (by kernel_rfl) (by kernel_rfl) (by kernel_rfl) (fun _ _ _ h => h) (Or.inl ⟨by rfl, by intro w hSw; go_simp⟩) (hS6) ?_
                try simp only [Act.put, List.setIfInBounds_toArray, List.set_cons_zero, List.set_cons_succ]
                refine anyH_take 9 84 (.agg #[.int .i64 x1.peer, .int .i64 x1.boot, .int .i64 x1.life, .slice a5 x1.ls.length c5, .bool x1.pend, .int .i64 x1.miss]) rfl rfl (by kernel_rfl) (by kernel_rfl) (by kernel_rfl) (fun _ _ _ h => h) (Or.inl ⟨by rfl, by intro w hSw; go_simp⟩) (hS6) ?_
                try simp only [Act.put, List.setIfInBounds_toArray, List.set_cons_zero, List.set_cons_succ]
                refine anyH_take 10 85 (.bool false) rfl rfl (by kernel_rfl) (by kernel_rfl) (by kernel_rfl) (fun _ _ _ h => h) (Or.inl ⟨by rfl, by intro w hSw; go_simp⟩) (hS6) ?_
                try simp only [Act.put, List.setIfInBounds_toArray, List.set_cons_zero, List.set_cons_succ]
                have X6 := (b5.block _ (by simp)).trans (World.alloc_heap_new W0.drew (.cells z6 24))
                have O6 := O5
                refine wpAnyH_ready (rs := [12]) (by kernel_rfl) (by simp) ?_
                refine AllReadyH.cons rfl (fun K hK => ?_) AllReadyH.nil
                refine wp_store24row _ _ rfl (x1.on a5 c5) X6 rfl rfl rfl ?_
                refine hK.out _ _ ((Only.setRow (C := none_) (Only.of_below hS6) (fun k => absurd k (by exact Nat.lt_irrefl _)) _).calm) (fun hS7 => ?_)
                clear hK
                try simp only [Act.put, List.setIfInBounds_toArray, List.set_cons_zero, List.set_cons_succ]
                refine anyH_take 13 14 (.bool false) rfl rfl (by kernel_rfl) (by kernel_rfl) (by kernel_rfl) (fun _ _ _ h => h) (Or.inl ⟨by rfl, by intro w hSw; go_simp⟩) (hS7) ?_
                try simp only [Act.put, List.setIfInBounds_toArray, List.set_cons_zero, List.set_cons_succ]
                refine wpAnyH_done (by kernel_rfl) ?_ _
                go_wp2_with (fail)
                go_meet
                refine ⟨W0.heap.size, a5, c5, rfl, rfl, setRow_heap _ _ _ _ _ _ X6, ⟨O6.lst.of_block fun g off e => setRow_other _ _ _ _ (by have := O5.new g off e; simp at this; omega), fun g off e => Nat.le_trans hs9 (by have := O6.new g off e; simp at this; omega)⟩, hS7, Nat.le_refl _⟩
            case rest =>
              obtain ⟨k, a5, c5, rfl, rfl, XK, OK, bK, hk⟩ := hcut
              have SK := S9.later bK
              have TK := T9.below bK
              have HO40 : Hid (x1.ls.length * 40 ≤ 140737488355328) := by show _ ≤ _; have := HG1.out.few; omega
              have ⟨d0, d1, d2, d3, d4, d5⟩ := cel6 XK
              clear kx RX KM1
              go_wp2_with (first
                | (go_at_call 30; refine (KR2 _ _ _ (OK.rd HO40.out)).mono ?_; rintro e w11 ⟨rfl, b11⟩; clear KR2; have XL := (Below.heap_alloc w11 (.cells #[.int .i64 nv, .int .i64 np, .int .i64 nf] 42) _ (row_lt ((b11.block _ (row_lt XK)).trans XK))).trans ((b11.block _ (row_lt XK)).trans XK); have SL := (SK.later b11).later ((Below.refl _ _).alloc (Nat.le_refl _) (.cells #[.int .i64 nv, .int .i64 np, .int .i64 nf] 42)); have OL := (OK.below b11).below ((Below.refl _ _).alloc (Nat.le_refl _) (.cells #[.int .i64 nv, .int .i64 np, .int .i64 nf] 42)); have TL := (TK.below b11).alloc (.cells #[.int .i64 nv, .int .i64 np, .int .i64 nf] 42); have TN := Tri.new w11 (.int .i64 nv) (.int .i64 np) (.int .i64 nf) 42; obtain ⟨e0, e1, e2, e3, e4, e5, ez⟩ := _root_.id TL; clear d0 d1 d2 d3 d4 d5)
                | ((with_reducible show wpList _ _ _ (Oper.mk _ (Op.binOp .neq 42 _ _ 42) _ _ _ _ :: _) _ _); refine wpList_yield rfl _ (exec_neq42 rfl nv np nf wv wp wf rfl rfl _) ?_; rw [g3]; clear g3))
              obtain ⟨W1, hW1⟩ : ∃ W1, (w11.alloc (.cells #[.int .i64 nv, .int .i64 np, .int .i64 nf] 42)) = W1 := ⟨_, rfl⟩
              have XW := XL
              have SW := SL
              have OW := OL
              rw [hW1] at XW SW OW ⊢
              clear hW1
              have hs91 := SW.bx.size
              have hrr1 := range_later hr00 hlg SW.bx.below
              have hlg1 : lg < W1.heap.size := Nat.lt_of_lt_of_le hlg SW.bx.below.size
              have kx : ∀ X, Below W1.heap.size W1 X → Cel6 X k (.int .i64 x1.peer) (.int .i64 x1.boot) (.int .i64 x1.life) (.slice a5 x1.ls.length c5) (.bool x1.pend) (.int .i64 x1.miss) := fun X q => cel6 ((q.block _ (row_lt XW)).trans XW)
              have RX : RdO W1.drew x1 a5 c5 := (OW.of_blocks (W' := W1.drew) fun _ _ _ => rfl).rd HO40.out
              go_cut [16, 17] (fun p16 cc wx => cc = .bool false ∧ Below W1.heap.size W1 wx)
              case first =>
                refine wp_region_any (by kernel_rfl) ?_
                change wpAny _ _ _ _ _ _ _ (World.drew _)
                refine wpAny_narrow (fun W' => Below W1.heap.size W1 W') _ _ _ _ ?_
                refine anyH_take 0 104 (.int .i64 id) rfl rfl (by kernel_rfl) (by kernel_rfl) (by kernel_rfl) (fun _ _ _ h => h) (Or.inl ⟨by rfl, by intro w hSw; go_simp⟩) ((Below.refl _ _).drew) ?_
                try simp only [Act.put, List.setIfInBounds_toArray, List.set_cons_zero, List.set_cons_succ]
                refine anyH_take 1 105 (.agg #[.int .i64 x1.peer, .int .i64 x1.boot, .int .i64 x1.life, .slice a5 x1.ls.length c5, .bool x1.pend, .int .i64 x1.miss]) rfl rfl (by kernel_rfl) (by kernel_rfl) (by kernel_rfl) (fun _ _ _ h => h) (Or.inl ⟨by rfl, by intro w hSw; have ⟨k0, k1, k2, k3, k4, k5⟩ := kx _ hSw; go_simp⟩) ((Below.refl _ _).drew) ?_
                try simp only [Act.put, List.setIfInBounds_toArray, List.set_cons_zero, List.set_cons_succ]
                refine anyH_take 2 106 (.string name) rfl rfl (by kernel_rfl) (by kernel_rfl) (by kernel_rfl) (fun _ _ _ h => h) (Or.inl ⟨by rfl, by intro w hSw; go_simp⟩) ((Below.refl _ _).drew) ?_
                try simp only [Act.put, List.setIfInBounds_toArray, List.set_cons_zero, List.set_cons_succ]
                refine anyH_take 3 107 (.slice (some ⟨lg, lo, none⟩) n lc) rfl rfl (by kernel_rfl) (by kernel_rfl) (by kernel_rfl) (fun _ _ _ h => h) (Or.inl ⟨by rfl, by intro w hSw; go_simp⟩) ((Below.refl _ _).drew) ?_
                try simp only [Act.put, List.setIfInBounds_toArray, List.set_cons_zero, List.set_cons_succ]
                refine anyH_take 4 108 (.int .i64 (i : Int)) rfl rfl (by kernel_rfl) (by kernel_rfl) (by kernel_rfl) (fun _ _ _ h => h) (Or.inl ⟨by rfl, by intro w hSw; go_simp⟩) ((Below.refl _ _).drew) ?_
                try simp only [Act.put, List.setIfInBounds_toArray, List.set_cons_zero, List.set_cons_succ]
                refine anyH_take 5 109 (.pointer (some ⟨lg, lo + i * 3, none⟩)) rfl rfl (by kernel_rfl) (by kernel_rfl) (by kernel_rfl) (fun _ _ _ h => h) (Or.inl ⟨by rfl, by intro w hSw; go_simp⟩) ((Below.refl _ _).drew) ?_
                try simp only [Act.put, List.setIfInBounds_toArray, List.set_cons_zero, List.set_cons_succ]
                refine anyH_take 6 110 (rg v p f) rfl rfl (by kernel_rfl) (by kernel_rfl) (by kernel_rfl) (fun _ _ _ h => h) (Or.inl ⟨by rfl, fun X hSw => exec_load42m rfl lg (lo + i * 3) v p f rfl X (range_later hrr1 hlg1 hSw)⟩) ((Below.refl _ _).drew) ?_
                try simp only [Act.put, List.setIfInBounds_toArray, List.set_cons_zero, List.set_cons_succ]
                refine wpAnyH_ready (rs := [7, 11]) (by kernel_rfl) (by simp) ?_
                refine AllReadyH.cons rfl (fun K hK => ?_) (AllReadyH.cons rfl (fun K hK => ?_) AllReadyH.nil)
                · replace hK : Shut _ := hK
                  go_simp
                  go_wp2_with (go_at_call 34; refine (KM2 _ _ _ RX).mono ?_; rintro e w5m ⟨a6, c6, rfl, O5, b5⟩)
                  refine hK.out _ _ ((Below.refl _ _).drew.trans b5) (fun hS => ?_)
                  clear hK
                  refine anyH_take 8 103 (.tuple #[.agg #[.int .i64 x2.peer, .int .i64 x2.boot, .int .i64 x2.life, .slice a6 x2.ls.length c6, .bool x2.pend, .int .i64 x2.miss], .bool false]) rfl rfl (by kernel_rfl) (by kernel_rfl) (by kernel_rfl) (fun _ _ _ h => h) (Or.inl ⟨by rfl, by intro w hSw; go_simp⟩) (hS) ?_
                  try simp only [Act.put, List.setIfInBounds_toArray, List.set_cons_zero, List.set_cons_succ]
                  refine anyH_take 9 112 (.agg #[.int .i64 x2.peer, .int .i64 x2.boot, .int .i64 x2.life, .slice a6 x2.ls.length c6, .bool x2.pend, .int .i64 x2.miss]) rfl rfl (by kernel_rfl) (by kernel_rfl) (by kernel_rfl) (fun _ _ _ h => h) (Or.inl ⟨by rfl, by intro w hSw; go_simp⟩) (hS) ?_
                  try simp only [Act.put, List.setIfInBounds_toArray, List.set_cons_zero, List.set_cons_succ]
                  refine anyH_take 10 113 (.bool false) rfl rfl (by kernel_rfl) (by kernel_rfl) (by kernel_rfl) (fun _ _ _ h => h) (Or.inl ⟨by rfl, by intro w hSw; go_simp⟩) (hS) ?_
                  try simp only [Act.put, List.setIfInBounds_toArray, List.set_cons_zero, List.set_cons_succ]
                  refine wpAnyH_ready (rs := [11]) (by kernel_rfl) (by simp) ?_
                  refine AllReadyH.cons rfl (fun K hK => ?_) AllReadyH.nil
                  replace hK : Shut _ := hK
                  go_simp
                  go_wp2
                  refine hK.out _ _ (hS.alloc hS.size _) (fun hS6 => ?_)
                  clear hK
                  have X6 := World.alloc_heap_new w5m (.cells z6 24)
                  have O6 := O5.below ((Below.refl _ _).alloc (Nat.le_refl _) (.cells z6 24))
                  refine wpAnyH_ready (rs := [12]) (by kernel_rfl) (by simp) ?_
                  refine AllReadyH.cons rfl (fun K hK => ?_) AllReadyH.nil
                  refine wp_store24row _ _ rfl (x2.on a6 c6) X6 rfl rfl rfl ?_
                  refine hK.out _ _ ((Only.setRow (C := none_) (Only.of_below hS6) (fun k => absurd k (by have := hS.size; omega)) _).calm) (fun hS7 => ?_)
                  clear hK
                  try simp only [Act.put, List.setIfInBounds_toArray, List.set_cons_zero, List.set_cons_succ]
                  refine anyH_take 13 17 (.bool false) rfl rfl (by kernel_rfl) (by kernel_rfl) (by kernel_rfl) (fun _ _ _ h => h) (Or.inl ⟨by rfl, by intro w hSw; go_simp⟩) (hS7) ?_
                  try simp only [Act.put, List.setIfInBounds_toArray, List.set_cons_zero, List.set_cons_succ]
                  refine wpAnyH_done (by kernel_rfl) ?_ _
                  go_wp2_with (fail)
                  go_meet
                  exact ⟨rfl, hS7⟩
                · replace hK : Shut _ := hK
                  go_simp
                  go_wp2
                  refine hK.out _ _ ((Below.refl _ _).drew.alloc (Nat.le_refl _) _) (fun hS => ?_)
                  clear hK
                  refine wpAnyH_ready (rs := [7]) (by kernel_rfl) (by simp) ?_
                  refine AllReadyH.cons rfl (fun K hK => ?_) AllReadyH.nil
                  replace hK : Shut _ := hK
                  go_simp
                  go_wp2_with (go_at_call 34; refine (KM2 _ _ _ (RdL.below RX ((Below.refl _ _).alloc (Nat.le_refl _) _))).mono ?_; rintro e w5m ⟨a6, c6, rfl, O5, b5⟩)
                  refine hK.out _ _ (hS.trans (b5.mono hS.size)) (fun hS6 => ?_)
                  clear hK
                  refine anyH_take 8 103 (.tuple #[.agg #[.int .i64 x2.peer, .int .i64 x2.boot, .int .i64 x2.life, .slice a6 x2.ls.length c6, .bool x2.pend, .int .i64 x2.miss], .bool false]) rfl rfl (by kernel_rfl) (by kernel_rfl) (by kernel_rfl) (fun _ _ _ h => h) (Or.inl ⟨by rfl, by intro w hSw; go_simp⟩) (hS6) ?_
                  try simp only [Act.put, List.setIfInBounds_toArray, List.set_cons_zero, List.set_cons_succ]
                  refine anyH_take 9 112 (.agg #[.int .i64 x2.peer, .int .i64 x2.boot, .int .i64 x2.life, .slice a6 x2.ls.length c6, .bool x2.pend, .int .i64 x2.miss]) rfl rfl (by kernel_rfl) (by kernel_rfl) (by kernel_rfl) (fun _ _ _ h => h) (Or.inl ⟨by rfl, by intro w hSw; go_simp⟩) (hS6) ?_
                  try simp only [Act.put, List.setIfInBounds_toArray, List.set_cons_zero, List.set_cons_succ]
                  refine anyH_take 10 113 (.bool false) rfl rfl (by kernel_rfl) (by kernel_rfl) (by kernel_rfl) (fun _ _ _ h => h) (Or.inl ⟨by rfl, by intro w hSw; go_simp⟩) (hS6) ?_
                  try simp only [Act.put, List.setIfInBounds_toArray, List.set_cons_zero, List.set_cons_succ]
                  have X6 := (b5.block _ (by simp)).trans (World.alloc_heap_new W1.drew (.cells z6 24))
                  have O6 := O5
                  refine wpAnyH_ready (rs := [12]) (by kernel_rfl) (by simp) ?_
                  refine AllReadyH.cons rfl (fun K hK => ?_) AllReadyH.nil
                  refine wp_store24row _ _ rfl (x2.on a6 c6) X6 rfl rfl rfl ?_
                  refine hK.out _ _ ((Only.setRow (C := none_) (Only.of_below hS6) (fun k => absurd k (by exact Nat.lt_irrefl _)) _).calm) (fun hS7 => ?_)
                  clear hK
                  try simp only [Act.put, List.setIfInBounds_toArray, List.set_cons_zero, List.set_cons_succ]
                  refine anyH_take 13 17 (.bool false) rfl rfl (by kernel_rfl) (by kernel_rfl) (by kernel_rfl) (fun _ _ _ h => h) (Or.inl ⟨by rfl, by intro w hSw; go_simp⟩) (hS7) ?_
                  try simp only [Act.put, List.setIfInBounds_toArray, List.set_cons_zero, List.set_cons_succ]
                  refine wpAnyH_done (by kernel_rfl) ?_ _
                  go_wp2_with (fail)
                  go_meet
                  exact ⟨rfl, hS7⟩
              case rest =>
                obtain ⟨rfl, bV⟩ := hcut
                have XV := (bV.block _ (row_lt XW)).trans XW
                have SV := SW.later bV
                have OV := OW.below bV
                have ⟨d0, d1, d2, d3, d4, d5⟩ := cel6 XV
                have XB := SV.cur
                clear kx RX KM2
                go_wp2_with ((with_reducible show wpList _ _ _ (Oper.mk _ (Op.store 24 _ _) _ _ _ _ :: _) _ _); refine wpList_store24row rfl _ _ rfl (x1.on a5 c5) XB rfl rfl rfl ?_)
                go_roundg (gk - 1)
                case measure => omega
                case rel => exact ⟨i + 1, x1, a5, c5, ms, by first | rfl | go_num, by omega, by have := HMS.out; simp; try omega, SV.put OV, HG1.out⟩
        | true =>
          clear hmc
          generalize x.mgC id name v p f = ch at *
          cases ch with
          | false =>
            clear g4
            as_aux_lemma =>
              have hm1 : (if fitB v p f id h.peer = true then ms ++ [⟨v, p, f⟩] else ms) = (ms ++ [⟨v, p, f⟩]) := by rw [hf]; rfl
              rw [hm1] at g1
              clear hm1
              have HG1 : Hid (Grw id h name x1 (ms ++ [⟨v, p, f⟩])) := g1
              clear g1
              go_wp2_with (fail)
              refine wp_region_any (by kernel_rfl) ?_
              change wpAny _ _ _ _ _ _ _ (World.drew _)
              refine wpAny_narrow (fun W' => Below wr.heap.size wr W') _ _ _ _ ?_
              refine anyH_take 0 57 (.slice (some ⟨lg, lo, none⟩) n lc) rfl rfl (by kernel_rfl) (by kernel_rfl) (by kernel_rfl) (fun _ _ _ h => h) (Or.inl ⟨by rfl, by intro w hSw; go_simp⟩) ((Below.refl _ _).drew) ?_
              try simp only [Act.put, List.setIfInBounds_toArray, List.set_cons_zero, List.set_cons_succ]
              refine anyH_take 1 58 (.int .i64 (i : Int)) rfl rfl (by kernel_rfl) (by kernel_rfl) (by kernel_rfl) (fun _ _ _ h => h) (Or.inl ⟨by rfl, by intro w hSw; go_simp⟩) ((Below.refl _ _).drew) ?_
              try simp only [Act.put, List.setIfInBounds_toArray, List.set_cons_zero, List.set_cons_succ]
              refine anyH_take 2 59 (.pointer (some ⟨lg, lo + i * 3, none⟩)) rfl rfl (by kernel_rfl) (by kernel_rfl) (by kernel_rfl) (fun _ _ _ h => h) (Or.inl ⟨by rfl, by intro w hSw; go_simp⟩) ((Below.refl _ _).drew) ?_
              try simp only [Act.put, List.setIfInBounds_toArray, List.set_cons_zero, List.set_cons_succ]
              refine anyH_take 3 60 (rg v p f) rfl rfl (by kernel_rfl) (by kernel_rfl) (by kernel_rfl) (fun _ _ _ h => h) (Or.inl ⟨by rfl, fun X hSw => exec_load42m rfl lg (lo + i * 3) v p f rfl X (range_later hrw hlgw hSw)⟩) ((Below.refl _ _).drew) ?_
              try simp only [Act.put, List.setIfInBounds_toArray, List.set_cons_zero, List.set_cons_succ]
              refine anyH_take 4 61 (.int .i64 id) rfl rfl (by kernel_rfl) (by kernel_rfl) (by kernel_rfl) (fun _ _ _ h => h) (Or.inl ⟨by rfl, by intro w hSw; go_simp⟩) ((Below.refl _ _).drew) ?_
              try simp only [Act.put, List.setIfInBounds_toArray, List.set_cons_zero, List.set_cons_succ]
              refine anyH_take 5 62 (.pointer (some ⟨w.heap.size, 0, none⟩)) rfl rfl (by kernel_rfl) (by kernel_rfl) (by kernel_rfl) (fun _ _ _ h => h) (Or.inl ⟨by rfl, by intro w hSw; go_simp⟩) ((Below.refl _ _).drew) ?_
              try simp only [Act.put, List.setIfInBounds_toArray, List.set_cons_zero, List.set_cons_succ]
              refine anyH_take 6 63 (.int .i64 h.peer) rfl rfl (by kernel_rfl) (by kernel_rfl) (by kernel_rfl) (fun _ _ _ h => h) (Or.inl ⟨by rfl, by intro w hSw; have m0 := kb _ hSw; go_simp⟩) ((Below.refl _ _).drew) ?_
              try simp only [Act.put, List.setIfInBounds_toArray, List.set_cons_zero, List.set_cons_succ]
              refine wpAnyH_ready (rs := [7]) (by kernel_rfl) (by simp) ?_
              refine AllReadyH.cons rfl (fun K hK => ?_) AllReadyH.nil
              go_simp
              go_wp2_with (go_at_call 38; refine (rfit_any v p f id h.peer _).mono ?_; rw [hf]; rintro e w7 ⟨rfl, b7⟩)
              refine hK.out _ _ ((Below.refl _ _).drew.trans b7) (fun hS => ?_)
              clear hK
              refine wpAnyH_done (by kernel_rfl) ?_ _
              have S7 := S.later hS
              have hrw7 := range_later hrw hlgw hS
              have ⟨c0, c1, c2, c3, c4, c5x⟩ := cel6 S7.cur
              clear kb
              go_wp2_with (first
                | ((with_reducible show wpList _ _ _ (Oper.mk _ (Op.load 42 _) _ _ _ _ :: _) _ _); refine wpList_load42x rfl _ rfl lg (lo + i * 3) v p f rfl hrw7 ?_)
                | ((with_reducible show wpList _ _ _ (Oper.mk _ (Op.call { callee := Callee.builtin Builtin.append, args := _, argTypes := #[53, 53] }) _ _ _ _ :: _) _ _); go_must (have SA := S7.later ((Below.refl _ _).alloc (Nat.le_refl _) (.cells #[.int .i64 v, .int .i64 p, .int .i64 f] 42)); have X8 := World.alloc_heap_new w7 (.cells #[.int .i64 v, .int .i64 p, .int .i64 f] 42); refine wpList_more_lstR (base := w.heap.size + 1) (k := ms.length) (es := ms) (ds := [⟨v, p, f⟩]) (ad := ⟨w7.heap.size, 0, none⟩) rfl _ _ rfl rfl rfl SA.row rfl (fun j u hj => by rw [add_plain, Nat.zero_add]; exact row_cell X8 j u (by simpa [csR, RS.cells] using hj)) (by have := HNN.out; have := HMS.out; omega) SA.bx.size ?_; intro v8 w8 O8 g8 b8; have S8 : Gs w #[.int .i64 h.peer, .int .i64 h.boot, .int .i64 h.life, .slice a h.ls.length c, .bool h.pend, .int .i64 h.miss] w5.heap.size x ax cx v8 (ms ++ [⟨v, p, f⟩]) w8 := SA.grow g8 b8 (by simpa using O8); have ⟨c0', c1', c2', c3', c4', c5'⟩ := cel6 S8.cur; clear c0 c1 c2 c3 c4 c5x))
                | (go_at_call 30; refine (KR1 _ (S8.own.rd HX40.out)).mono ?_; rintro e w9 ⟨rfl, b9⟩; clear KR1))
              have S9 := (S8.later b9).later ((Below.refl _ _).alloc (Nat.le_refl _) (.cells #[.int .i64 wv, .int .i64 wp, .int .i64 wf] 42))
              have T9 := Tri.new w9 (.int .i64 wv) (.int .i64 wp) (.int .i64 wf) 42
              have hs9 := S9.bx.size
              obtain ⟨W0, hW0⟩ : ∃ W0, w9.alloc (.cells #[.int .i64 wv, .int .i64 wp, .int .i64 wf] 42) = W0 := ⟨_, rfl⟩
              rw [hW0] at S9 T9 hs9 ⊢
              clear hW0
              have hrr := range_later hr00 hlg S9.bx.below
              have hlg0 : lg < W0.heap.size := Nat.lt_of_lt_of_le hlg S9.bx.below.size
              have kx : ∀ X, Below W0.heap.size W0 X → Cel6 X w5.heap.size (.int .i64 x.peer) (.int .i64 x.boot) (.int .i64 x.life) (.slice ax x.ls.length cx) (.bool x.pend) (.int .i64 x.miss) := fun X k => cel6 ((k.block _ (row_lt S9.cur)).trans S9.cur)
              have RX : RdO W0.drew x ax cx := (S9.own.of_blocks (W' := W0.drew) fun _ _ _ => rfl).rd HX40.out
              have hbx0 := row_lt S9.cur
              go_cut [13, 14] (fun p13 cc wx => ∃ k a5 c5, p13 = .pointer (some ⟨k, 0, none⟩) ∧ cc = .bool false ∧ wx.heap[k]? = some (.cells (x1.on a5 c5).cells.toArray 24 (0, 0)) ∧ Own (w.heap.size + 1) wx x1 a5 c5 ∧ Below W0.heap.size W0 wx ∧ W0.heap.size ≤ k)
              case first =>
                refine wp_region_any (by kernel_rfl) ?_
                change wpAny _ _ _ _ _ _ _ (World.drew _)
                refine wpAny_narrow (fun W' => Below W0.heap.size W0 W') _ _ _ _ ?_
                refine anyH_take 0 76 (.int .i64 id) rfl rfl (by kernel_rfl) (by kernel_rfl) (by kernel_rfl) (fun _ _ _ h => h) (Or.inl ⟨by rfl, by intro w hSw; go_simp⟩) ((Below.refl _ _).drew) ?_
                try simp only [Act.put, List.setIfInBounds_toArray, List.set_cons_zero, List.set_cons_succ]
                refine anyH_take 1 77 (.agg #[.int .i64 x.peer, .int .i64 x.boot, .int .i64 x.life, .slice ax x.ls.length cx, .bool x.pend, .int .i64 x.miss]) rfl rfl (by kernel_rfl) (by kernel_rfl) (by kernel_rfl) (fun _ _ _ h => h) (Or.inl ⟨by rfl, by intro w hSw; have ⟨k0, k1, k2, k3, k4, k5⟩ := kx _ hSw; go_simp⟩) ((Below.refl _ _).drew) ?_
                try simp only [Act.put, List.setIfInBounds_toArray, List.set_cons_zero, List.set_cons_succ]
                refine anyH_take 2 78 (.string name) rfl rfl (by kernel_rfl) (by kernel_rfl) (by kernel_rfl) (fun _ _ _ h => h) (Or.inl ⟨by rfl, by intro w hSw; go_simp⟩) ((Below.refl _ _).drew) ?_
                try simp only [Act.put, List.setIfInBounds_toArray, List.set_cons_zero, List.set_cons_succ]
                refine anyH_take 3 79 (.slice (some ⟨lg, lo, none⟩) n lc) rfl rfl (by kernel_rfl) (by kernel_rfl) (by kernel_rfl) (fun _ _ _ h => h) (Or.inl ⟨by rfl, by intro w hSw; go_simp⟩) ((Below.refl _ _).drew) ?_
                try simp only [Act.put, List.setIfInBounds_toArray, List.set_cons_zero, List.set_cons_succ]
                refine anyH_take 4 80 (.int .i64 (i : Int)) rfl rfl (by kernel_rfl) (by kernel_rfl) (by kernel_rfl) (fun _ _ _ h => h) (Or.inl ⟨by rfl, by intro w hSw; go_simp⟩) ((Below.refl _ _).drew) ?_
                try simp only [Act.put, List.setIfInBounds_toArray, List.set_cons_zero, List.set_cons_succ]
                refine anyH_take 5 81 (.pointer (some ⟨lg, lo + i * 3, none⟩)) rfl rfl (by kernel_rfl) (by kernel_rfl) (by kernel_rfl) (fun _ _ _ h => h) (Or.inl ⟨by rfl, by intro w hSw; go_simp⟩) ((Below.refl _ _).drew) ?_
                try simp only [Act.put, List.setIfInBounds_toArray, List.set_cons_zero, List.set_cons_succ]
                refine anyH_take 6 82 (rg v p f) rfl rfl (by kernel_rfl) (by kernel_rfl) (by kernel_rfl) (fun _ _ _ h => h) (Or.inl ⟨by rfl, fun X hSw => exec_load42m rfl lg (lo + i * 3) v p f rfl X (range_later hrr hlg0 hSw)⟩) ((Below.refl _ _).drew) ?_
                try simp only [Act.put, List.setIfInBounds_toArray, List.set_cons_zero, List.set_cons_succ]
                refine wpAnyH_ready (rs := [7, 11]) (by kernel_rfl) (by simp) ?_
                refine AllReadyH.cons rfl (fun K hK => ?_) (AllReadyH.cons rfl (fun K hK => ?_) AllReadyH.nil)
                · replace hK : Shut _ := hK
                  go_simp
                  go_wp2_with (go_at_call 34; refine (KM1 _ RX).mono ?_; rintro e w5m ⟨a5, c5, rfl, O5, b5⟩)
                  refine hK.out _ _ ((Below.refl _ _).drew.trans b5) (fun hS => ?_)
                  clear hK
                  refine anyH_take 8 75 (.tuple #[.agg #[.int .i64 x1.peer, .int .i64 x1.boot, .int .i64 x1.life, .slice a5 x1.ls.length c5, .bool x1.pend, .int .i64 x1.miss], .bool false]) rfl rfl (by kernel_rfl) (by kernel_rfl) (by kernel_rfl) (fun _ _ _ h => h) (Or.inl ⟨by rfl, by intro w hSw; go_simp⟩) (hS) ?_
                  try simp only [Act.put, List.setIfInBounds_toArray, List.set_cons_zero, List.set_cons_succ]
                  refine anyH_take 9 84 (.agg #[.int .i64 x1.peer, .int .i64 x1.boot, .int .i64 x1.life, .slice a5 x1.ls.length c5, .bool x1.pend, .int .i64 x1.miss]) rfl rfl (by kernel_rfl) (by kernel_rfl) (by kernel_rfl) (fun _ _ _ h => h) (Or.inl ⟨by rfl, by intro w hSw; go_simp⟩) (hS) ?_
                  try simp only [Act.put, List.setIfInBounds_toArray, List.set_cons_zero, List.set_cons_succ]
                  refine anyH_take 10 85 (.bool false) rfl rfl (by kernel_rfl) (by kernel_rfl) (by kernel_rfl) (fun _ _ _ h => h) (Or.inl ⟨by rfl, by intro w hSw; go_simp⟩) (hS) ?_
                  try simp only [Act.put, List.setIfInBounds_toArray, List.set_cons_zero, List.set_cons_succ]
                  refine wpAnyH_ready (rs := [11]) (by kernel_rfl) (by simp) ?_
                  refine AllReadyH.cons rfl (fun K hK => ?_) AllReadyH.nil
                  replace hK : Shut _ := hK
                  go_simp
                  go_wp2
                  refine hK.out _ _ (hS.alloc hS.size _) (fun hS6 => ?_)
                  clear hK
                  have X6 := World.alloc_heap_new w5m (.cells z6 24)
                  have O6 := O5.below ((Below.refl _ _).alloc (Nat.le_refl _) (.cells z6 24))
                  refine wpAnyH_ready (rs := [12]) (by kernel_rfl) (by simp) ?_
                  refine AllReadyH.cons rfl (fun K hK => ?_) AllReadyH.nil
                  refine wp_store24row _ _ rfl (x1.on a5 c5) X6 rfl rfl rfl ?_
                  refine hK.out _ _ ((Only.setRow (C := none_) (Only.of_below hS6) (fun k => absurd k (by have := hS.size; omega)) _).calm) (fun hS7 => ?_)
                  clear hK
                  try simp only [Act.put, List.setIfInBounds_toArray, List.set_cons_zero, List.set_cons_succ]
                  refine anyH_take 13 14 (.bool false) rfl rfl (by kernel_rfl) (by kernel_rfl) (by kernel_rfl) (fun _ _ _ h => h) (Or.inl ⟨by rfl, by intro w hSw; go_simp⟩) (hS7) ?_
                  try simp only [Act.put, List.setIfInBounds_toArray, List.set_cons_zero, List.set_cons_succ]
                  refine wpAnyH_done (by kernel_rfl) ?_ _
                  go_wp2_with (fail)
                  go_meet
                  refine ⟨w5m.heap.size, a5, c5, rfl, rfl, setRow_heap _ _ _ _ _ _ X6, ⟨O6.lst.of_block fun g off e => setRow_other _ _ _ _ (by have := O5.lst.lt' e; omega), fun g off e => Nat.le_trans hs9 (O6.new g off e)⟩, hS7, hS.size⟩
                · replace hK : Shut _ := hK
                  go_simp
                  go_wp2
                  refine hK.out _ _ ((Below.refl _ _).drew.alloc (Nat.le_refl _) _) (fun hS => ?_)
                  clear hK
                  refine wpAnyH_ready (rs := [7]) (by kernel_rfl) (by simp) ?_
                  refine AllReadyH.cons rfl (fun K hK => ?_) AllReadyH.nil
                  replace hK : Shut _ := hK
                  go_simp
                  go_wp2_with (go_at_call 34; refine (KM1 _ (RdL.below RX ((Below.refl _ _).alloc (Nat.le_refl _) _))).mono ?_; rintro e w5m ⟨a5, c5, rfl, O5, b5⟩)
                  refine hK.out _ _ (hS.trans (b5.mono hS.size)) (fun hS6 => ?_)
                  clear hK
                  refine anyH_take 8 75 (.tuple #[.agg #[.int .i64 x1.peer, .int .i64 x1.boot, .int .i64 x1.life, .slice a5 x1.ls.length c5, .bool x1.pend, .int .i64 x1.miss], .bool false]) rfl rfl (by kernel_rfl) (by kernel_rfl) (by kernel_rfl) (fun _ _ _ h => h) (Or.inl ⟨by rfl, by intro w hSw; go_simp⟩) (hS6) ?_
                  try simp only [Act.put, List.setIfInBounds_toArray, List.set_cons_zero, List.set_cons_succ]
                  refine anyH_take 9 84 (.agg #[.int .i64 x1.peer, .int .i64 x1.boot, .int .i64 x1.life, .slice a5 x1.ls.length c5, .bool x1.pend, .int .i64 x1.miss]) rfl rfl (by kernel_rfl) (by kernel_rfl) (by kernel_rfl) (fun _ _ _ h => h) (Or.inl ⟨by rfl, by intro w hSw; go_simp⟩) (hS6) ?_
                  try simp only [Act.put, List.setIfInBounds_toArray, List.set_cons_zero, List.set_cons_succ]
                  refine anyH_take 10 85 (.bool false) rfl rfl (by kernel_rfl) (by kernel_rfl) (by kernel_rfl) (fun _ _ _ h => h) (Or.inl ⟨by rfl, by intro w hSw; go_simp⟩) (hS6) ?_
                  try simp only [Act.put, List.setIfInBounds_toArray, List.set_cons_zero, List.set_cons_succ]
                  have X6 := (b5.block _ (by simp)).trans (World.alloc_heap_new W0.drew (.cells z6 24))
                  have O6 := O5
                  refine wpAnyH_ready (rs := [12]) (by kernel_rfl) (by simp) ?_
                  refine AllReadyH.cons rfl (fun K hK => ?_) AllReadyH.nil
                  refine wp_store24row _ _ rfl (x1.on a5 c5) X6 rfl rfl rfl ?_
                  refine hK.out _ _ ((Only.setRow (C := none_) (Only.of_below hS6) (fun k => absurd k (by exact Nat.lt_irrefl _)) _).calm) (fun hS7 => ?_)
                  clear hK
                  try simp only [Act.put, List.setIfInBounds_toArray, List.set_cons_zero, List.set_cons_succ]
                  refine anyH_take 13 14 (.bool false) rfl rfl (by kernel_rfl) (by kernel_rfl) (by kernel_rfl) (fun _ _ _ h => h) (Or.inl ⟨by rfl, by intro w hSw; go_simp⟩) (hS7) ?_
                  try simp only [Act.put, List.setIfInBounds_toArray, List.set_cons_zero, List.set_cons_succ]
                  refine wpAnyH_done (by kernel_rfl) ?_ _
                  go_wp2_with (fail)
                  go_meet
                  refine ⟨W0.heap.size, a5, c5, rfl, rfl, setRow_heap _ _ _ _ _ _ X6, ⟨O6.lst.of_block fun g off e => setRow_other _ _ _ _ (by have := O5.new g off e; simp at this; omega), fun g off e => Nat.le_trans hs9 (by have := O6.new g off e; simp at this; omega)⟩, hS7, Nat.le_refl _⟩
              case rest =>
                obtain ⟨k, a5, c5, rfl, rfl, XK, OK, bK, hk⟩ := hcut
                have SK := S9.later bK
                have TK := T9.below bK
                have HO40 : Hid (x1.ls.length * 40 ≤ 140737488355328) := by show _ ≤ _; have := HG1.out.few; omega
                have ⟨d0, d1, d2, d3, d4, d5⟩ := cel6 XK
                clear kx RX KM1
                go_wp2_with (first
                  | (go_at_call 30; refine (KR2 _ _ _ (OK.rd HO40.out)).mono ?_; rintro e w11 ⟨rfl, b11⟩; clear KR2; have XL := (Below.heap_alloc w11 (.cells #[.int .i64 nv, .int .i64 np, .int .i64 nf] 42) _ (row_lt ((b11.block _ (row_lt XK)).trans XK))).trans ((b11.block _ (row_lt XK)).trans XK); have SL := (SK.later b11).later ((Below.refl _ _).alloc (Nat.le_refl _) (.cells #[.int .i64 nv, .int .i64 np, .int .i64 nf] 42)); have OL := (OK.below b11).below ((Below.refl _ _).alloc (Nat.le_refl _) (.cells #[.int .i64 nv, .int .i64 np, .int .i64 nf] 42)); have TL := (TK.below b11).alloc (.cells #[.int .i64 nv, .int .i64 np, .int .i64 nf] 42); have TN := Tri.new w11 (.int .i64 nv) (.int .i64 np) (.int .i64 nf) 42; obtain ⟨e0, e1, e2, e3, e4, e5, ez⟩ := _root_.id TL; clear d0 d1 d2 d3 d4 d5)
                  | ((with_reducible show wpList _ _ _ (Oper.mk _ (Op.binOp .neq 42 _ _ 42) _ _ _ _ :: _) _ _); refine wpList_yield rfl _ (exec_neq42 rfl nv np nf wv wp wf rfl rfl _) ?_; rw [g3]; clear g3))
                obtain ⟨W1, hW1⟩ : ∃ W1, (w11.alloc (.cells #[.int .i64 nv, .int .i64 np, .int .i64 nf] 42)) = W1 := ⟨_, rfl⟩
                have XW := XL
                have SW := SL
                have OW := OL
                rw [hW1] at XW SW OW ⊢
                clear hW1
                have hs91 := SW.bx.size
                have hrr1 := range_later hr00 hlg SW.bx.below
                have hlg1 : lg < W1.heap.size := Nat.lt_of_lt_of_le hlg SW.bx.below.size
                have kx : ∀ X, Below W1.heap.size W1 X → Cel6 X k (.int .i64 x1.peer) (.int .i64 x1.boot) (.int .i64 x1.life) (.slice a5 x1.ls.length c5) (.bool x1.pend) (.int .i64 x1.miss) := fun X q => cel6 ((q.block _ (row_lt XW)).trans XW)
                have RX : RdO W1.drew x1 a5 c5 := (OW.of_blocks (W' := W1.drew) fun _ _ _ => rfl).rd HO40.out
                go_cut [16, 17] (fun p16 cc wx => cc = .bool false ∧ Below W1.heap.size W1 wx)
                case first =>
                  refine wp_region_any (by kernel_rfl) ?_
                  change wpAny _ _ _ _ _ _ _ (World.drew _)
                  refine wpAny_narrow (fun W' => Below W1.heap.size W1 W') _ _ _ _ ?_
                  refine anyH_take 0 104 (.int .i64 id) rfl rfl (by kernel_rfl) (by kernel_rfl) (by kernel_rfl) (fun _ _ _ h => h) (Or.inl ⟨by rfl, by intro w hSw; go_simp⟩) ((Below.refl _ _).drew) ?_
                  try simp only [Act.put, List.setIfInBounds_toArray, List.set_cons_zero, List.set_cons_succ]
                  refine anyH_take 1 105 (.agg #[.int .i64 x1.peer, .int .i64 x1.boot, .int .i64 x1.life, .slice a5 x1.ls.length c5, .bool x1.pend, .int .i64 x1.miss]) rfl rfl (by kernel_rfl) (by kernel_rfl) (by kernel_rfl) (fun _ _ _ h => h) (Or.inl ⟨by rfl, by intro w hSw; have ⟨k0, k1, k2, k3, k4, k5⟩ := kx _ hSw; go_simp⟩) ((Below.refl _ _).drew) ?_
                  try simp only [Act.put, List.setIfInBounds_toArray, List.set_cons_zero, List.set_cons_succ]
                  refine anyH_take 2 106 (.string name) rfl rfl (by kernel_rfl) (by kernel_rfl) (by kernel_rfl) (fun _ _ _ h => h) (Or.inl ⟨by rfl, by intro w hSw; go_simp⟩) ((Below.refl _ _).drew) ?_
                  try simp only [Act.put, List.setIfInBounds_toArray, List.set_cons_zero, List.set_cons_succ]
                  refine anyH_take 3 107 (.slice (some ⟨lg, lo, none⟩) n lc) rfl rfl (by kernel_rfl) (by kernel_rfl) (by kernel_rfl) (fun _ _ _ h => h) (Or.inl ⟨by rfl, by intro w hSw; go_simp⟩) ((Below.refl _ _).drew) ?_
                  try simp only [Act.put, List.setIfInBounds_toArray, List.set_cons_zero, List.set_cons_succ]
                  refine anyH_take 4 108 (.int .i64 (i : Int)) rfl rfl (by kernel_rfl) (by kernel_rfl) (by kernel_rfl) (fun _ _ _ h => h) (Or.inl ⟨by rfl, by intro w hSw; go_simp⟩) ((Below.refl _ _).drew) ?_
                  try simp only [Act.put, List.setIfInBounds_toArray, List.set_cons_zero, List.set_cons_succ]
                  refine anyH_take 5 109 (.pointer (some ⟨lg, lo + i * 3, none⟩)) rfl rfl (by kernel_rfl) (by kernel_rfl) (by kernel_rfl) (fun _ _ _ h => h) (Or.inl ⟨by rfl, by intro w hSw; go_simp⟩) ((Below.refl _ _).drew) ?_
                  try simp only [Act.put, List.setIfInBounds_toArray, List.set_cons_zero, List.set_cons_succ]
                  refine anyH_take 6 110 (rg v p f) rfl rfl (by kernel_rfl) (by kernel_rfl) (by kernel_rfl) (fun _ _ _ h => h) (Or.inl ⟨by rfl, fun X hSw => exec_load42m rfl lg (lo + i * 3) v p f rfl X (range_later hrr1 hlg1 hSw)⟩) ((Below.refl _ _).drew) ?_
                  try simp only [Act.put, List.setIfInBounds_toArray, List.set_cons_zero, List.set_cons_succ]
                  refine wpAnyH_ready (rs := [7, 11]) (by kernel_rfl) (by simp) ?_
                  refine AllReadyH.cons rfl (fun K hK => ?_) (AllReadyH.cons rfl (fun K hK => ?_) AllReadyH.nil)
                  · replace hK : Shut _ := hK
                    go_simp
                    go_wp2_with (go_at_call 34; refine (KM2 _ _ _ RX).mono ?_; rintro e w5m ⟨a6, c6, rfl, O5, b5⟩)
                    refine hK.out _ _ ((Below.refl _ _).drew.trans b5) (fun hS => ?_)
                    clear hK
                    refine anyH_take 8 103 (.tuple #[.agg #[.int .i64 x2.peer, .int .i64 x2.boot, .int .i64 x2.life, .slice a6 x2.ls.length c6, .bool x2.pend, .int .i64 x2.miss], .bool false]) rfl rfl (by kernel_rfl) (by kernel_rfl) (by kernel_rfl) (fun _ _ _ h => h) (Or.inl ⟨by rfl, by intro w hSw; go_simp⟩) (hS) ?_
                    try simp only [Act.put, List.setIfInBounds_toArray, List.set_cons_zero, List.set_cons_succ]
                    refine anyH_take 9 112 (.agg #[.int .i64 x2.peer, .int .i64 x2.boot, .int .i64 x2.life, .slice a6 x2.ls.length c6, .bool x2.pend, .int .i64 x2.miss]) rfl rfl (by kernel_rfl) (by kernel_rfl) (by kernel_rfl) (fun _ _ _ h => h) (Or.inl ⟨by rfl, by intro w hSw; go_simp⟩) (hS) ?_
                    try simp only [Act.put, List.setIfInBounds_toArray, List.set_cons_zero, List.set_cons_succ]
                    refine anyH_take 10 113 (.bool false) rfl rfl (by kernel_rfl) (by kernel_rfl) (by kernel_rfl) (fun _ _ _ h => h) (Or.inl ⟨by rfl, by intro w hSw; go_simp⟩) (hS) ?_
                    try simp only [Act.put, List.setIfInBounds_toArray, List.set_cons_zero, List.set_cons_succ]
                    refine wpAnyH_ready (rs := [11]) (by kernel_rfl) (by simp) ?_
                    refine AllReadyH.cons rfl (fun K hK => ?_) AllReadyH.nil
                    replace hK : Shut _ := hK
                    go_simp
                    go_wp2
                    refine hK.out _ _ (hS.alloc hS.size _) (fun hS6 => ?_)
                    clear hK
                    have X6 := World.alloc_heap_new w5m (.cells z6 24)
                    have O6 := O5.below ((Below.refl _ _).alloc (Nat.le_refl _) (.cells z6 24))
                    refine wpAnyH_ready (rs := [12]) (by kernel_rfl) (by simp) ?_
                    refine AllReadyH.cons rfl (fun K hK => ?_) AllReadyH.nil
                    refine wp_store24row _ _ rfl (x2.on a6 c6) X6 rfl rfl rfl ?_
                    refine hK.out _ _ ((Only.setRow (C := none_) (Only.of_below hS6) (fun k => absurd k (by have := hS.size; omega)) _).calm) (fun hS7 => ?_)
                    clear hK
                    try simp only [Act.put, List.setIfInBounds_toArray, List.set_cons_zero, List.set_cons_succ]
                    refine anyH_take 13 17 (.bool false) rfl rfl (by kernel_rfl) (by kernel_rfl) (by kernel_rfl) (fun _ _ _ h => h) (Or.inl ⟨by rfl, by intro w hSw; go_simp⟩) (hS7) ?_
                    try simp only [Act.put, List.setIfInBounds_toArray, List.set_cons_zero, List.set_cons_succ]
                    refine wpAnyH_done (by kernel_rfl) ?_ _
                    go_wp2_with (fail)
                    go_meet
                    exact ⟨rfl, hS7⟩
                  · replace hK : Shut _ := hK
                    go_simp
                    go_wp2
                    refine hK.out _ _ ((Below.refl _ _).drew.alloc (Nat.le_refl _) _) (fun hS => ?_)
                    clear hK
                    refine wpAnyH_ready (rs := [7]) (by kernel_rfl) (by simp) ?_
                    refine AllReadyH.cons rfl (fun K hK => ?_) AllReadyH.nil
                    replace hK : Shut _ := hK
                    go_simp
                    go_wp2_with (go_at_call 34; refine (KM2 _ _ _ (RdL.below RX ((Below.refl _ _).alloc (Nat.le_refl _) _))).mono ?_; rintro e w5m ⟨a6, c6, rfl, O5, b5⟩)
                    refine hK.out _ _ (hS.trans (b5.mono hS.size)) (fun hS6 => ?_)
                    clear hK
                    refine anyH_take 8 103 (.tuple #[.agg #[.int .i64 x2.peer, .int .i64 x2.boot, .int .i64 x2.life, .slice a6 x2.ls.length c6, .bool x2.pend, .int .i64 x2.miss], .bool false]) rfl rfl (by kernel_rfl) (by kernel_rfl) (by kernel_rfl) (fun _ _ _ h => h) (Or.inl ⟨by rfl, by intro w hSw; go_simp⟩) (hS6) ?_
                    try simp only [Act.put, List.setIfInBounds_toArray, List.set_cons_zero, List.set_cons_succ]
                    refine anyH_take 9 112 (.agg #[.int .i64 x2.peer, .int .i64 x2.boot, .int .i64 x2.life, .slice a6 x2.ls.length c6, .bool x2.pend, .int .i64 x2.miss]) rfl rfl (by kernel_rfl) (by kernel_rfl) (by kernel_rfl) (fun _ _ _ h => h) (Or.inl ⟨by rfl, by intro w hSw; go_simp⟩) (hS6) ?_
                    try simp only [Act.put, List.setIfInBounds_toArray, List.set_cons_zero, List.set_cons_succ]
                    refine anyH_take 10 113 (.bool false) rfl rfl (by kernel_rfl) (by kernel_rfl) (by kernel_rfl) (fun _ _ _ h => h) (Or.inl ⟨by rfl, by intro w hSw; go_simp⟩) (hS6) ?_
                    try simp only [Act.put, List.setIfInBounds_toArray, List.set_cons_zero, List.set_cons_succ]
                    have X6 := (b5.block _ (by simp)).trans (World.alloc_heap_new W1.drew (.cells z6 24))
                    have O6 := O5
                    refine wpAnyH_ready (rs := [12]) (by kernel_rfl) (by simp) ?_
                    refine AllReadyH.cons rfl (fun K hK => ?_) AllReadyH.nil
                    refine wp_store24row _ _ rfl (x2.on a6 c6) X6 rfl rfl rfl ?_
                    refine hK.out _ _ ((Only.setRow (C := none_) (Only.of_below hS6) (fun k => absurd k (by exact Nat.lt_irrefl _)) _).calm) (fun hS7 => ?_)
                    clear hK
                    try simp only [Act.put, List.setIfInBounds_toArray, List.set_cons_zero, List.set_cons_succ]
                    refine anyH_take 13 17 (.bool false) rfl rfl (by kernel_rfl) (by kernel_rfl) (by kernel_rfl) (fun _ _ _ h => h) (Or.inl ⟨by rfl, by intro w hSw; go_simp⟩) (hS7) ?_
                    try simp only [Act.put, List.setIfInBounds_toArray, List.set_cons_zero, List.set_cons_succ]
                    refine wpAnyH_done (by kernel_rfl) ?_ _
                    go_wp2_with (fail)
                    go_meet
                    exact ⟨rfl, hS7⟩
                case rest =>
                  obtain ⟨rfl, bV⟩ := hcut
                  have XV := (bV.block _ (row_lt XW)).trans XW
                  have SV := SW.later bV
                  have OV := OW.below bV
                  have ⟨d0, d1, d2, d3, d4, d5⟩ := cel6 XV
                  have XB := SV.cur
                  clear kx RX KM2
                  go_wp2_with ((with_reducible show wpList _ _ _ (Oper.mk _ (Op.store 24 _ _) _ _ _ _ :: _) _ _); refine wpList_store24row rfl _ _ rfl (x1.on a5 c5) XB rfl rfl rfl ?_)
                  go_roundg (gk - 1)
                  case measure => omega
                  case rel => exact ⟨i + 1, x1, a5, c5, (ms ++ [⟨v, p, f⟩]), by first | rfl | go_num, by omega, by have := HMS.out; simp; try omega, SV.put OV, HG1.out⟩
          | true =>
            replace g4 := g4 rfl
            as_aux_lemma =>
              have hm1 : (if fitB v p f id h.peer = true then ms ++ [⟨v, p, f⟩] else ms) = (ms ++ [⟨v, p, f⟩]) := by rw [hf]; rfl
              rw [hm1] at g1
              clear hm1
              have HG1 : Hid (Grw id h name x1 (ms ++ [⟨v, p, f⟩])) := g1
              clear g1
              go_wp2_with (fail)
              refine wp_region_any (by kernel_rfl) ?_
              change wpAny _ _ _ _ _ _ _ (World.drew _)
              refine wpAny_narrow (fun W' => Below wr.heap.size wr W') _ _ _ _ ?_
              refine anyH_take 0 57 (.slice (some ⟨lg, lo, none⟩) n lc) rfl rfl (by kernel_rfl) (by kernel_rfl) (by kernel_rfl) (fun _ _ _ h => h) (Or.inl ⟨by rfl, by intro w hSw; go_simp⟩) ((Below.refl _ _).drew) ?_
              try simp only [Act.put, List.setIfInBounds_toArray, List.set_cons_zero, List.set_cons_succ]
              refine anyH_take 1 58 (.int .i64 (i : Int)) rfl rfl (by kernel_rfl) (by kernel_rfl) (by kernel_rfl) (fun _ _ _ h => h) (Or.inl ⟨by rfl, by intro w hSw; go_simp⟩) ((Below.refl _ _).drew) ?_
              try simp only [Act.put, List.setIfInBounds_toArray, List.set_cons_zero, List.set_cons_succ]
              refine anyH_take 2 59 (.pointer (some ⟨lg, lo + i * 3, none⟩)) rfl rfl (by kernel_rfl) (by kernel_rfl) (by kernel_rfl) (fun _ _ _ h => h) (Or.inl ⟨by rfl, by intro w hSw; go_simp⟩) ((Below.refl _ _).drew) ?_
              try simp only [Act.put, List.setIfInBounds_toArray, List.set_cons_zero, List.set_cons_succ]
              refine anyH_take 3 60 (rg v p f) rfl rfl (by kernel_rfl) (by kernel_rfl) (by kernel_rfl) (fun _ _ _ h => h) (Or.inl ⟨by rfl, fun X hSw => exec_load42m rfl lg (lo + i * 3) v p f rfl X (range_later hrw hlgw hSw)⟩) ((Below.refl _ _).drew) ?_
              try simp only [Act.put, List.setIfInBounds_toArray, List.set_cons_zero, List.set_cons_succ]
              refine anyH_take 4 61 (.int .i64 id) rfl rfl (by kernel_rfl) (by kernel_rfl) (by kernel_rfl) (fun _ _ _ h => h) (Or.inl ⟨by rfl, by intro w hSw; go_simp⟩) ((Below.refl _ _).drew) ?_
              try simp only [Act.put, List.setIfInBounds_toArray, List.set_cons_zero, List.set_cons_succ]
              refine anyH_take 5 62 (.pointer (some ⟨w.heap.size, 0, none⟩)) rfl rfl (by kernel_rfl) (by kernel_rfl) (by kernel_rfl) (fun _ _ _ h => h) (Or.inl ⟨by rfl, by intro w hSw; go_simp⟩) ((Below.refl _ _).drew) ?_
              try simp only [Act.put, List.setIfInBounds_toArray, List.set_cons_zero, List.set_cons_succ]
              refine anyH_take 6 63 (.int .i64 h.peer) rfl rfl (by kernel_rfl) (by kernel_rfl) (by kernel_rfl) (fun _ _ _ h => h) (Or.inl ⟨by rfl, by intro w hSw; have m0 := kb _ hSw; go_simp⟩) ((Below.refl _ _).drew) ?_
              try simp only [Act.put, List.setIfInBounds_toArray, List.set_cons_zero, List.set_cons_succ]
              refine wpAnyH_ready (rs := [7]) (by kernel_rfl) (by simp) ?_
              refine AllReadyH.cons rfl (fun K hK => ?_) AllReadyH.nil
              go_simp
              go_wp2_with (go_at_call 38; refine (rfit_any v p f id h.peer _).mono ?_; rw [hf]; rintro e w7 ⟨rfl, b7⟩)
              refine hK.out _ _ ((Below.refl _ _).drew.trans b7) (fun hS => ?_)
              clear hK
              refine wpAnyH_done (by kernel_rfl) ?_ _
              have S7 := S.later hS
              have hrw7 := range_later hrw hlgw hS
              have ⟨c0, c1, c2, c3, c4, c5x⟩ := cel6 S7.cur
              clear kb
              go_wp2_with (first
                | ((with_reducible show wpList _ _ _ (Oper.mk _ (Op.load 42 _) _ _ _ _ :: _) _ _); refine wpList_load42x rfl _ rfl lg (lo + i * 3) v p f rfl hrw7 ?_)
                | ((with_reducible show wpList _ _ _ (Oper.mk _ (Op.call { callee := Callee.builtin Builtin.append, args := _, argTypes := #[53, 53] }) _ _ _ _ :: _) _ _); go_must (have SA := S7.later ((Below.refl _ _).alloc (Nat.le_refl _) (.cells #[.int .i64 v, .int .i64 p, .int .i64 f] 42)); have X8 := World.alloc_heap_new w7 (.cells #[.int .i64 v, .int .i64 p, .int .i64 f] 42); refine wpList_more_lstR (base := w.heap.size + 1) (k := ms.length) (es := ms) (ds := [⟨v, p, f⟩]) (ad := ⟨w7.heap.size, 0, none⟩) rfl _ _ rfl rfl rfl SA.row rfl (fun j u hj => by rw [add_plain, Nat.zero_add]; exact row_cell X8 j u (by simpa [csR, RS.cells] using hj)) (by have := HNN.out; have := HMS.out; omega) SA.bx.size ?_; intro v8 w8 O8 g8 b8; have S8 : Gs w #[.int .i64 h.peer, .int .i64 h.boot, .int .i64 h.life, .slice a h.ls.length c, .bool h.pend, .int .i64 h.miss] w5.heap.size x ax cx v8 (ms ++ [⟨v, p, f⟩]) w8 := SA.grow g8 b8 (by simpa using O8); have ⟨c0', c1', c2', c3', c4', c5'⟩ := cel6 S8.cur; clear c0 c1 c2 c3 c4 c5x))
                | (go_at_call 30; refine (KR1 _ (S8.own.rd HX40.out)).mono ?_; rintro e w9 ⟨rfl, b9⟩; clear KR1))
              have S9 := (S8.later b9).later ((Below.refl _ _).alloc (Nat.le_refl _) (.cells #[.int .i64 wv, .int .i64 wp, .int .i64 wf] 42))
              have T9 := Tri.new w9 (.int .i64 wv) (.int .i64 wp) (.int .i64 wf) 42
              have hs9 := S9.bx.size
              obtain ⟨W0, hW0⟩ : ∃ W0, w9.alloc (.cells #[.int .i64 wv, .int .i64 wp, .int .i64 wf] 42) = W0 := ⟨_, rfl⟩
              rw [hW0] at S9 T9 hs9 ⊢
              clear hW0
              have hrr := range_later hr00 hlg S9.bx.below
              have hlg0 : lg < W0.heap.size := Nat.lt_of_lt_of_le hlg S9.bx.below.size
              have kx : ∀ X, Below W0.heap.size W0 X → Cel6 X w5.heap.size (.int .i64 x.peer) (.int .i64 x.boot) (.int .i64 x.life) (.slice ax x.ls.length cx) (.bool x.pend) (.int .i64 x.miss) := fun X k => cel6 ((k.block _ (row_lt S9.cur)).trans S9.cur)
              have RX : RdO W0.drew x ax cx := (S9.own.of_blocks (W' := W0.drew) fun _ _ _ => rfl).rd HX40.out
              have hbx0 := row_lt S9.cur
              go_cut [13, 14] (fun p13 cc wx => ∃ k a5 c5, p13 = .pointer (some ⟨k, 0, none⟩) ∧ cc = .bool true ∧ wx.heap[k]? = some (.cells (x1.on a5 c5).cells.toArray 24 (0, 0)) ∧ Own (w.heap.size + 1) wx x1 a5 c5 ∧ Below W0.heap.size W0 wx ∧ W0.heap.size ≤ k)
              case first =>
                refine wp_region_any (by kernel_rfl) ?_
                change wpAny _ _ _ _ _ _ _ (World.drew _)
                refine wpAny_narrow (fun W' => Below W0.heap.size W0 W') _ _ _ _ ?_
                refine anyH_take 0 76 (.int .i64 id) rfl rfl (by kernel_rfl) (by kernel_rfl) (by kernel_rfl) (fun _ _ _ h => h) (Or.inl ⟨by rfl, by intro w hSw; go_simp⟩) ((Below.refl _ _).drew) ?_
                try simp only [Act.put, List.setIfInBounds_toArray, List.set_cons_zero, List.set_cons_succ]
                refine anyH_take 1 77 (.agg #[.int .i64 x.peer, .int .i64 x.boot, .int .i64 x.life, .slice ax x.ls.length cx, .bool x.pend, .int .i64 x.miss]) rfl rfl (by kernel_rfl) (by kernel_rfl) (by kernel_rfl) (fun _ _ _ h => h) (Or.inl ⟨by rfl, by intro w hSw; have ⟨k0, k1, k2, k3, k4, k5⟩ := kx _ hSw; go_simp⟩) ((Below.refl _ _).drew) ?_
                try simp only [Act.put, List.setIfInBounds_toArray, List.set_cons_zero, List.set_cons_succ]
                refine anyH_take 2 78 (.string name) rfl rfl (by kernel_rfl) (by kernel_rfl) (by kernel_rfl) (fun _ _ _ h => h) (Or.inl ⟨by rfl, by intro w hSw; go_simp⟩) ((Below.refl _ _).drew) ?_
                try simp only [Act.put, List.setIfInBounds_toArray, List.set_cons_zero, List.set_cons_succ]
                refine anyH_take 3 79 (.slice (some ⟨lg, lo, none⟩) n lc) rfl rfl (by kernel_rfl) (by kernel_rfl) (by kernel_rfl) (fun _ _ _ h => h) (Or.inl ⟨by rfl, by intro w hSw; go_simp⟩) ((Below.refl _ _).drew) ?_
                try simp only [Act.put, List.setIfInBounds_toArray, List.set_cons_zero, List.set_cons_succ]
                refine anyH_take 4 80 (.int .i64 (i : Int)) rfl rfl (by kernel_rfl) (by kernel_rfl) (by kernel_rfl) (fun _ _ _ h => h) (Or.inl ⟨by rfl, by intro w hSw; go_simp⟩) ((Below.refl _ _).drew) ?_
                try simp only [Act.put, List.setIfInBounds_toArray, List.set_cons_zero, List.set_cons_succ]
                refine anyH_take 5 81 (.pointer (some ⟨lg, lo + i * 3, none⟩)) rfl rfl (by kernel_rfl) (by kernel_rfl) (by kernel_rfl) (fun _ _ _ h => h) (Or.inl ⟨by rfl, by intro w hSw; go_simp⟩) ((Below.refl _ _).drew) ?_
                try simp only [Act.put, List.setIfInBounds_toArray, List.set_cons_zero, List.set_cons_succ]
                refine anyH_take 6 82 (rg v p f) rfl rfl (by kernel_rfl) (by kernel_rfl) (by kernel_rfl) (fun _ _ _ h => h) (Or.inl ⟨by rfl, fun X hSw => exec_load42m rfl lg (lo + i * 3) v p f rfl X (range_later hrr hlg0 hSw)⟩) ((Below.refl _ _).drew) ?_
                try simp only [Act.put, List.setIfInBounds_toArray, List.set_cons_zero, List.set_cons_succ]
                refine wpAnyH_ready (rs := [7, 11]) (by kernel_rfl) (by simp) ?_
                refine AllReadyH.cons rfl (fun K hK => ?_) (AllReadyH.cons rfl (fun K hK => ?_) AllReadyH.nil)
                · replace hK : Shut _ := hK
                  go_simp
                  go_wp2_with (go_at_call 34; refine (KM1 _ RX).mono ?_; rintro e w5m ⟨a5, c5, rfl, O5, b5⟩)
                  refine hK.out _ _ ((Below.refl _ _).drew.trans b5) (fun hS => ?_)
                  clear hK
                  refine anyH_take 8 75 (.tuple #[.agg #[.int .i64 x1.peer, .int .i64 x1.boot, .int .i64 x1.life, .slice a5 x1.ls.length c5, .bool x1.pend, .int .i64 x1.miss], .bool true]) rfl rfl (by kernel_rfl) (by kernel_rfl) (by kernel_rfl) (fun _ _ _ h => h) (Or.inl ⟨by rfl, by intro w hSw; go_simp⟩) (hS) ?_
                  try simp only [Act.put, List.setIfInBounds_toArray, List.set_cons_zero, List.set_cons_succ]
                  refine anyH_take 9 84 (.agg #[.int .i64 x1.peer, .int .i64 x1.boot, .int .i64 x1.life, .slice a5 x1.ls.length c5, .bool x1.pend, .int .i64 x1.miss]) rfl rfl (by kernel_rfl) (by kernel_rfl) (by kernel_rfl) (fun _ _ _ h => h) (Or.inl ⟨by rfl, by intro w hSw; go_simp⟩) (hS) ?_
                  try simp only [Act.put, List.setIfInBounds_toArray, List.set_cons_zero, List.set_cons_succ]
                  refine anyH_take 10 85 (.bool true) rfl rfl (by kernel_rfl) (by kernel_rfl) (by kernel_rfl) (fun _ _ _ h => h) (Or.inl ⟨by rfl, by intro w hSw; go_simp⟩) (hS) ?_
                  try simp only [Act.put, List.setIfInBounds_toArray, List.set_cons_zero, List.set_cons_succ]
                  refine wpAnyH_ready (rs := [11]) (by kernel_rfl) (by simp) ?_
                  refine AllReadyH.cons rfl (fun K hK => ?_) AllReadyH.nil
                  replace hK : Shut _ := hK
                  go_simp
                  go_wp2
                  refine hK.out _ _ (hS.alloc hS.size _) (fun hS6 => ?_)
                  clear hK
                  have X6 := World.alloc_heap_new w5m (.cells z6 24)
                  have O6 := O5.below ((Below.refl _ _).alloc (Nat.le_refl _) (.cells z6 24))
                  refine wpAnyH_ready (rs := [12]) (by kernel_rfl) (by simp) ?_
                  refine AllReadyH.cons rfl (fun K hK => ?_) AllReadyH.nil
                  refine wp_store24row _ _ rfl (x1.on a5 c5) X6 rfl rfl rfl ?_
                  refine hK.out _ _ ((Only.setRow (C := none_) (Only.of_below hS6) (fun k => absurd k (by have := hS.size; omega)) _).calm) (fun hS7 => ?_)
                  clear hK
                  try simp only [Act.put, List.setIfInBounds_toArray, List.set_cons_zero, List.set_cons_succ]
                  refine anyH_take 13 14 (.bool true) rfl rfl (by kernel_rfl) (by kernel_rfl) (by kernel_rfl) (fun _ _ _ h => h) (Or.inl ⟨by rfl, by intro w hSw; go_simp⟩) (hS7) ?_
                  try simp only [Act.put, List.setIfInBounds_toArray, List.set_cons_zero, List.set_cons_succ]
                  refine wpAnyH_done (by kernel_rfl) ?_ _
                  go_wp2_with (fail)
                  go_meet
                  refine ⟨w5m.heap.size, a5, c5, rfl, rfl, setRow_heap _ _ _ _ _ _ X6, ⟨O6.lst.of_block fun g off e => setRow_other _ _ _ _ (by have := O5.lst.lt' e; omega), fun g off e => Nat.le_trans hs9 (O6.new g off e)⟩, hS7, hS.size⟩
                · replace hK : Shut _ := hK
                  go_simp
                  go_wp2
                  refine hK.out _ _ ((Below.refl _ _).drew.alloc (Nat.le_refl _) _) (fun hS => ?_)
                  clear hK
                  refine wpAnyH_ready (rs := [7]) (by kernel_rfl) (by simp) ?_
                  refine AllReadyH.cons rfl (fun K hK => ?_) AllReadyH.nil
                  replace hK : Shut _ := hK
                  go_simp
                  go_wp2_with (go_at_call 34; refine (KM1 _ (RdL.below RX ((Below.refl _ _).alloc (Nat.le_refl _) _))).mono ?_; rintro e w5m ⟨a5, c5, rfl, O5, b5⟩)
                  refine hK.out _ _ (hS.trans (b5.mono hS.size)) (fun hS6 => ?_)
                  clear hK
                  refine anyH_take 8 75 (.tuple #[.agg #[.int .i64 x1.peer, .int .i64 x1.boot, .int .i64 x1.life, .slice a5 x1.ls.length c5, .bool x1.pend, .int .i64 x1.miss], .bool true]) rfl rfl (by kernel_rfl) (by kernel_rfl) (by kernel_rfl) (fun _ _ _ h => h) (Or.inl ⟨by rfl, by intro w hSw; go_simp⟩) (hS6) ?_
                  try simp only [Act.put, List.setIfInBounds_toArray, List.set_cons_zero, List.set_cons_succ]
                  refine anyH_take 9 84 (.agg #[.int .i64 x1.peer, .int .i64 x1.boot, .int .i64 x1.life, .slice a5 x1.ls.length c5, .bool x1.pend, .int .i64 x1.miss]) rfl rfl (by kernel_rfl) (by kernel_rfl) (by kernel_rfl) (fun _ _ _ h => h) (Or.inl ⟨by rfl, by intro w hSw; go_simp⟩) (hS6) ?_
                  try simp only [Act.put, List.setIfInBounds_toArray, List.set_cons_zero, List.set_cons_succ]
                  refine anyH_take 10 85 (.bool true) rfl rfl (by kernel_rfl) (by kernel_rfl) (by kernel_rfl) (fun _ _ _ h => h) (Or.inl ⟨by rfl, by intro w hSw; go_simp⟩) (hS6) ?_
                  try simp only [Act.put, List.setIfInBounds_toArray, List.set_cons_zero, List.set_cons_succ]
                  have X6 := (b5.block _ (by simp)).trans (World.alloc_heap_new W0.drew (.cells z6 24))
                  have O6 := O5
                  refine wpAnyH_ready (rs := [12]) (by kernel_rfl) (by simp) ?_
                  refine AllReadyH.cons rfl (fun K hK => ?_) AllReadyH.nil
                  refine wp_store24row _ _ rfl (x1.on a5 c5) X6 rfl rfl rfl ?_
                  refine hK.out _ _ ((Only.setRow (C := none_) (Only.of_below hS6) (fun k => absurd k (by exact Nat.lt_irrefl _)) _).calm) (fun hS7 => ?_)
                  clear hK
                  try simp only [Act.put, List.setIfInBounds_toArray, List.set_cons_zero, List.set_cons_succ]
                  refine anyH_take 13 14 (.bool true) rfl rfl (by kernel_rfl) (by kernel_rfl) (by kernel_rfl) (fun _ _ _ h => h) (Or.inl ⟨by rfl, by intro w hSw; go_simp⟩) (hS7) ?_
                  try simp only [Act.put, List.setIfInBounds_toArray, List.set_cons_zero, List.set_cons_succ]
                  refine wpAnyH_done (by kernel_rfl) ?_ _
                  go_wp2_with (fail)
                  go_meet
                  refine ⟨W0.heap.size, a5, c5, rfl, rfl, setRow_heap _ _ _ _ _ _ X6, ⟨O6.lst.of_block fun g off e => setRow_other _ _ _ _ (by have := O5.new g off e; simp at this; omega), fun g off e => Nat.le_trans hs9 (by have := O6.new g off e; simp at this; omega)⟩, hS7, Nat.le_refl _⟩
              case rest =>
                obtain ⟨k, a5, c5, rfl, rfl, XK, OK, bK, hk⟩ := hcut
                have SK := S9.later bK
                have TK := T9.below bK
                have HO40 : Hid (x1.ls.length * 40 ≤ 140737488355328) := by show _ ≤ _; have := HG1.out.few; omega
                have ⟨d0, d1, d2, d3, d4, d5⟩ := cel6 XK
                clear kx RX KM1
                go_wp2_with (first
                  | (go_at_call 30; refine (KR2 _ _ _ (OK.rd HO40.out)).mono ?_; rintro e w11 ⟨rfl, b11⟩; clear KR2; have XL := (Below.heap_alloc w11 (.cells #[.int .i64 nv, .int .i64 np, .int .i64 nf] 42) _ (row_lt ((b11.block _ (row_lt XK)).trans XK))).trans ((b11.block _ (row_lt XK)).trans XK); have SL := (SK.later b11).later ((Below.refl _ _).alloc (Nat.le_refl _) (.cells #[.int .i64 nv, .int .i64 np, .int .i64 nf] 42)); have OL := (OK.below b11).below ((Below.refl _ _).alloc (Nat.le_refl _) (.cells #[.int .i64 nv, .int .i64 np, .int .i64 nf] 42)); have TL := (TK.below b11).alloc (.cells #[.int .i64 nv, .int .i64 np, .int .i64 nf] 42); have TN := Tri.new w11 (.int .i64 nv) (.int .i64 np) (.int .i64 nf) 42; obtain ⟨e0, e1, e2, e3, e4, e5, ez⟩ := _root_.id TL; clear d0 d1 d2 d3 d4 d5)
                  | ((with_reducible show wpList _ _ _ (Oper.mk _ (Op.binOp .neq 42 _ _ 42) _ _ _ _ :: _) _ _); refine wpList_yield rfl _ (exec_neq42 rfl nv np nf wv wp wf rfl rfl _) ?_; rw [g3]; clear g3)
                  | (go_at_call 39; refine (rnewer_any nv np nf wv wp wf _).mono ?_; rw [g4]; rintro e w12 ⟨rfl, b12⟩; clear g4; have XM := (b12.block _ (row_lt XL)).trans XL; have SM := SL.later b12; have OM := OL.below b12))
                obtain ⟨W1, hW1⟩ : ∃ W1, w12 = W1 := ⟨_, rfl⟩
                have XW := XM
                have SW := SM
                have OW := OM
                rw [hW1] at XW SW OW ⊢
                clear hW1
                have hs91 := SW.bx.size
                have hrr1 := range_later hr00 hlg SW.bx.below
                have hlg1 : lg < W1.heap.size := Nat.lt_of_lt_of_le hlg SW.bx.below.size
                have kx : ∀ X, Below W1.heap.size W1 X → Cel6 X k (.int .i64 x1.peer) (.int .i64 x1.boot) (.int .i64 x1.life) (.slice a5 x1.ls.length c5) (.bool x1.pend) (.int .i64 x1.miss) := fun X q => cel6 ((q.block _ (row_lt XW)).trans XW)
                have RX : RdO W1.drew x1 a5 c5 := (OW.of_blocks (W' := W1.drew) fun _ _ _ => rfl).rd HO40.out
                go_cut [16, 17] (fun p16 cc wx => cc = .bool false ∧ Below W1.heap.size W1 wx)
                case first =>
                  refine wp_region_any (by kernel_rfl) ?_
                  change wpAny _ _ _ _ _ _ _ (World.drew _)
                  refine wpAny_narrow (fun W' => Below W1.heap.size W1 W') _ _ _ _ ?_
                  refine anyH_take 0 104 (.int .i64 id) rfl rfl (by kernel_rfl) (by kernel_rfl) (by kernel_rfl) (fun _ _ _ h => h) (Or.inl ⟨by rfl, by intro w hSw; go_simp⟩) ((Below.refl _ _).drew) ?_
                  try simp only [Act.put, List.setIfInBounds_toArray, List.set_cons_zero, List.set_cons_succ]
                  refine anyH_take 1 105 (.agg #[.int .i64 x1.peer, .int .i64 x1.boot, .int .i64 x1.life, .slice a5 x1.ls.length c5, .bool x1.pend, .int .i64 x1.miss]) rfl rfl (by kernel_rfl) (by kernel_rfl) (by kernel_rfl) (fun _ _ _ h => h) (Or.inl ⟨by rfl, by intro w hSw; have ⟨k0, k1, k2, k3, k4, k5⟩ := kx _ hSw; go_simp⟩) ((Below.refl _ _).drew) ?_
                  try simp only [Act.put, List.setIfInBounds_toArray, List.set_cons_zero, List.set_cons_succ]
                  refine anyH_take 2 106 (.string name) rfl rfl (by kernel_rfl) (by kernel_rfl) (by kernel_rfl) (fun _ _ _ h => h) (Or.inl ⟨by rfl, by intro w hSw; go_simp⟩) ((Below.refl _ _).drew) ?_
                  try simp only [Act.put, List.setIfInBounds_toArray, List.set_cons_zero, List.set_cons_succ]
                  refine anyH_take 3 107 (.slice (some ⟨lg, lo, none⟩) n lc) rfl rfl (by kernel_rfl) (by kernel_rfl) (by kernel_rfl) (fun _ _ _ h => h) (Or.inl ⟨by rfl, by intro w hSw; go_simp⟩) ((Below.refl _ _).drew) ?_
                  try simp only [Act.put, List.setIfInBounds_toArray, List.set_cons_zero, List.set_cons_succ]
                  refine anyH_take 4 108 (.int .i64 (i : Int)) rfl rfl (by kernel_rfl) (by kernel_rfl) (by kernel_rfl) (fun _ _ _ h => h) (Or.inl ⟨by rfl, by intro w hSw; go_simp⟩) ((Below.refl _ _).drew) ?_
                  try simp only [Act.put, List.setIfInBounds_toArray, List.set_cons_zero, List.set_cons_succ]
                  refine anyH_take 5 109 (.pointer (some ⟨lg, lo + i * 3, none⟩)) rfl rfl (by kernel_rfl) (by kernel_rfl) (by kernel_rfl) (fun _ _ _ h => h) (Or.inl ⟨by rfl, by intro w hSw; go_simp⟩) ((Below.refl _ _).drew) ?_
                  try simp only [Act.put, List.setIfInBounds_toArray, List.set_cons_zero, List.set_cons_succ]
                  refine anyH_take 6 110 (rg v p f) rfl rfl (by kernel_rfl) (by kernel_rfl) (by kernel_rfl) (fun _ _ _ h => h) (Or.inl ⟨by rfl, fun X hSw => exec_load42m rfl lg (lo + i * 3) v p f rfl X (range_later hrr1 hlg1 hSw)⟩) ((Below.refl _ _).drew) ?_
                  try simp only [Act.put, List.setIfInBounds_toArray, List.set_cons_zero, List.set_cons_succ]
                  refine wpAnyH_ready (rs := [7, 11]) (by kernel_rfl) (by simp) ?_
                  refine AllReadyH.cons rfl (fun K hK => ?_) (AllReadyH.cons rfl (fun K hK => ?_) AllReadyH.nil)
                  · replace hK : Shut _ := hK
                    go_simp
                    go_wp2_with (go_at_call 34; refine (KM2 _ _ _ RX).mono ?_; rintro e w5m ⟨a6, c6, rfl, O5, b5⟩)
                    refine hK.out _ _ ((Below.refl _ _).drew.trans b5) (fun hS => ?_)
                    clear hK
                    refine anyH_take 8 103 (.tuple #[.agg #[.int .i64 x2.peer, .int .i64 x2.boot, .int .i64 x2.life, .slice a6 x2.ls.length c6, .bool x2.pend, .int .i64 x2.miss], .bool false]) rfl rfl (by kernel_rfl) (by kernel_rfl) (by kernel_rfl) (fun _ _ _ h => h) (Or.inl ⟨by rfl, by intro w hSw; go_simp⟩) (hS) ?_
                    try simp only [Act.put, List.setIfInBounds_toArray, List.set_cons_zero, List.set_cons_succ]
                    refine anyH_take 9 112 (.agg #[.int .i64 x2.peer, .int .i64 x2.boot, .int .i64 x2.life, .slice a6 x2.ls.length c6, .bool x2.pend, .int .i64 x2.miss]) rfl rfl (by kernel_rfl) (by kernel_rfl) (by kernel_rfl) (fun _ _ _ h => h) (Or.inl ⟨by rfl, by intro w hSw; go_simp⟩) (hS) ?_
                    try simp only [Act.put, List.setIfInBounds_toArray, List.set_cons_zero, List.set_cons_succ]
                    refine anyH_take 10 113 (.bool false) rfl rfl (by kernel_rfl) (by kernel_rfl) (by kernel_rfl) (fun _ _ _ h => h) (Or.inl ⟨by rfl, by intro w hSw; go_simp⟩) (hS) ?_
                    try simp only [Act.put, List.setIfInBounds_toArray, List.set_cons_zero, List.set_cons_succ]
                    refine wpAnyH_ready (rs := [11]) (by kernel_rfl) (by simp) ?_
                    refine AllReadyH.cons rfl (fun K hK => ?_) AllReadyH.nil
                    replace hK : Shut _ := hK
                    go_simp
                    go_wp2
                    refine hK.out _ _ (hS.alloc hS.size _) (fun hS6 => ?_)
                    clear hK
                    have X6 := World.alloc_heap_new w5m (.cells z6 24)
                    have O6 := O5.below ((Below.refl _ _).alloc (Nat.le_refl _) (.cells z6 24))
                    refine wpAnyH_ready (rs := [12]) (by kernel_rfl) (by simp) ?_
                    refine AllReadyH.cons rfl (fun K hK => ?_) AllReadyH.nil
                    refine wp_store24row _ _ rfl (x2.on a6 c6) X6 rfl rfl rfl ?_
                    refine hK.out _ _ ((Only.setRow (C := none_) (Only.of_below hS6) (fun k => absurd k (by have := hS.size; omega)) _).calm) (fun hS7 => ?_)
                    clear hK
                    try simp only [Act.put, List.setIfInBounds_toArray, List.set_cons_zero, List.set_cons_succ]
                    refine anyH_take 13 17 (.bool false) rfl rfl (by kernel_rfl) (by kernel_rfl) (by kernel_rfl) (fun _ _ _ h => h) (Or.inl ⟨by rfl, by intro w hSw; go_simp⟩) (hS7) ?_
                    try simp only [Act.put, List.setIfInBounds_toArray, List.set_cons_zero, List.set_cons_succ]
                    refine wpAnyH_done (by kernel_rfl) ?_ _
                    go_wp2_with (fail)
                    go_meet
                    exact ⟨rfl, hS7⟩
                  · replace hK : Shut _ := hK
                    go_simp
                    go_wp2
                    refine hK.out _ _ ((Below.refl _ _).drew.alloc (Nat.le_refl _) _) (fun hS => ?_)
                    clear hK
                    refine wpAnyH_ready (rs := [7]) (by kernel_rfl) (by simp) ?_
                    refine AllReadyH.cons rfl (fun K hK => ?_) AllReadyH.nil
                    replace hK : Shut _ := hK
                    go_simp
                    go_wp2_with (go_at_call 34; refine (KM2 _ _ _ (RdL.below RX ((Below.refl _ _).alloc (Nat.le_refl _) _))).mono ?_; rintro e w5m ⟨a6, c6, rfl, O5, b5⟩)
                    refine hK.out _ _ (hS.trans (b5.mono hS.size)) (fun hS6 => ?_)
                    clear hK
                    refine anyH_take 8 103 (.tuple #[.agg #[.int .i64 x2.peer, .int .i64 x2.boot, .int .i64 x2.life, .slice a6 x2.ls.length c6, .bool x2.pend, .int .i64 x2.miss], .bool false]) rfl rfl (by kernel_rfl) (by kernel_rfl) (by kernel_rfl) (fun _ _ _ h => h) (Or.inl ⟨by rfl, by intro w hSw; go_simp⟩) (hS6) ?_
                    try simp only [Act.put, List.setIfInBounds_toArray, List.set_cons_zero, List.set_cons_succ]
                    refine anyH_take 9 112 (.agg #[.int .i64 x2.peer, .int .i64 x2.boot, .int .i64 x2.life, .slice a6 x2.ls.length c6, .bool x2.pend, .int .i64 x2.miss]) rfl rfl (by kernel_rfl) (by kernel_rfl) (by kernel_rfl) (fun _ _ _ h => h) (Or.inl ⟨by rfl, by intro w hSw; go_simp⟩) (hS6) ?_
                    try simp only [Act.put, List.setIfInBounds_toArray, List.set_cons_zero, List.set_cons_succ]
                    refine anyH_take 10 113 (.bool false) rfl rfl (by kernel_rfl) (by kernel_rfl) (by kernel_rfl) (fun _ _ _ h => h) (Or.inl ⟨by rfl, by intro w hSw; go_simp⟩) (hS6) ?_
                    try simp only [Act.put, List.setIfInBounds_toArray, List.set_cons_zero, List.set_cons_succ]
                    have X6 := (b5.block _ (by simp)).trans (World.alloc_heap_new W1.drew (.cells z6 24))
                    have O6 := O5
                    refine wpAnyH_ready (rs := [12]) (by kernel_rfl) (by simp) ?_
                    refine AllReadyH.cons rfl (fun K hK => ?_) AllReadyH.nil
                    refine wp_store24row _ _ rfl (x2.on a6 c6) X6 rfl rfl rfl ?_
                    refine hK.out _ _ ((Only.setRow (C := none_) (Only.of_below hS6) (fun k => absurd k (by exact Nat.lt_irrefl _)) _).calm) (fun hS7 => ?_)
                    clear hK
                    try simp only [Act.put, List.setIfInBounds_toArray, List.set_cons_zero, List.set_cons_succ]
                    refine anyH_take 13 17 (.bool false) rfl rfl (by kernel_rfl) (by kernel_rfl) (by kernel_rfl) (fun _ _ _ h => h) (Or.inl ⟨by rfl, by intro w hSw; go_simp⟩) (hS7) ?_
                    try simp only [Act.put, List.setIfInBounds_toArray, List.set_cons_zero, List.set_cons_succ]
                    refine wpAnyH_done (by kernel_rfl) ?_ _
                    go_wp2_with (fail)
                    go_meet
                    exact ⟨rfl, hS7⟩
                case rest =>
                  obtain ⟨rfl, bV⟩ := hcut
                  have XV := (bV.block _ (row_lt XW)).trans XW
                  have SV := SW.later bV
                  have OV := OW.below bV
                  have ⟨d0, d1, d2, d3, d4, d5⟩ := cel6 XV
                  have XB := SV.cur
                  clear kx RX KM2
                  go_wp2_with ((with_reducible show wpList _ _ _ (Oper.mk _ (Op.store 24 _ _) _ _ _ _ :: _) _ _); refine wpList_store24row rfl _ _ rfl (x1.on a5 c5) XB rfl rfl rfl ?_)
                  go_roundg (gk - 1)
                  case measure => omega
                  case rel => exact ⟨i + 1, x1, a5, c5, (ms ++ [⟨v, p, f⟩]), by first | rfl | go_num, by omega, by have := HMS.out; simp; try omega, SV.put OV, HG1.out⟩
      case neg =>
        have hiI : ¬ (i : Int) < (n : Int) := by omega
        obtain ⟨am, cm, rfl, LM, _⟩ := own_lstR S.row rfl
        have RM := rgs_of LM (by have := HNN.out; have := HMS.out; omega)
        have KQ := rmost_any am ms.length cm ms wr RM
        have KR : ∀ W, RdO W x ax cx → Calls Try.prog 30 #[.agg #[.int .i64 x.peer, .int .i64 x.boot, .int .i64 x.life, .slice ax x.ls.length cx, .bool x.pend, .int .i64 x.miss], .string name] W fun e w' => e = .returned (rg (regN name x.ls).v (regN name x.ls).p (regN name x.ls).f) ∧ Below W.heap.size W w' := fun W k => reg_any x ax cx name W k
        have HX40 : Hid (x.ls.length * 40 ≤ 140737488355328) := by show _ ≤ _; have := G.few; omega
        obtain ⟨hv, hp⟩ := G.done
        obtain ⟨⟨mv, mp, mf⟩, hm⟩ : ∃ y, mof ms = y := ⟨_, rfl⟩
        obtain ⟨⟨wn, wv, wp, wf⟩, hw⟩ : ∃ y, regN name x.ls = y := ⟨_, rfl⟩
        simp only [hw] at KR hv hp
        simp only [hm] at KQ hv hp
        subst hv
        subst hp
        clear hm hw G RM LM
        go_wp2_with (first
          | (go_at_call 40; refine KQ.mono ?_; rintro e w1 ⟨rfl, b1⟩; clear KQ; have S1 := (S.later b1).later ((Below.refl _ _).alloc (Nat.le_refl _) (.cells #[.int .i64 wv, .int .i64 wp, .int .i64 mf] 42)); have T1 := Tri.new w1 (.int .i64 wv) (.int .i64 wp) (.int .i64 mf) 42; have ⟨p0, p1, p2, p3, p4, p5⟩ := cel6 S1.cur)
          | (go_at_call 30; refine (KR _ (S1.own.rd HX40.out)).mono ?_; rintro e w2 ⟨rfl, b2⟩; clear KR; have S2 := (S1.later b2).later ((Below.refl _ _).alloc (Nat.le_refl _) (.cells #[.int .i64 wv, .int .i64 wp, .int .i64 wf] 42)); have T2 := (T1.below b2).alloc (.cells #[.int .i64 wv, .int .i64 wp, .int .i64 wf] 42); have T3 := Tri.new w2 (.int .i64 wv) (.int .i64 wp) (.int .i64 wf) 42; obtain ⟨t0, t1, t2, u0, u1, u2, tz⟩ := _root_.id T2)
          | (go_at_call 15; refine (awake_any _).mono ?_; rintro e w9 ⟨rfl, b9⟩))
        go_ret
        exact ⟨rfl, (S2.later b9).bx.below⟩
end Go.Proofs.Ytacefkchhcpgaaa
