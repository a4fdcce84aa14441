/-
  The law ShakeSees.
-/
import Derived.Test.YteoiogjaecpddaaSC
namespace Go.Proofs.Yteoiogjaecpddaa
open Go.ChangeShapes Go.WideShapes Go.ChangeAt Go.RowKit
set_option linter.unusedVariables false
set_option linter.unusedSimpArgs false

/-- A list that may be written over. -/
def Spo (W : World) (a : Option Addr) (n : Nat) : Prop := n = 0 ∨ ∃ g off cur, a = some ⟨g, off, none⟩ ∧ W.heap[g]? = some (.cells cur 33 (0, 0)) ∧ off + 4 * n ≤ cur.size
theorem LstS.spo {W : World} {a : Option Addr} {n cap : Nat} {ds : List SN} (h : LstS W a n cap ds) : Spo W a n := by
  have hle := h.le
  rcases h.mem with ⟨_, h0⟩ | ⟨g, off, cur, e, hh, hc, _⟩
  · exact .inl (by omega)
  · exact .inr ⟨g, off, cur, e, hh, by omega⟩
theorem Spo.below {W W' : World} {a : Option Addr} {n : Nat} (h : Spo W a n) (b : Below W.heap.size W W') : Spo W' a n :=
  h.imp id fun ⟨g, off, cur, e, hh, r⟩ => ⟨g, off, cur, e, (b.block g (row_lt hh)).trans hh, r⟩
theorem Spo.set {W : World} {g off n : Nat} (h : Spo W (some ⟨g, off, none⟩) n) (k : Nat) (v : Value) : Spo (W.setCell ⟨g, k, none⟩ v) (some ⟨g, off, none⟩) n := by
  rcases h with h | ⟨g', off', cur, e, hh, r⟩
  · exact .inl h
  · cases e
    exact .inr ⟨g, off, _, rfl, set_row hh k v, by simpa using r⟩
theorem Spo.far {W : World} {a : Option Addr} {n q : Nat} (h : Spo W a n) (hq : ∀ g off, a = some ⟨g, off, none⟩ → g ≠ q) (k : Nat) (v : Value) : Spo (W.setCell ⟨q, k, none⟩ v) a n :=
  h.imp id fun ⟨g, off, cur, e, hh, r⟩ => ⟨g, off, cur, e, set_far hh (hq g off e) k v, r⟩
theorem Spo.at {W : World} {a : Option Addr} {n : Nat} (h : Spo W a n) (i : Nat) (hi : i < n) : ∃ g off v, a = some ⟨g, off, none⟩ ∧ W.cell? ⟨g, off + i * 4 + 3, none⟩ = some v ∧ W.frozen? ⟨g, off + i * 4 + 3, none⟩ = false := by
  rcases h with h | ⟨g, off, cur, e, hh, r⟩
  · omega
  · exact ⟨g, off, cur[off + i * 4 + 3]'(by omega), e, row_cell hh _ _ (by rw [Array.getElem?_eq_getElem]), row_free hh _⟩
set_option maxRecDepth 100000 in
set_option maxHeartbeats 16000000 in
theorem sees_no (idn : Int) (a : Option Addr) (n cap : Nat) (l : List SN) (peer boot life : Int) (w : World) (hr : RdS w a n cap l) (hno : ¬ (fitS idn l = true ∧ nodeB peer = true ∧ peer ≠ idn ∧ inB 1 boot 1099511627776 = true ∧ inB 0 life 1099511627776 = true)) : Calls Try.prog 4 #[.int .i64 idn, .slice a n cap, .int .i64 peer, .int .i64 boot, .int .i64 life] w fun e w' => e = .returned (.bool true) ∧ Below w.heap.size w w' := by
  have K1 := dfit_any_ idn a n cap l w hr
  obtain ⟨f, hf⟩ : ∃ f, fitS idn l = f := ⟨_, rfl⟩
  rw [hf] at K1 hno
  clear hf hr
  cases f with
  | false =>
    clear hno
    go_enter Try.func4, Try.ntmps4
    go_wp2_with (first | (go_at_call 10; refine K1.mono ?_; rintro e w1 ⟨rfl, b1⟩; clear K1) | (go_at_call 14; refine (knode_any _ _).mono ?_; rintro e wx ⟨rfl, hw⟩; rw [hw]; clear hw wx) | (go_at_call 15; refine (kwithin_any _ _ _ _).mono ?_; rintro e wx ⟨rfl, hw⟩; rw [hw]; clear hw wx) | (go_at_call 13; refine (awake_any _).mono ?_; rintro e w9 ⟨rfl, b9⟩))
    go_ret
    exact ⟨rfl, b1.trans (b9.mono b1.size)⟩
  | true =>
    cases hnd : nodeB peer with
    | false =>
      clear hno
      go_enter Try.func4, Try.ntmps4
      go_wp2_with (first | (go_at_call 10; refine K1.mono ?_; rintro e w1 ⟨rfl, b1⟩; clear K1) | (go_at_call 14; refine (knode_any _ _).mono ?_; rintro e wx ⟨rfl, hw⟩; rw [hw]; clear hw wx) | (go_at_call 15; refine (kwithin_any _ _ _ _).mono ?_; rintro e wx ⟨rfl, hw⟩; rw [hw]; clear hw wx) | (go_at_call 13; refine (awake_any _).mono ?_; rintro e w9 ⟨rfl, b9⟩))
      go_ret
      exact ⟨rfl, b1.trans (b9.mono b1.size)⟩
    | true =>
      by_cases he : peer = idn
      · have heb : (peer == idn) = true := by simpa using he
        clear he hno
        go_enter Try.func4, Try.ntmps4
        go_wp2_with (first | (go_at_call 10; refine K1.mono ?_; rintro e w1 ⟨rfl, b1⟩; clear K1) | (go_at_call 14; refine (knode_any _ _).mono ?_; rintro e wx ⟨rfl, hw⟩; rw [hw]; clear hw wx) | (go_at_call 15; refine (kwithin_any _ _ _ _).mono ?_; rintro e wx ⟨rfl, hw⟩; rw [hw]; clear hw wx) | (go_at_call 13; refine (awake_any _).mono ?_; rintro e w9 ⟨rfl, b9⟩))
        go_ret
        exact ⟨rfl, b1.trans (b9.mono b1.size)⟩
      · have heb : (peer == idn) = false := by simpa using he
        cases hb : inB 1 boot 1099511627776 with
        | false =>
          clear he hno
          go_enter Try.func4, Try.ntmps4
          go_wp2_with (first | (go_at_call 10; refine K1.mono ?_; rintro e w1 ⟨rfl, b1⟩; clear K1) | (go_at_call 14; refine (knode_any _ _).mono ?_; rintro e wx ⟨rfl, hw⟩; rw [hw]; clear hw wx) | (go_at_call 15; refine (kwithin_any _ _ _ _).mono ?_; rintro e wx ⟨rfl, hw⟩; rw [hw]; clear hw wx) | (go_at_call 13; refine (awake_any _).mono ?_; rintro e w9 ⟨rfl, b9⟩))
          go_ret
          exact ⟨rfl, b1.trans (b9.mono b1.size)⟩
        | true =>
          cases hl : inB 0 life 1099511627776 with
          | false =>
            clear he hno
            go_enter Try.func4, Try.ntmps4
            go_wp2_with (first | (go_at_call 10; refine K1.mono ?_; rintro e w1 ⟨rfl, b1⟩; clear K1) | (go_at_call 14; refine (knode_any _ _).mono ?_; rintro e wx ⟨rfl, hw⟩; rw [hw]; clear hw wx) | (go_at_call 15; refine (kwithin_any _ _ _ _).mono ?_; rintro e wx ⟨rfl, hw⟩; rw [hw]; clear hw wx) | (go_at_call 13; refine (awake_any _).mono ?_; rintro e w9 ⟨rfl, b9⟩))
            go_ret
            exact ⟨rfl, b1.trans (b9.mono b1.size)⟩
          | true => exact absurd ⟨rfl, hnd, he, hb, hl⟩ hno
set_option maxRecDepth 100000 in
set_option maxHeartbeats 16000000 in
theorem sees_walk (idn : Int) (a : Option Addr) (n cap : Nat) (l : List SN) (peer boot life : Int) (w : World) (hr : RdS w a n cap l) : Calls Try.prog 4 #[.int .i64 idn, .slice a n cap, .int .i64 peer, .int .i64 boot, .int .i64 life] w fun e w' => e = .returned (.bool true) ∧ Below w.heap.size w w' := by
  by_cases hall : fitS idn l = true ∧ nodeB peer = true ∧ peer ≠ idn ∧ inB 1 boot 1099511627776 = true ∧ inB 0 life 1099511627776 = true
  case neg => exact sees_no idn a n cap l peer boot life w hr hall
  obtain ⟨hf, hnd, hne, hbt, hlf⟩ := hall
  have F := fit_iff.1 hf
  have HNP : Hid (0 ≤ peer ∧ peer < 16) := by show _ ∧ _; exact of_decide_eq_true hnd
  have HBT : Hid (1 ≤ boot ∧ boot ≤ 1099511627776) := by show _ ∧ _; exact of_decide_eq_true hbt
  have HLF : Hid (0 ≤ life ∧ life ≤ 1099511627776) := by show _ ∧ _; exact of_decide_eq_true hlf
  have hneb : (peer == idn) = false := by simpa using hne
  have hsm : l.length ≤ 16 := fit_len F
  have hls : (seeL peer boot life l).length ≤ 17 := by unfold seeL; split; exact Nat.le_trans (ins_len _ _) (by omega); omega
  have hld : (drpL peer l).length ≤ 17 := Nat.le_trans (ins_len _ _) (by omega)
  have hfs : fitS idn (seeL peer boot life l) = true := fit_iff.2 (fit_see F HNP.out hne HBT.out HLF.out)
  have hfd : fitS idn (drpL peer l) = true := fit_iff.2 (fit_drp F HNP.out hne)
  have hn : n ≤ 16 := by rw [← hr.size]; exact hsm
  have HN : Hid (n ≤ 16) := hn
  -- contracts
  have K1 := dfit_any_ idn a n cap l w hr
  rw [hf] at K1
  have K2 := fun W (h : Below w.heap.size w W) => scopied_any a n cap l W (hr.below h)
  have KS := fun a2 c2 W (L : LstS W a2 n c2 l) => see_any idn peer boot life a2 n c2 l W (L.rd (by omega)) F HBT.out.1
  have KD := fun a2 c2 W (L : RdS W a2 n c2 l) => drp_any idn peer a2 n c2 l W L F
  have KG := fun a2 c2 W (L : RdS W a2 n c2 l) => get_any a2 n c2 l peer W L
  have KGr := fun W (h : Below w.heap.size w W) => rget_any a n cap l peer W (hr.below h) F.2.1
  have KSr := fun W (h : Below w.heap.size w W) => rsee_any idn peer boot life a n cap l W (hr.below h) F HBT.out.1
  have KDr := fun W (h : Below w.heap.size w W) => rdrp_any idn peer a n cap l W (hr.below h) F
  have KX := fun a2 c2 W (L : RdS W a2 n c2 l) (h : Below w.heap.size w W) => rsame_any a2 a n c2 cap l W L (hr.below h)
  have KF := fun a2 c2 W (L : RdS W a2 (seeL peer boot life l).length c2 (seeL peer boot life l)) => dfit_any_ idn a2 _ c2 _ W L
  have KFd := fun a2 c2 W (L : RdS W a2 (drpL peer l).length c2 (drpL peer l)) => dfit_any_ idn a2 _ c2 _ W L
  obtain ⟨SL, hSL⟩ : ∃ s, seeL peer boot life l = s := ⟨_, rfl⟩
  obtain ⟨DL, hDL⟩ : ∃ s, drpL peer l = s := ⟨_, rfl⟩
  rw [hSL] at hls hfs
  rw [hDL] at hld hfd
  simp only [hSL, hfs] at KS KSr KF
  simp only [hDL, hfd] at KD KDr KFd
  obtain ⟨⟨s0, s1, s2, s3⟩, hs⟩ : ∃ s, getL peer l = s := ⟨_, rfl⟩
  simp only [hs, SN.val] at KG KGr
  have HLS : Hid (SL.length ≤ 17) := hls
  have HLD : Hid (DL.length ≤ 17) := hld
  clear hs hSL hDL hf hne hsm hls hld hfs hfd hn F hr
  go_enter Try.func4, Try.ntmps4
  go_wp2_with (first
    | (go_at_call 10; refine K1.mono ?_; rintro e w1 ⟨rfl, b1⟩; clear K1)
    | (go_at_call 14; refine (knode_any _ _).mono ?_; rintro e wx ⟨rfl, hw⟩; rw [hw]; clear hw wx)
    | (go_at_call 15; refine (kwithin_any _ _ _ _).mono ?_; rintro e wx ⟨rfl, hw⟩; rw [hw]; clear hw wx)
    | (go_at_call 16; refine (K2 _ b1).mono ?_; rintro e w2 ⟨a2, c2, rfl, L2, f2, b2⟩; clear K2; have B2 := b1.trans (b2.mono b1.size); have R2 := L2.rd (by have := HN.out; omega))
    | (go_at_call 17; refine (KS a2 c2 w2 L2).mono ?_; rintro e w3 ⟨a3, c3, rfl, L3, f3, b3⟩; clear KS; have B3 := B2.trans (b3.mono B2.size); have R3 := L3.rd (by have := HLS.out; omega))
    | (go_at_call 18; refine (KD a2 c2 w3 (R2.below b3)).mono ?_; rintro e w4 ⟨a4, c4, rfl, L4, f4, b4⟩; clear KD; have B4 := B3.trans (b4.mono B3.size); have R4 := L4.rd (by have := HLD.out; omega); have b24 := b3.trans (b4.mono b3.size))
    | (go_at_call 19; refine (KG a2 c2 w4 (R2.below b24)).mono ?_; rintro e w5 ⟨rfl, b5⟩; clear KG; have B5 := B4.trans (b5.mono B4.size))
    | (go_at_call 20; refine (KGr _ B5).mono ?_; rintro e w6 ⟨rfl, b6⟩; clear KGr; have B6 := B5.trans (b6.mono B5.size))
    | ((with_reducible show wpList _ _ _ (Oper.mk _ (Op.binOp .neq 33 _ _ 33) _ _ _ _ :: _) _ _); refine wpList_neq33 (by rfl) rfl s0 s1 s2 s3 s0 s1 s2 s3 rfl rfl ?_; rw [same33_self, Bool.not_true])
    | (go_at_call 22; refine (KSr _ B6).mono ?_; rintro e w7 ⟨a7, c7, rfl, L7, f7, b7⟩; clear KSr; have B7 := B6.trans (b7.mono B6.size); have R7 := L7.rd (by have := HLS.out; omega); have b47 := (b5.trans (b6.mono b5.size)).trans (b7.mono (Nat.le_trans b5.size b6.size)); have b37 := b4.trans (b47.mono b4.size); have KY := rsame_any a3 a7 _ c3 c7 SL w7 (R3.below b37) R7)
    | (go_at_call 21; refine KY.mono ?_; rintro e w8 ⟨rfl, b8⟩; clear KY; have B8 := B7.trans (b8.mono B7.size); have b48 := b47.trans (b8.mono b47.size); have b38 := b37.trans (b8.mono b37.size))
    | (go_at_call 23; refine (KDr _ B8).mono ?_; rintro e w9 ⟨a9, c9, rfl, L9, f9, b9⟩; clear KDr; have B9 := B8.trans (b9.mono B8.size); have R9 := L9.rd (by have := HLD.out; omega); have b49 := b48.trans (b9.mono b48.size); have b39 := b38.trans (b9.mono b38.size); have KZ := rsame_any a4 a9 _ c4 c9 DL w9 (R4.below b49) R9)
    | (go_at_call 21; refine KZ.mono ?_; rintro e w10 ⟨rfl, b10⟩; clear KZ; have B10 := B9.trans (b10.mono B9.size); have b410 := b49.trans (b10.mono b49.size); have b310 := b39.trans (b10.mono b39.size); have KF1 := KF a3 c3 w10 (R3.below b310))
    | (go_at_call 10; refine KF1.mono ?_; rintro e w11 ⟨rfl, b11⟩; clear KF1; have B11 := B10.trans (b11.mono B10.size); have b411 := b410.trans (b11.mono b410.size); have b311 := b310.trans (b11.mono b310.size); have KF2 := KFd a4 c4 w11 (R4.below b411))
    | (go_at_call 10; refine KF2.mono ?_; rintro e w12 ⟨rfl, b12⟩; clear KF2)
    | fail)
  have B12 := B11.trans (b12.mono B11.size)
  have b412 := b411.trans (b12.mono b411.size)
  have b312 := b311.trans (b12.mono b311.size)
  have b212 := b24.trans (b412.mono b24.size)
  have S3 : Spo w12 a3 SL.length := L3.spo.below b312
  have S4 : Spo w12 a4 DL.length := L4.spo.below b412
  have HF3 : Hid (∀ g off, a3 = some ⟨g, off, none⟩ → w2.heap.size ≤ g ∧ ∀ h off', a4 = some ⟨h, off', none⟩ → h ≠ g) := fun g off e => ⟨f3 g off e, fun h off' e' => by have h1 := f4 h off' e'; have h2 : g < w3.heap.size := L3.lt' e; omega⟩
  have HF4 : Hid (∀ g off, a4 = some ⟨g, off, none⟩ → w2.heap.size ≤ g) := fun g off e => Nat.le_trans b3.size (f4 g off e)
  have HB2 : Hid (Below w.heap.size w w2) := B2
  have KXX := fun W (h : Below w2.heap.size w2 W) => KX a2 c2 W (R2.below h) (B2.trans (h.mono B2.size))
  clear b24 b47 b37 b48 b38 b49 b39 b410 b310 b411 b311 b412 b312 B3 B4 B5 B6 B7 B8 B9 B10 B11 B12 b1 b2 b3 b4 b5 b6 b7 b8 b9 b10 b11 b12 R2 R3 R4 R7 R9 L2 L3 L4 L7 L9 f2 f3 f4 f7 f9 KX KF KFd B2
  go_loopg [14] SL.length (fun gk v14 wr => ∃ i : Nat, v14 = .int .i64 (i : Int) ∧ i + gk = SL.length ∧ Below w2.heap.size w2 wr ∧ Spo wr a3 SL.length ∧ Spo wr a4 DL.length)
  case atStart => exact ⟨0, by first | rfl | go_num, by omega, b212, S3, S4⟩
  case round =>
    obtain ⟨i, rfl, hgk, B, P3, P4⟩ := hrel
    by_cases hi : i < SL.length
    case pos =>
      have HI : Hid (i < SL.length) := hi
      have HGK : Hid (i + gk = SL.length) := hgk
      have hiI : (i : Int) < (SL.length : Int) := by omega
      have hwr : IntKind.i64.wrap ((i : Int) + 1) = (i : Int) + 1 := by rw [IntKind.wrap_i64]; have := HLS.out; omega
      obtain ⟨g, off, v, rfl, hc, hfz⟩ := P3.at i hi
      have ⟨hg1, hg2⟩ := HF3.out g off rfl
      have HQ : Hid (Below w2.heap.size w2 (wr.setCell ⟨g, off + i * 4 + 3, none⟩ (.int .i64 77)) ∧ Spo (wr.setCell ⟨g, off + i * 4 + 3, none⟩ (.int .i64 77)) (some ⟨g, off, none⟩) SL.length ∧ Spo (wr.setCell ⟨g, off + i * 4 + 3, none⟩ (.int .i64 77)) a4 DL.length) := ⟨B.setCell (p := ⟨g, off + i * 4 + 3, none⟩) hg1 _, P3.set _ _, P4.far (fun h off' e => hg2 h off' e) _ _⟩
      clear hi hgk hg1 hg2 B P3 P4 S3 S4
      go_wp2
      go_roundg (gk - 1)
      case measure => have := HGK.out; have := HI.out; omega
      case rel => exact ⟨i + 1, by first | rfl | go_num, by have := HGK.out; have := HI.out; omega, HQ.out⟩
    case neg =>
      have hiI : ¬ (i : Int) < (SL.length : Int) := by omega
      clear hgk P3 S3 S4 hi
      go_wp2_with (fail)
      go_loopg [15] DL.length (fun gk v15 wr => ∃ i : Nat, v15 = .int .i64 (i : Int) ∧ i + gk = DL.length ∧ Below w2.heap.size w2 wr ∧ Spo wr a4 DL.length)
      case atStart => exact ⟨0, by first | rfl | go_num, by omega, B, P4⟩
      case round =>
        obtain ⟨j, rfl, hgj, Bj, Q4⟩ := hrel
        clear B P4
        by_cases hj : j < DL.length
        case pos =>
          have HI : Hid (j < DL.length) := hj
          have HGK : Hid (j + gk = DL.length) := hgj
          have hjI : (j : Int) < (DL.length : Int) := by omega
          have hwr : IntKind.i64.wrap ((j : Int) + 1) = (j : Int) + 1 := by rw [IntKind.wrap_i64]; have := HLD.out; omega
          obtain ⟨g, off, v, rfl, hc, hfz⟩ := Q4.at j hj
          have hg1 := HF4.out g off rfl
          have HQ : Hid (Below w2.heap.size w2 (wr.setCell ⟨g, off + j * 4 + 3, none⟩ (.int .i64 77)) ∧ Spo (wr.setCell ⟨g, off + j * 4 + 3, none⟩ (.int .i64 77)) (some ⟨g, off, none⟩) DL.length) := ⟨Bj.setCell (p := ⟨g, off + j * 4 + 3, none⟩) hg1 _, Q4.set _ _⟩
          clear hj hgj hg1 Bj Q4
          go_wp2
          go_roundg (gk - 1)
          case measure => have := HGK.out; have := HI.out; omega
          case rel => exact ⟨j + 1, by first | rfl | go_num, by have := HGK.out; have := HI.out; omega, HQ.out⟩
        case neg =>
          have hjI : ¬ (j : Int) < (DL.length : Int) := by omega
          clear hgj Q4 hj
          go_wp2_with (first
            | (go_at_call 21; refine (KXX _ Bj).mono ?_; rintro e w15 ⟨rfl, b15⟩)
            | (go_at_call 13; refine (awake_any _).mono ?_; rintro e w16 ⟨rfl, b16⟩))
          go_ret
          exact ⟨rfl, HB2.out.trans ((Bj.trans ((b15.trans (b16.mono b15.size)).mono Bj.size)).mono HB2.out.size)⟩
end Go.Proofs.Yteoiogjaecpddaa
