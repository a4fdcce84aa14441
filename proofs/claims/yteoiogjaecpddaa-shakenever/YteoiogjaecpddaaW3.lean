/-
  The law ShakeNever.
-/
import Derived.Test.YteoiogjaecpddaaSC
import Derived.Test.YteoiogjaecpddaaQ1
import Derived.Test.YteoiogjaecpddaaMT
namespace Go.Proofs.Yteoiogjaecpddaa
open Go.ChangeShapes Go.WideShapes Go.ChangeAt Go.RowKit
set_option linter.unusedVariables false
set_option linter.unusedSimpArgs false
attribute [local go_sem] field61 field33 field33b field33c

section
variable {ops : Array Oper} {rest : List Oper} {o : Oper} {A : Act} {W : World} {Q : Exit → Act → World → Prop}
theorem wpList_load51x (hgd : o.guard = none) (x : Operand) (ho : o.op = .load 51 x) (g off : Nat) (d : Bool) (p b l : Int) (hx : A.eval x = .pointer (some ⟨g, off, none⟩)) (hc : W.rangeAt g off (TN.cells ⟨d, p, b, l⟩))
    (h : wpList Try.prog ops Q rest (A.put o.dst (.agg #[.bool d, .int .i64 p, .int .i64 b, .int .i64 l])) W) : wpList Try.prog ops Q (o :: rest) A W := wpList_load51 hgd x ho g off ⟨d, p, b, l⟩ hx hc h
end
theorem LstS.len {W : World} {a : Option Addr} {n cap : Nat} {l : List SN} (h : LstS W a n cap l) : LstS W a l.length cap l := by rw [h.size]; exact h
set_option maxRecDepth 100000 in
set_option maxHeartbeats 32000000 in
theorem never_walk (idn : Int) (a : Option Addr) (n cap : Nat) (l : List SN) (pr : Option Addr) (nr cr : Nat) (row : List TN) (w : World) (hr : RdS w a n cap l) (ht : RdT w pr nr cr row) : Calls Try.prog 6 #[.int .i64 idn, .slice a n cap, .slice pr nr cr] w fun e w' => e = .returned (.bool true) ∧ Below w.heap.size w w' := by
  have K1 := dfit_any_ idn a n cap l w hr
  cases hf : fitS idn l with
  | false =>
    rw [hf] at K1
    clear hr ht
    go_enter Try.func6, Try.ntmps6
    go_wp2_with (first
      | (go_at_call 10; refine K1.mono ?_; rintro e w1 ⟨rfl, b1⟩)
      | (go_at_call 13; refine (awake_any _).mono ?_; rintro e w9 ⟨rfl, b9⟩))
    go_ret
    exact ⟨rfl, b1.trans (b9.mono b1.size)⟩
  | true =>
    rw [hf] at K1
    have F := fit_iff.1 hf
    have HF0 : Hid (FitP idn l) := F
    have HNR : Hid (nr ≤ 140737488355328) := ht.small
    have K2 := fun W (h : Below w.heap.size w W) => scopied_any a n cap l W (hr.below h)
    have HL : Hid (l.length = n) := hr.size
    clear hr F hf
    go_enter Try.func6, Try.ntmps6
    go_wp2_with (first
      | (go_at_call 10; refine K1.mono ?_; rintro e w1 ⟨rfl, b1⟩; clear K1)
      | (go_at_call 16; refine (K2 _ b1).mono ?_; rintro e w2 ⟨a2, c2, rfl, L2, f2, b2⟩; clear K2)
      | fail)
    have B2 := b1.trans (b2.mono b1.size)
    go_loopg [7, 8] nr (fun gk v7 v8 wr => ∃ (i : Nat) (a5 : Option Addr) (c5 : Nat) (ls : List SN), v7 = .slice a5 ls.length c5 ∧ v8 = .int .i64 (i : Int) ∧ i + gk = nr ∧ Below w.heap.size w wr ∧ LstS wr a5 ls.length c5 ls ∧ FitP idn ls)
    case atStart => exact ⟨0, a2, c2, l, by rw [HL.out], by first | rfl | go_num, by omega, B2, by rw [HL.out]; exact L2, HF0.out⟩
    case round =>
      clear L2 f2 b2 b1 B2
      obtain ⟨i, a5, c5, ls, rfl, rfl, hgk, B, L5, F5⟩ := hrel
      obtain ⟨gko, hgko⟩ : ∃ g, g = gk := ⟨_, rfl⟩
      have HGK : Hid (i + gko = nr) := by show _ = _; rw [hgko]; exact hgk
      have HGE : Hid (gko = gk) := hgko
      rename World => wo
      by_cases hi : i < nr
      case neg =>
        have hiI : ¬ (i : Int) < (nr : Int) := by omega
        clear hgk hgko L5 F5 ht hi
        go_wp2_with (go_at_call 13; refine (awake_any _).mono ?_; rintro e w9 ⟨rfl, b9⟩)
        go_ret
        exact ⟨rfl, B.trans (b9.mono B.size)⟩
      case pos =>
        have HI : Hid (i < nr) := hi
        have hiI : (i : Int) < (nr : Int) := by omega
        have hwr : IntKind.i64.wrap ((i : Int) + 1) = (i : Int) + 1 := by rw [IntKind.wrap_i64]; have := HNR.out; omega
        obtain ⟨b, off, rfl, hb, hd, hra⟩ := (ht.below B).at i hi
        obtain ⟨⟨dr, peer, boot, life⟩, hri⟩ : ∃ r, row.getD i TN.z = r := ⟨_, rfl⟩
        rw [hri] at hra
        have HT : Hid (RdT w (some ⟨b, off, none⟩) nr cr row) := ht
        have HL5 : Hid (LstS wo a5 ls.length c5 ls) := L5
        have HF5 : Hid (FitP idn ls) := F5
        have HB : Hid (Below w.heap.size w wo) := B
        obtain ⟨W1, hW1⟩ : ∃ W1, wo.alloc (.cells #[.bool dr, .int .i64 peer, .int .i64 boot, .int .i64 life] 51) = W1 := ⟨_, rfl⟩
        have bA : Below wo.heap.size wo W1 := by rw [← hW1]; exact (Below.refl _ _).alloc (Nat.le_refl _) _
        have T1 : W1.heap[wo.heap.size]? = some (.cells #[.bool dr, .int .i64 peer, .int .i64 boot, .int .i64 life] 51 (0, 0)) := by rw [← hW1]; exact heap_new rfl
        have HW : Hid (wo.alloc (.cells #[.bool dr, .int .i64 peer, .int .i64 boot, .int .i64 life] 51) = W1) := hW1
        have HBW : Hid (Below w.heap.size w W1) := B.trans (bA.mono B.size)
        clear hri hd hW1 hgk hgko L5 F5 B ht hi hb
        have ld : Hid (wo.rangeAt b (off + i * 4) (TN.cells ⟨dr, peer, boot, life⟩)) := hra
        clear hra
        by_cases hall : nodeB peer = true ∧ peer ≠ idn ∧ inB 1 boot 1099511627776 = true ∧ inB 0 life 1099511627776 = true
        case neg =>
          cases hnd : nodeB peer with
          | false =>
            clear hall
            go_wp2_with (first | ((with_reducible show wpList _ _ _ (Oper.mk _ (Op.load 51 (Operand.tmp 29)) _ _ _ _ :: _) _ _); refine wpList_load51x rfl _ rfl b (off + i * 4) dr peer boot life rfl ld.out ?_) | (go_at_call 14; refine (knode_any _ _).mono ?_; rintro e wx ⟨rfl, hw⟩; rw [hw]; clear hw wx) | (go_at_call 15; refine (kwithin_any _ _ _ _).mono ?_; rintro e wx ⟨rfl, hw⟩; rw [hw]; clear hw wx))
            rw [HW.out]
            go_roundg (gko - 1)
            case measure => have := HGE.out; have := HGK.out; have := HI.out; omega
            case rel => exact ⟨i + 1, a5, c5, ls, rfl, by first | rfl | go_num, by have := HGK.out; have := HI.out; omega, HBW.out, HL5.out.below bA, HF5.out⟩
          | true =>
            by_cases he : peer = idn
            · have heb : (peer == idn) = true := by simpa using he
              clear he hall
              go_wp2_with (first | ((with_reducible show wpList _ _ _ (Oper.mk _ (Op.load 51 (Operand.tmp 29)) _ _ _ _ :: _) _ _); refine wpList_load51x rfl _ rfl b (off + i * 4) dr peer boot life rfl ld.out ?_) | (go_at_call 14; refine (knode_any _ _).mono ?_; rintro e wx ⟨rfl, hw⟩; rw [hw]; clear hw wx) | (go_at_call 15; refine (kwithin_any _ _ _ _).mono ?_; rintro e wx ⟨rfl, hw⟩; rw [hw]; clear hw wx))
              rw [HW.out]
              go_roundg (gko - 1)
              case measure => have := HGE.out; have := HGK.out; have := HI.out; omega
              case rel => exact ⟨i + 1, a5, c5, ls, rfl, by first | rfl | go_num, by have := HGK.out; have := HI.out; omega, HBW.out, HL5.out.below bA, HF5.out⟩
            · have heb : (peer == idn) = false := by simpa using he
              cases hbt : inB 1 boot 1099511627776 with
              | false =>
                clear he hall
                go_wp2_with (first | ((with_reducible show wpList _ _ _ (Oper.mk _ (Op.load 51 (Operand.tmp 29)) _ _ _ _ :: _) _ _); refine wpList_load51x rfl _ rfl b (off + i * 4) dr peer boot life rfl ld.out ?_) | (go_at_call 14; refine (knode_any _ _).mono ?_; rintro e wx ⟨rfl, hw⟩; rw [hw]; clear hw wx) | (go_at_call 15; refine (kwithin_any _ _ _ _).mono ?_; rintro e wx ⟨rfl, hw⟩; rw [hw]; clear hw wx))
                rw [HW.out]
                go_roundg (gko - 1)
                case measure => have := HGE.out; have := HGK.out; have := HI.out; omega
                case rel => exact ⟨i + 1, a5, c5, ls, rfl, by first | rfl | go_num, by have := HGK.out; have := HI.out; omega, HBW.out, HL5.out.below bA, HF5.out⟩
              | true =>
                cases hlf : inB 0 life 1099511627776 with
                | false =>
                  clear he hall
                  go_wp2_with (first | ((with_reducible show wpList _ _ _ (Oper.mk _ (Op.load 51 (Operand.tmp 29)) _ _ _ _ :: _) _ _); refine wpList_load51x rfl _ rfl b (off + i * 4) dr peer boot life rfl ld.out ?_) | (go_at_call 14; refine (knode_any _ _).mono ?_; rintro e wx ⟨rfl, hw⟩; rw [hw]; clear hw wx) | (go_at_call 15; refine (kwithin_any _ _ _ _).mono ?_; rintro e wx ⟨rfl, hw⟩; rw [hw]; clear hw wx))
                  rw [HW.out]
                  go_roundg (gko - 1)
                  case measure => have := HGE.out; have := HGK.out; have := HI.out; omega
                  case rel => exact ⟨i + 1, a5, c5, ls, rfl, by first | rfl | go_num, by have := HGK.out; have := HI.out; omega, HBW.out, HL5.out.below bA, HF5.out⟩
                | true => exact absurd ⟨hnd, he, hbt, hlf⟩ hall
        case pos =>
          obtain ⟨hnd, hne, hbt, hlf⟩ := hall
          have hneb : (peer == idn) = false := by simpa using hne
          have HNE : Hid (peer ≠ idn) := hne
          have HNP : Hid (0 ≤ peer ∧ peer < 16) := by show _ ∧ _; exact of_decide_eq_true hnd
          have HBT : Hid (1 ≤ boot ∧ boot ≤ 1099511627776) := by show _ ∧ _; exact of_decide_eq_true hbt
          have HLF : Hid (0 ≤ life ∧ life ≤ 1099511627776) := by show _ ∧ _; exact of_decide_eq_true hlf
          have R5 := (HL5.out.rd (by have := fit_len HF5.out; omega)).below bA
          have KS := see_any idn peer boot life a5 _ c5 ls W1 R5 HF5.out HBT.out.1
          have KD := fun W (h : Below W1.heap.size W1 W) => drp_any idn peer a5 _ c5 ls W (R5.below h) HF5.out
          have KG := fun (q : Int) W (h : Below W1.heap.size W1 W) => get_any a5 _ c5 ls q W (R5.below h)
          clear hne R5
          cases dr with
          | true =>
            as_aux_lemma =>
              have HNX : Hid (FitP idn (nxt true peer boot life ls)) := nxt_fit true HF5.out HNP.out HNE.out HBT.out HLF.out
              have HGT : Hid (∀ q, ltr (getL q ls).boot (getL q ls).life (getL q (nxt true peer boot life ls)).boot (getL q (nxt true peer boot life ls)).life = false ∧ ¬ (getL q (nxt true peer boot life ls)).mine < (getL q ls).mine ∧ (q ≠ peer → getL q (nxt true peer boot life ls) = getL q ls)) := nxt_get true HF5.out
              simp only [show drpL peer ls = nxt true peer boot life ls from rfl] at KD
              obtain ⟨nx, hnx⟩ : ∃ nx, nxt true peer boot life ls = nx := ⟨_, rfl⟩
              rw [hnx] at HNX HGT
              simp only [hnx] at KD
              clear hnx
              have ⟨⟨t0, t1, t2, t3⟩, _⟩ := cel4 T1
              go_wp2_with (first
                | ((with_reducible show wpList _ _ _ (Oper.mk _ (Op.load 51 (Operand.tmp 29)) _ _ _ _ :: _) _ _); refine wpList_load51x rfl _ rfl b (off + i * 4) true peer boot life rfl ld.out ?_)
                | (go_at_call 14; refine (knode_any _ _).mono ?_; rintro e wx ⟨rfl, hw⟩; rw [hw]; clear hw wx)
                | (go_at_call 15; refine (kwithin_any _ _ _ _).mono ?_; rintro e wx ⟨rfl, hw⟩; rw [hw]; clear hw wx)
                | (go_at_call 17; rw [HW.out]; refine KS.mono ?_; rintro e wa ⟨aa, ca, rfl, La, fa, ba⟩; clear KS; have ⟨⟨t0, t1, t2, t3⟩, _⟩ := cel4 ((ba.block _ (row_lt T1)).trans T1))
                | (go_at_call 18; refine (KD _ ba).mono ?_; rintro e wn ⟨an, cn, rfl, Ln, fn_, bn⟩; clear KD)
                              | fail)
              have bN : Below W1.heap.size W1 wn := ba.trans (bn.mono ba.size)
              have Tn := (bN.block _ (row_lt T1)).trans T1
              have Rn := Ln.rd (by have := fit_len HNX.out; omega)
              have KGn := fun (q : Int) W (h : Below wn.heap.size wn W) => get_any an _ cn nx q W (Rn.below h)
              have KGl := fun (q : Int) W (h : Below wn.heap.size wn W) => KG q W (bN.trans (h.mono bN.size))
              have KFn := fun W (h : Below wn.heap.size wn W) => dfit_any_ idn an _ cn nx W (Rn.below h)
              rw [fit_iff.2 HNX.out] at KFn
              have HLn : Hid (LstS wn an nx.length cn nx) := Ln
              have HBN : Hid (Below w.heap.size w wn) := HBW.out.trans (bN.mono HBW.out.size)
              obtain ⟨q9, hq9⟩ : ∃ q : Nat, wo.heap.size = q := ⟨_, rfl⟩
              rw [hq9] at Tn
              simp only [hq9]
              clear hq9 La fa ba fn_ bn KG Ln Rn bN T1 bA t0 t1 t2 t3
              go_loopg [11] 16 (fun gk v11 wr => ∃ q : Nat, v11 = .int .i64 (q : Int) ∧ q + gk = 16 ∧ Below wn.heap.size wn wr)
              case atStart => exact ⟨0, by first | rfl | go_num, by omega, Below.refl _ _⟩
              case round =>
                obtain ⟨q, rfl, hgq, Bq⟩ := hrel
                by_cases hq : q < 16
                case pos =>
                  have HQ : Hid (q + gk = 16 ∧ q < 16) := ⟨hgq, hq⟩
                  have hqI : (q : Int) < 16 := by omega
                  have hwq : IntKind.i64.wrap ((q : Int) + 1) = (q : Int) + 1 := by rw [IntKind.wrap_i64]; omega
                  have K1 := KGl (q : Int) wr Bq
                  have K2 := fun W (h : Below wr.heap.size wr W) => KGn (q : Int) W (Bq.trans (h.mono Bq.size))
                  obtain ⟨h1, h2, h3⟩ := HGT.out (q : Int)
                  obtain ⟨⟨A0, A1, A2, A3⟩, hA⟩ : ∃ s, getL (q : Int) ls = s := ⟨_, rfl⟩
                  obtain ⟨⟨B0, B1, B2, B3⟩, hB⟩ : ∃ s, getL (q : Int) nx = s := ⟨_, rfl⟩
                  rw [hA, hB] at h1 h2 h3
                  simp only [hA, SN.val] at K1
                  simp only [hB, SN.val] at K2
                  dsimp only at h1 h2
                  have KL1 := fun W => later_any A1 A2 B1 B2 W
                  have KL2 := fun W => later_any A1 A2 A1 A2 W
                  simp only [h1] at KL1
                  simp only [ltr_self] at KL2
                  have Tq := (Bq.block _ (row_lt Tn)).trans Tn
                  have HBq : Hid (Below wn.heap.size wn wr) := Bq
                  have HQ9 : Hid (q9 < wr.heap.size) := row_lt Tq
                  clear h1 hA hB hgq hq Bq
                  by_cases hqp : (q : Int) = peer
                  case pos =>
                    have hqpb : ((q : Int) != peer) = false := by simpa using hqp
                    clear h3 hqp
                    as_aux_lemma =>
                      go_wp2_with (first
                        | (go_at_call 19; refine K1.mono ?_; rintro e u1 ⟨rfl, c1⟩; clear K1; have C1 := c1.alloc c1.size (.cells #[.int .i64 A0, .int .i64 A1, .int .i64 A2, .int .i64 A3] 33); have TA : (u1.alloc (.cells #[.int .i64 A0, .int .i64 A1, .int .i64 A2, .int .i64 A3] 33)).heap[u1.heap.size]? = some (.cells #[.int .i64 A0, .int .i64 A1, .int .i64 A2, .int .i64 A3] 33) := heap_new rfl; have T9a := (C1.block _ HQ9.out).trans Tq)
                        | (go_at_call 19; refine (K2 _ C1).mono ?_; rintro e u2 ⟨rfl, c2'⟩; clear K2; have C2 := (C1.trans (c2'.mono C1.size)).alloc (Nat.le_trans C1.size c2'.size) (.cells #[.int .i64 B0, .int .i64 B1, .int .i64 B2, .int .i64 B3] 33); have TB : (u2.alloc (.cells #[.int .i64 B0, .int .i64 B1, .int .i64 B2, .int .i64 B3] 33)).heap[u2.heap.size]? = some (.cells #[.int .i64 B0, .int .i64 B1, .int .i64 B2, .int .i64 B3] 33) := heap_new rfl; have TA2 := heap_old (o := (.cells #[.int .i64 B0, .int .i64 B1, .int .i64 B2, .int .i64 B3] 33)) (Nat.lt_of_lt_of_le (row_lt TA) c2'.size) ((c2'.block _ (row_lt TA)).trans TA); have ⟨⟨x0, x1, x2, x3⟩, _⟩ := cel4 TA2; have ⟨⟨y0, y1, y2, y3⟩, _⟩ := cel4 TB)
                        | (go_at_call 11; refine (KL1 _).mono ?_; rintro e u3 ⟨rfl, c3⟩; clear KL1; have C3 := C2.trans (c3.mono C2.size); have TA3 := (c3.block _ (row_lt TA2)).trans TA2; have TB3 := (c3.block _ (row_lt TB)).trans TB; have T93 := (C3.block _ HQ9.out).trans Tq; have ⟨⟨x0, x1, x2, x3⟩, _⟩ := cel4 TA3; have ⟨⟨y0, y1, y2, y3⟩, _⟩ := cel4 TB3; have ⟨⟨z0, z1, z2, z3⟩, _⟩ := cel4 T93)
                        | (go_at_call 11; refine (KL2 _).mono ?_; rintro e u4 ⟨rfl, c4⟩; clear KL2; have C4 := C3.trans (c4.mono C3.size)))
                      go_roundg (gk - 1)
                      case measure => have := HQ.out; omega
                      case rel => exact ⟨q + 1, by first | rfl | go_num, by have := HQ.out; omega, HBq.out.trans (C4.mono HBq.out.size)⟩
                  case neg =>
                    have hqpb : ((q : Int) != peer) = true := by simpa using hqp
                    have hEq := h3 hqp
                    simp only [SN.mk.injEq] at hEq
                    obtain ⟨rfl, rfl, rfl, rfl⟩ := hEq
                    clear h3 hqp h2
                    have h2 : ¬ B3 < B3 := by omega
                    as_aux_lemma =>
                      go_wp2_with (first
                        | (go_at_call 19; refine K1.mono ?_; rintro e u1 ⟨rfl, c1⟩; clear K1; have C1 := c1.alloc c1.size (.cells #[.int .i64 B0, .int .i64 B1, .int .i64 B2, .int .i64 B3] 33); have TA : (u1.alloc (.cells #[.int .i64 B0, .int .i64 B1, .int .i64 B2, .int .i64 B3] 33)).heap[u1.heap.size]? = some (.cells #[.int .i64 B0, .int .i64 B1, .int .i64 B2, .int .i64 B3] 33) := heap_new rfl; have T9a := (C1.block _ HQ9.out).trans Tq)
                        | (go_at_call 19; refine (K2 _ C1).mono ?_; rintro e u2 ⟨rfl, c2'⟩; clear K2; have C2 := (C1.trans (c2'.mono C1.size)).alloc (Nat.le_trans C1.size c2'.size) (.cells #[.int .i64 B0, .int .i64 B1, .int .i64 B2, .int .i64 B3] 33); have TB : (u2.alloc (.cells #[.int .i64 B0, .int .i64 B1, .int .i64 B2, .int .i64 B3] 33)).heap[u2.heap.size]? = some (.cells #[.int .i64 B0, .int .i64 B1, .int .i64 B2, .int .i64 B3] 33) := heap_new rfl; have TA2 := heap_old (o := (.cells #[.int .i64 B0, .int .i64 B1, .int .i64 B2, .int .i64 B3] 33)) (Nat.lt_of_lt_of_le (row_lt TA) c2'.size) ((c2'.block _ (row_lt TA)).trans TA); have ⟨⟨x0, x1, x2, x3⟩, _⟩ := cel4 TA2; have ⟨⟨y0, y1, y2, y3⟩, _⟩ := cel4 TB)
                        | (go_at_call 11; refine (KL1 _).mono ?_; rintro e u3 ⟨rfl, c3⟩; clear KL1; have C3 := C2.trans (c3.mono C2.size); have TA3 := (c3.block _ (row_lt TA2)).trans TA2; have TB3 := (c3.block _ (row_lt TB)).trans TB; have T93 := (C3.block _ HQ9.out).trans Tq; have ⟨⟨x0, x1, x2, x3⟩, _⟩ := cel4 TA3; have ⟨⟨y0, y1, y2, y3⟩, _⟩ := cel4 TB3; have ⟨⟨z0, z1, z2, z3⟩, _⟩ := cel4 T93)
                        | ((with_reducible show wpList _ _ _ (Oper.mk _ (Op.load 33 (Operand.tmp 12)) _ _ _ _ :: _) _ _); refine wpList_load33w (by rfl) _ rfl u1.heap.size 0 B0 B1 B2 B3 rfl (range_rowS (d := ⟨B0, B1, B2, B3⟩) TA3) ?_)
                        | ((with_reducible show wpList _ _ _ (Oper.mk _ (Op.load 33 (Operand.tmp 13)) _ _ _ _ :: _) _ _); refine wpList_load33w (by rfl) _ rfl u2.heap.size 0 B0 B1 B2 B3 rfl (range_rowS (d := ⟨B0, B1, B2, B3⟩) TB3) ?_)
                        | ((with_reducible show wpList _ _ _ (Oper.mk _ (Op.binOp .neq 33 _ _ 33) _ _ _ _ :: _) _ _); refine wpList_neq33 (by rfl) rfl B0 B1 B2 B3 B0 B1 B2 B3 rfl rfl ?_; rw [same33_self, Bool.not_true])
                        | (go_at_call 11; refine (KL2 _).mono ?_; rintro e u4 ⟨rfl, c4⟩; clear KL2; have C4 := C3.trans (c4.mono C3.size)))
                      go_roundg (gk - 1)
                      case measure => have := HQ.out; omega
                      case rel => exact ⟨q + 1, by first | rfl | go_num, by have := HQ.out; omega, HBq.out.trans (C4.mono HBq.out.size)⟩
                case neg =>
                  have hqI : ¬ (q : Int) < 16 := by omega
                  clear hq hgq
                  go_wp2_with (fail)
                  refine wp_region_any (by kernel_rfl) ?_
                  change wpAny _ _ _ _ _ _ _ (World.drew _)
                  refine wpAny_narrow (fun W' => Below wn.heap.size wn W') _ _ _ _ ?_
                  refine anyH_take 0 115 (.int .i64 idn) rfl rfl (by kernel_rfl) (by kernel_rfl) (by kernel_rfl) (fun _ _ _ h => h) (Or.inl ⟨by rfl, by intro w hSw; go_simp⟩) (Bq.drew) ?_
                  try simp only [Act.put, List.setIfInBounds_toArray, List.set_cons_zero, List.set_cons_succ]
                  refine anyH_take 1 116 (.slice an nx.length cn) rfl rfl (by kernel_rfl) (by kernel_rfl) (by kernel_rfl) (fun _ _ _ h => h) (Or.inl ⟨by rfl, by intro w hSw; go_simp⟩) (Bq.drew) ?_
                  try simp only [Act.put, List.setIfInBounds_toArray, List.set_cons_zero, List.set_cons_succ]
                  refine wpAnyH_ready (rs := [2]) (by kernel_rfl) (by simp) ?_
                  refine AllReadyH.cons rfl (fun K9 hK => ?_) AllReadyH.nil
                  go_simp
                  go_wp2_with (go_at_call 10; refine (KFn _ Bq.drew).mono ?_; rintro e wD1 ⟨rfl, d1⟩)
                  have D1 : Below wn.heap.size wn wD1 := Bq.drew.trans (d1.mono Bq.size)
                  refine hK.out _ _ D1 (fun hSD1 => ?_)
                  clear hK
                  try simp only [Act.put, List.setIfInBounds_toArray, List.set_cons_zero, List.set_cons_succ]
                  refine anyH_take 3 118 (.bool false) rfl rfl (by kernel_rfl) (by kernel_rfl) (by kernel_rfl) (fun _ _ _ h => h) (Or.inl ⟨by rfl, by intro w hSw; go_simp⟩) (D1) ?_
                  try simp only [Act.put, List.setIfInBounds_toArray, List.set_cons_zero, List.set_cons_succ]
                  refine anyH_take 4 119 (.bool false) rfl rfl (by kernel_rfl) (by kernel_rfl) (by kernel_rfl) (fun _ _ _ h => h) (Or.inl ⟨by rfl, by intro w hSw; go_simp⟩) (D1) ?_
                  try simp only [Act.put, List.setIfInBounds_toArray, List.set_cons_zero, List.set_cons_succ]
                  refine anyH_take 5 120 (.pointer (some ⟨q9, 0, none⟩)) rfl rfl (by kernel_rfl) (by kernel_rfl) (by kernel_rfl) (fun _ _ _ h => h) (Or.inl ⟨by rfl, by intro w hSw; go_simp⟩) (D1) ?_
                  try simp only [Act.put, List.setIfInBounds_toArray, List.set_cons_zero, List.set_cons_succ]
                  refine anyH_take 6 121 (.bool true) rfl rfl (by kernel_rfl) (by kernel_rfl) (by kernel_rfl) (fun _ _ _ h => h) (Or.inl ⟨by rfl, by intro w hSw; have s1 := row_cell ((hSw.block _ (row_lt Tn)).trans Tn) 0 _ rfl; go_simp⟩) (D1) ?_
                  try simp only [Act.put, List.setIfInBounds_toArray, List.set_cons_zero, List.set_cons_succ]
                  refine anyH_take 7 122 (.bool false) rfl rfl (by kernel_rfl) (by kernel_rfl) (by kernel_rfl) (fun _ _ _ h => h) (Or.inl ⟨by rfl, by intro w hSw; go_simp⟩) (D1) ?_
                  try simp only [Act.put, List.setIfInBounds_toArray, List.set_cons_zero, List.set_cons_succ]
                  refine anyH_take 8 123 (.bool false) rfl rfl (by kernel_rfl) (by kernel_rfl) (by kernel_rfl) (fun _ _ _ h => h) (Or.inl ⟨by rfl, by intro w hSw; go_simp⟩) (D1) ?_
                  try simp only [Act.put, List.setIfInBounds_toArray, List.set_cons_zero, List.set_cons_succ]
                  refine anyH_take 9 124 (undef) rfl rfl (by kernel_rfl) (by kernel_rfl) (by kernel_rfl) (fun _ _ _ h => h) (Or.inr ⟨by rfl, rfl⟩) (D1) ?_
                  try simp only [Act.put, List.setIfInBounds_toArray, List.set_cons_zero, List.set_cons_succ]
                  refine anyH_take 10 125 (undef) rfl rfl (by kernel_rfl) (by kernel_rfl) (by kernel_rfl) (fun _ _ _ h => h) (Or.inr ⟨by rfl, rfl⟩) (D1) ?_
                  try simp only [Act.put, List.setIfInBounds_toArray, List.set_cons_zero, List.set_cons_succ]
                  refine anyH_take 11 126 (undef) rfl rfl (by kernel_rfl) (by kernel_rfl) (by kernel_rfl) (fun _ _ _ h => h) (Or.inr ⟨by rfl, rfl⟩) (D1) ?_
                  try simp only [Act.put, List.setIfInBounds_toArray, List.set_cons_zero, List.set_cons_succ]
                  refine anyH_take 12 127 (undef) rfl rfl (by kernel_rfl) (by kernel_rfl) (by kernel_rfl) (fun _ _ _ h => h) (Or.inr ⟨by rfl, rfl⟩) (D1) ?_
                  try simp only [Act.put, List.setIfInBounds_toArray, List.set_cons_zero, List.set_cons_succ]
                  refine anyH_take 13 128 (undef) rfl rfl (by kernel_rfl) (by kernel_rfl) (by kernel_rfl) (fun _ _ _ h => h) (Or.inr ⟨by rfl, rfl⟩) (D1) ?_
                  try simp only [Act.put, List.setIfInBounds_toArray, List.set_cons_zero, List.set_cons_succ]
                  refine anyH_take 14 129 (undef) rfl rfl (by kernel_rfl) (by kernel_rfl) (by kernel_rfl) (fun _ _ _ h => h) (Or.inr ⟨by rfl, rfl⟩) (D1) ?_
                  try simp only [Act.put, List.setIfInBounds_toArray, List.set_cons_zero, List.set_cons_succ]
                  refine anyH_take 15 130 (undef) rfl rfl (by kernel_rfl) (by kernel_rfl) (by kernel_rfl) (fun _ _ _ h => h) (Or.inr ⟨by rfl, rfl⟩) (D1) ?_
                  try simp only [Act.put, List.setIfInBounds_toArray, List.set_cons_zero, List.set_cons_succ]
                  refine anyH_take 16 131 (undef) rfl rfl (by kernel_rfl) (by kernel_rfl) (by kernel_rfl) (fun _ _ _ h => h) (Or.inr ⟨by rfl, rfl⟩) (D1) ?_
                  try simp only [Act.put, List.setIfInBounds_toArray, List.set_cons_zero, List.set_cons_succ]
                  refine anyH_take 17 132 (undef) rfl rfl (by kernel_rfl) (by kernel_rfl) (by kernel_rfl) (fun _ _ _ h => h) (Or.inr ⟨by rfl, rfl⟩) (D1) ?_
                  try simp only [Act.put, List.setIfInBounds_toArray, List.set_cons_zero, List.set_cons_succ]
                  refine anyH_take 18 133 (undef) rfl rfl (by kernel_rfl) (by kernel_rfl) (by kernel_rfl) (fun _ _ _ h => h) (Or.inr ⟨by rfl, rfl⟩) (D1) ?_
                  try simp only [Act.put, List.setIfInBounds_toArray, List.set_cons_zero, List.set_cons_succ]
                  refine anyH_take 19 134 (undef) rfl rfl (by kernel_rfl) (by kernel_rfl) (by kernel_rfl) (fun _ _ _ h => h) (Or.inr ⟨by rfl, rfl⟩) (D1) ?_
                  try simp only [Act.put, List.setIfInBounds_toArray, List.set_cons_zero, List.set_cons_succ]
                  refine anyH_take 20 135 (undef) rfl rfl (by kernel_rfl) (by kernel_rfl) (by kernel_rfl) (fun _ _ _ h => h) (Or.inr ⟨by rfl, rfl⟩) (D1) ?_
                  try simp only [Act.put, List.setIfInBounds_toArray, List.set_cons_zero, List.set_cons_succ]
                  refine anyH_take 21 136 (undef) rfl rfl (by kernel_rfl) (by kernel_rfl) (by kernel_rfl) (fun _ _ _ h => h) (Or.inr ⟨by rfl, rfl⟩) (D1) ?_
                  try simp only [Act.put, List.setIfInBounds_toArray, List.set_cons_zero, List.set_cons_succ]
                  refine anyH_take 22 137 (undef) rfl rfl (by kernel_rfl) (by kernel_rfl) (by kernel_rfl) (fun _ _ _ h => h) (Or.inr ⟨by rfl, rfl⟩) (D1) ?_
                  try simp only [Act.put, List.setIfInBounds_toArray, List.set_cons_zero, List.set_cons_succ]
                  refine anyH_take 23 138 (undef) rfl rfl (by kernel_rfl) (by kernel_rfl) (by kernel_rfl) (fun _ _ _ h => h) (Or.inr ⟨by rfl, rfl⟩) (D1) ?_
                  try simp only [Act.put, List.setIfInBounds_toArray, List.set_cons_zero, List.set_cons_succ]
                  refine anyH_take 24 139 (.bool false) rfl rfl (by kernel_rfl) (by kernel_rfl) (by kernel_rfl) (fun _ _ _ h => h) (Or.inl ⟨by rfl, by intro w hSw; go_simp⟩) (D1) ?_
                  try simp only [Act.put, List.setIfInBounds_toArray, List.set_cons_zero, List.set_cons_succ]
                  refine anyH_take 25 140 (.bool false) rfl rfl (by kernel_rfl) (by kernel_rfl) (by kernel_rfl) (fun _ _ _ h => h) (Or.inl ⟨by rfl, by intro w hSw; go_simp⟩) (D1) ?_
                  try simp only [Act.put, List.setIfInBounds_toArray, List.set_cons_zero, List.set_cons_succ]
                  refine wpAnyH_done (by kernel_rfl) ?_ _
                  go_wp2
                  go_roundg (gko - 1)
                  case measure => have := HGE.out; have := HGK.out; have := HI.out; omega
                  case rel => exact ⟨i + 1, an, cn, nx, rfl, by first | rfl | go_num, by have := HGK.out; have := HI.out; omega, HBN.out.trans (D1.mono HBN.out.size), HLn.out.below D1, HNX.out⟩
          | false =>
            as_aux_lemma =>
              have HNX : Hid (FitP idn (nxt false peer boot life ls)) := nxt_fit false HF5.out HNP.out HNE.out HBT.out HLF.out
              have HGT : Hid (∀ q, ltr (getL q ls).boot (getL q ls).life (getL q (nxt false peer boot life ls)).boot (getL q (nxt false peer boot life ls)).life = false ∧ ¬ (getL q (nxt false peer boot life ls)).mine < (getL q ls).mine ∧ (q ≠ peer → getL q (nxt false peer boot life ls) = getL q ls)) := nxt_get false HF5.out
              have HSN : Hid (ltr boot life (getL peer (nxt false peer boot life ls)).boot (getL peer (nxt false peer boot life ls)).life = false) := nxt_seen peer boot life ls
              simp only [show seeL peer boot life ls = nxt false peer boot life ls from rfl] at KS
              obtain ⟨nx, hnx⟩ : ∃ nx, nxt false peer boot life ls = nx := ⟨_, rfl⟩
              rw [hnx] at HNX HGT HSN
              rw [hnx] at KS
              clear hnx
              have ⟨⟨t0, t1, t2, t3⟩, _⟩ := cel4 T1
              go_wp2_with (first
                | ((with_reducible show wpList _ _ _ (Oper.mk _ (Op.load 51 (Operand.tmp 29)) _ _ _ _ :: _) _ _); refine wpList_load51x rfl _ rfl b (off + i * 4) false peer boot life rfl ld.out ?_)
                | (go_at_call 14; refine (knode_any _ _).mono ?_; rintro e wx ⟨rfl, hw⟩; rw [hw]; clear hw wx)
                | (go_at_call 15; refine (kwithin_any _ _ _ _).mono ?_; rintro e wx ⟨rfl, hw⟩; rw [hw]; clear hw wx)
                | (go_at_call 17; rw [HW.out]; refine KS.mono ?_; rintro e wn ⟨an, cn, rfl, Ln, fn_, bn⟩; clear KS; have ⟨⟨t0, t1, t2, t3⟩, _⟩ := cel4 ((bn.block _ (row_lt T1)).trans T1))
                              | fail)
              have bN : Below W1.heap.size W1 wn := bn
              have Tn := (bN.block _ (row_lt T1)).trans T1
              have Rn := Ln.rd (by have := fit_len HNX.out; omega)
              have KGn := fun (q : Int) W (h : Below wn.heap.size wn W) => get_any an _ cn nx q W (Rn.below h)
              have KGl := fun (q : Int) W (h : Below wn.heap.size wn W) => KG q W (bN.trans (h.mono bN.size))
              have KFn := fun W (h : Below wn.heap.size wn W) => dfit_any_ idn an _ cn nx W (Rn.below h)
              rw [fit_iff.2 HNX.out] at KFn
              have HLn : Hid (LstS wn an nx.length cn nx) := Ln
              have HBN : Hid (Below w.heap.size w wn) := HBW.out.trans (bN.mono HBW.out.size)
              obtain ⟨q9, hq9⟩ : ∃ q : Nat, wo.heap.size = q := ⟨_, rfl⟩
              rw [hq9] at Tn
              simp only [hq9]
              clear hq9 fn_ bn KD KG Ln Rn bN T1 bA t0 t1 t2 t3
              go_loopg [11] 16 (fun gk v11 wr => ∃ q : Nat, v11 = .int .i64 (q : Int) ∧ q + gk = 16 ∧ Below wn.heap.size wn wr)
              case atStart => exact ⟨0, by first | rfl | go_num, by omega, Below.refl _ _⟩
              case round =>
                obtain ⟨q, rfl, hgq, Bq⟩ := hrel
                by_cases hq : q < 16
                case pos =>
                  have HQ : Hid (q + gk = 16 ∧ q < 16) := ⟨hgq, hq⟩
                  have hqI : (q : Int) < 16 := by omega
                  have hwq : IntKind.i64.wrap ((q : Int) + 1) = (q : Int) + 1 := by rw [IntKind.wrap_i64]; omega
                  have K1 := KGl (q : Int) wr Bq
                  have K2 := fun W (h : Below wr.heap.size wr W) => KGn (q : Int) W (Bq.trans (h.mono Bq.size))
                  obtain ⟨h1, h2, h3⟩ := HGT.out (q : Int)
                  obtain ⟨⟨A0, A1, A2, A3⟩, hA⟩ : ∃ s, getL (q : Int) ls = s := ⟨_, rfl⟩
                  obtain ⟨⟨B0, B1, B2, B3⟩, hB⟩ : ∃ s, getL (q : Int) nx = s := ⟨_, rfl⟩
                  rw [hA, hB] at h1 h2 h3
                  simp only [hA, SN.val] at K1
                  simp only [hB, SN.val] at K2
                  dsimp only at h1 h2
                  have KL1 := fun W => later_any A1 A2 B1 B2 W
                  have KL2 := fun W => later_any A1 A2 A1 A2 W
                  simp only [h1] at KL1
                  simp only [ltr_self] at KL2
                  have Tq := (Bq.block _ (row_lt Tn)).trans Tn
                  have HBq : Hid (Below wn.heap.size wn wr) := Bq
                  have HQ9 : Hid (q9 < wr.heap.size) := row_lt Tq
                  clear h1 hA hB hgq hq Bq
                  by_cases hqp : (q : Int) = peer
                  case pos =>
                    have hqpb : ((q : Int) != peer) = false := by simpa using hqp
                    clear h3 hqp
                    as_aux_lemma =>
                      go_wp2_with (first
                        | (go_at_call 19; refine K1.mono ?_; rintro e u1 ⟨rfl, c1⟩; clear K1; have C1 := c1.alloc c1.size (.cells #[.int .i64 A0, .int .i64 A1, .int .i64 A2, .int .i64 A3] 33); have TA : (u1.alloc (.cells #[.int .i64 A0, .int .i64 A1, .int .i64 A2, .int .i64 A3] 33)).heap[u1.heap.size]? = some (.cells #[.int .i64 A0, .int .i64 A1, .int .i64 A2, .int .i64 A3] 33) := heap_new rfl; have T9a := (C1.block _ HQ9.out).trans Tq)
                        | (go_at_call 19; refine (K2 _ C1).mono ?_; rintro e u2 ⟨rfl, c2'⟩; clear K2; have C2 := (C1.trans (c2'.mono C1.size)).alloc (Nat.le_trans C1.size c2'.size) (.cells #[.int .i64 B0, .int .i64 B1, .int .i64 B2, .int .i64 B3] 33); have TB : (u2.alloc (.cells #[.int .i64 B0, .int .i64 B1, .int .i64 B2, .int .i64 B3] 33)).heap[u2.heap.size]? = some (.cells #[.int .i64 B0, .int .i64 B1, .int .i64 B2, .int .i64 B3] 33) := heap_new rfl; have TA2 := heap_old (o := (.cells #[.int .i64 B0, .int .i64 B1, .int .i64 B2, .int .i64 B3] 33)) (Nat.lt_of_lt_of_le (row_lt TA) c2'.size) ((c2'.block _ (row_lt TA)).trans TA); have ⟨⟨x0, x1, x2, x3⟩, _⟩ := cel4 TA2; have ⟨⟨y0, y1, y2, y3⟩, _⟩ := cel4 TB)
                        | (go_at_call 11; refine (KL1 _).mono ?_; rintro e u3 ⟨rfl, c3⟩; clear KL1; have C3 := C2.trans (c3.mono C2.size); have TA3 := (c3.block _ (row_lt TA2)).trans TA2; have TB3 := (c3.block _ (row_lt TB)).trans TB; have T93 := (C3.block _ HQ9.out).trans Tq; have ⟨⟨x0, x1, x2, x3⟩, _⟩ := cel4 TA3; have ⟨⟨y0, y1, y2, y3⟩, _⟩ := cel4 TB3; have ⟨⟨z0, z1, z2, z3⟩, _⟩ := cel4 T93)
                        | (go_at_call 11; refine (KL2 _).mono ?_; rintro e u4 ⟨rfl, c4⟩; clear KL2; have C4 := C3.trans (c4.mono C3.size)))
                      go_roundg (gk - 1)
                      case measure => have := HQ.out; omega
                      case rel => exact ⟨q + 1, by first | rfl | go_num, by have := HQ.out; omega, HBq.out.trans (C4.mono HBq.out.size)⟩
                  case neg =>
                    have hqpb : ((q : Int) != peer) = true := by simpa using hqp
                    have hEq := h3 hqp
                    simp only [SN.mk.injEq] at hEq
                    obtain ⟨rfl, rfl, rfl, rfl⟩ := hEq
                    clear h3 hqp h2
                    have h2 : ¬ B3 < B3 := by omega
                    as_aux_lemma =>
                      go_wp2_with (first
                        | (go_at_call 19; refine K1.mono ?_; rintro e u1 ⟨rfl, c1⟩; clear K1; have C1 := c1.alloc c1.size (.cells #[.int .i64 B0, .int .i64 B1, .int .i64 B2, .int .i64 B3] 33); have TA : (u1.alloc (.cells #[.int .i64 B0, .int .i64 B1, .int .i64 B2, .int .i64 B3] 33)).heap[u1.heap.size]? = some (.cells #[.int .i64 B0, .int .i64 B1, .int .i64 B2, .int .i64 B3] 33) := heap_new rfl; have T9a := (C1.block _ HQ9.out).trans Tq)
                        | (go_at_call 19; refine (K2 _ C1).mono ?_; rintro e u2 ⟨rfl, c2'⟩; clear K2; have C2 := (C1.trans (c2'.mono C1.size)).alloc (Nat.le_trans C1.size c2'.size) (.cells #[.int .i64 B0, .int .i64 B1, .int .i64 B2, .int .i64 B3] 33); have TB : (u2.alloc (.cells #[.int .i64 B0, .int .i64 B1, .int .i64 B2, .int .i64 B3] 33)).heap[u2.heap.size]? = some (.cells #[.int .i64 B0, .int .i64 B1, .int .i64 B2, .int .i64 B3] 33) := heap_new rfl; have TA2 := heap_old (o := (.cells #[.int .i64 B0, .int .i64 B1, .int .i64 B2, .int .i64 B3] 33)) (Nat.lt_of_lt_of_le (row_lt TA) c2'.size) ((c2'.block _ (row_lt TA)).trans TA); have ⟨⟨x0, x1, x2, x3⟩, _⟩ := cel4 TA2; have ⟨⟨y0, y1, y2, y3⟩, _⟩ := cel4 TB)
                        | (go_at_call 11; refine (KL1 _).mono ?_; rintro e u3 ⟨rfl, c3⟩; clear KL1; have C3 := C2.trans (c3.mono C2.size); have TA3 := (c3.block _ (row_lt TA2)).trans TA2; have TB3 := (c3.block _ (row_lt TB)).trans TB; have T93 := (C3.block _ HQ9.out).trans Tq; have ⟨⟨x0, x1, x2, x3⟩, _⟩ := cel4 TA3; have ⟨⟨y0, y1, y2, y3⟩, _⟩ := cel4 TB3; have ⟨⟨z0, z1, z2, z3⟩, _⟩ := cel4 T93)
                        | ((with_reducible show wpList _ _ _ (Oper.mk _ (Op.load 33 (Operand.tmp 12)) _ _ _ _ :: _) _ _); refine wpList_load33w (by rfl) _ rfl u1.heap.size 0 B0 B1 B2 B3 rfl (range_rowS (d := ⟨B0, B1, B2, B3⟩) TA3) ?_)
                        | ((with_reducible show wpList _ _ _ (Oper.mk _ (Op.load 33 (Operand.tmp 13)) _ _ _ _ :: _) _ _); refine wpList_load33w (by rfl) _ rfl u2.heap.size 0 B0 B1 B2 B3 rfl (range_rowS (d := ⟨B0, B1, B2, B3⟩) TB3) ?_)
                        | ((with_reducible show wpList _ _ _ (Oper.mk _ (Op.binOp .neq 33 _ _ 33) _ _ _ _ :: _) _ _); refine wpList_neq33 (by rfl) rfl B0 B1 B2 B3 B0 B1 B2 B3 rfl rfl ?_; rw [same33_self, Bool.not_true])
                        | (go_at_call 11; refine (KL2 _).mono ?_; rintro e u4 ⟨rfl, c4⟩; clear KL2; have C4 := C3.trans (c4.mono C3.size)))
                      go_roundg (gk - 1)
                      case measure => have := HQ.out; omega
                      case rel => exact ⟨q + 1, by first | rfl | go_num, by have := HQ.out; omega, HBq.out.trans (C4.mono HBq.out.size)⟩
                case neg =>
                  have hqI : ¬ (q : Int) < 16 := by omega
                  clear hq hgq
                  go_wp2_with (fail)
                  refine wp_region_any (by kernel_rfl) ?_
                  change wpAny _ _ _ _ _ _ _ (World.drew _)
                  refine wpAny_narrow (fun W' => Below wn.heap.size wn W') _ _ _ _ ?_
                  refine anyH_take 0 115 (.int .i64 idn) rfl rfl (by kernel_rfl) (by kernel_rfl) (by kernel_rfl) (fun _ _ _ h => h) (Or.inl ⟨by rfl, by intro w hSw; go_simp⟩) (Bq.drew) ?_
                  try simp only [Act.put, List.setIfInBounds_toArray, List.set_cons_zero, List.set_cons_succ]
                  refine anyH_take 1 116 (.slice an nx.length cn) rfl rfl (by kernel_rfl) (by kernel_rfl) (by kernel_rfl) (fun _ _ _ h => h) (Or.inl ⟨by rfl, by intro w hSw; go_simp⟩) (Bq.drew) ?_
                  try simp only [Act.put, List.setIfInBounds_toArray, List.set_cons_zero, List.set_cons_succ]
                  refine wpAnyH_ready (rs := [2]) (by kernel_rfl) (by simp) ?_
                  refine AllReadyH.cons rfl (fun K9 hK => ?_) AllReadyH.nil
                  go_simp
                  go_wp2_with (go_at_call 10; refine (KFn _ Bq.drew).mono ?_; rintro e wD1 ⟨rfl, d1⟩)
                  have D1 : Below wn.heap.size wn wD1 := Bq.drew.trans (d1.mono Bq.size)
                  refine hK.out _ _ D1 (fun hSD1 => ?_)
                  clear hK
                  try simp only [Act.put, List.setIfInBounds_toArray, List.set_cons_zero, List.set_cons_succ]
                  refine anyH_take 3 118 (.bool false) rfl rfl (by kernel_rfl) (by kernel_rfl) (by kernel_rfl) (fun _ _ _ h => h) (Or.inl ⟨by rfl, by intro w hSw; go_simp⟩) (D1) ?_
                  try simp only [Act.put, List.setIfInBounds_toArray, List.set_cons_zero, List.set_cons_succ]
                  refine anyH_take 4 119 (.bool false) rfl rfl (by kernel_rfl) (by kernel_rfl) (by kernel_rfl) (fun _ _ _ h => h) (Or.inl ⟨by rfl, by intro w hSw; go_simp⟩) (D1) ?_
                  try simp only [Act.put, List.setIfInBounds_toArray, List.set_cons_zero, List.set_cons_succ]
                  refine anyH_take 5 120 (.pointer (some ⟨q9, 0, none⟩)) rfl rfl (by kernel_rfl) (by kernel_rfl) (by kernel_rfl) (fun _ _ _ h => h) (Or.inl ⟨by rfl, by intro w hSw; go_simp⟩) (D1) ?_
                  try simp only [Act.put, List.setIfInBounds_toArray, List.set_cons_zero, List.set_cons_succ]
                  refine anyH_take 6 121 (.bool false) rfl rfl (by kernel_rfl) (by kernel_rfl) (by kernel_rfl) (fun _ _ _ h => h) (Or.inl ⟨by rfl, by intro w hSw; have s1 := row_cell ((hSw.block _ (row_lt Tn)).trans Tn) 0 _ rfl; go_simp⟩) (D1) ?_
                  try simp only [Act.put, List.setIfInBounds_toArray, List.set_cons_zero, List.set_cons_succ]
                  refine anyH_take 7 122 (.bool true) rfl rfl (by kernel_rfl) (by kernel_rfl) (by kernel_rfl) (fun _ _ _ h => h) (Or.inl ⟨by rfl, by intro w hSw; go_simp⟩) (D1) ?_
                  try simp only [Act.put, List.setIfInBounds_toArray, List.set_cons_zero, List.set_cons_succ]
                  refine anyH_take 8 123 (.bool true) rfl rfl (by kernel_rfl) (by kernel_rfl) (by kernel_rfl) (fun _ _ _ h => h) (Or.inl ⟨by rfl, by intro w hSw; go_simp⟩) (D1) ?_
                  try simp only [Act.put, List.setIfInBounds_toArray, List.set_cons_zero, List.set_cons_succ]
                  refine anyH_take 9 124 (.pointer (some ⟨q9, 2, none⟩)) rfl rfl (by kernel_rfl) (by kernel_rfl) (by kernel_rfl) (fun _ _ _ h => h) (Or.inl ⟨by rfl, by intro w hSw; go_simp⟩) (D1) ?_
                  try simp only [Act.put, List.setIfInBounds_toArray, List.set_cons_zero, List.set_cons_succ]
                  refine anyH_take 10 125 (.int .i64 boot) rfl rfl (by kernel_rfl) (by kernel_rfl) (by kernel_rfl) (fun _ _ _ h => h) (Or.inl ⟨by rfl, by intro w hSw; have s1 := row_cell ((hSw.block _ (row_lt Tn)).trans Tn) 2 _ rfl; go_simp⟩) (D1) ?_
                  try simp only [Act.put, List.setIfInBounds_toArray, List.set_cons_zero, List.set_cons_succ]
                  refine anyH_take 11 126 (.pointer (some ⟨q9, 3, none⟩)) rfl rfl (by kernel_rfl) (by kernel_rfl) (by kernel_rfl) (fun _ _ _ h => h) (Or.inl ⟨by rfl, by intro w hSw; go_simp⟩) (D1) ?_
                  try simp only [Act.put, List.setIfInBounds_toArray, List.set_cons_zero, List.set_cons_succ]
                  refine anyH_take 12 127 (.int .i64 life) rfl rfl (by kernel_rfl) (by kernel_rfl) (by kernel_rfl) (fun _ _ _ h => h) (Or.inl ⟨by rfl, by intro w hSw; have s1 := row_cell ((hSw.block _ (row_lt Tn)).trans Tn) 3 _ rfl; go_simp⟩) (D1) ?_
                  try simp only [Act.put, List.setIfInBounds_toArray, List.set_cons_zero, List.set_cons_succ]
                  refine anyH_take 13 128 (.slice an nx.length cn) rfl rfl (by kernel_rfl) (by kernel_rfl) (by kernel_rfl) (fun _ _ _ h => h) (Or.inl ⟨by rfl, by intro w hSw; go_simp⟩) (D1) ?_
                  try simp only [Act.put, List.setIfInBounds_toArray, List.set_cons_zero, List.set_cons_succ]
                  refine anyH_take 14 129 (.pointer (some ⟨q9, 1, none⟩)) rfl rfl (by kernel_rfl) (by kernel_rfl) (by kernel_rfl) (fun _ _ _ h => h) (Or.inl ⟨by rfl, by intro w hSw; go_simp⟩) (D1) ?_
                  try simp only [Act.put, List.setIfInBounds_toArray, List.set_cons_zero, List.set_cons_succ]
                  refine anyH_take 15 130 (.int .i64 peer) rfl rfl (by kernel_rfl) (by kernel_rfl) (by kernel_rfl) (fun _ _ _ h => h) (Or.inl ⟨by rfl, by intro w hSw; have s1 := row_cell ((hSw.block _ (row_lt Tn)).trans Tn) 1 _ rfl; go_simp⟩) (D1) ?_
                  try simp only [Act.put, List.setIfInBounds_toArray, List.set_cons_zero, List.set_cons_succ]
                  refine anyH_take 18 133 (.slice an nx.length cn) rfl rfl (by kernel_rfl) (by kernel_rfl) (by kernel_rfl) (fun _ _ _ h => h) (Or.inl ⟨by rfl, by intro w hSw; go_simp⟩) (D1) ?_
                  try simp only [Act.put, List.setIfInBounds_toArray, List.set_cons_zero, List.set_cons_succ]
                  refine anyH_take 19 134 (.pointer (some ⟨q9, 1, none⟩)) rfl rfl (by kernel_rfl) (by kernel_rfl) (by kernel_rfl) (fun _ _ _ h => h) (Or.inl ⟨by rfl, by intro w hSw; go_simp⟩) (D1) ?_
                  try simp only [Act.put, List.setIfInBounds_toArray, List.set_cons_zero, List.set_cons_succ]
                  refine anyH_take 20 135 (.int .i64 peer) rfl rfl (by kernel_rfl) (by kernel_rfl) (by kernel_rfl) (fun _ _ _ h => h) (Or.inl ⟨by rfl, by intro w hSw; have s1 := row_cell ((hSw.block _ (row_lt Tn)).trans Tn) 1 _ rfl; go_simp⟩) (D1) ?_
                  try simp only [Act.put, List.setIfInBounds_toArray, List.set_cons_zero, List.set_cons_succ]
                  have KP := fun W (h : Below wn.heap.size wn W) => KGn peer W h
                  have hsn := HSN.out
                  obtain ⟨⟨P0, P1, P2, P3⟩, hP⟩ : ∃ s, getL peer nx = s := ⟨_, rfl⟩
                  simp only [hP, SN.val] at KP
                  rw [hP] at hsn
                  dsimp only at hsn
                  clear hP
                  refine wpAnyH_ready (rs := [16]) (by kernel_rfl) (by simp) ?_
                  refine AllReadyH.cons rfl (fun K9 hK => ?_) AllReadyH.nil
                  go_simp
                  go_wp2_with (go_at_call 19; refine (KP _ D1).mono ?_; rintro e wD2 ⟨rfl, d2⟩)
                  have D2 : Below wn.heap.size wn wD2 := D1.trans (d2.mono D1.size)
                  refine hK.out _ _ D2 (fun hSD2 => ?_)
                  clear hK
                  try simp only [Act.put, List.setIfInBounds_toArray, List.set_cons_zero, List.set_cons_succ]
                  refine anyH_take 17 132 (.int .i64 P1) rfl rfl (by kernel_rfl) (by kernel_rfl) (by kernel_rfl) (fun _ _ _ h => h) (Or.inl ⟨by rfl, by intro w hSw; go_simp⟩) (D2) ?_
                  try simp only [Act.put, List.setIfInBounds_toArray, List.set_cons_zero, List.set_cons_succ]
                  refine wpAnyH_ready (rs := [21]) (by kernel_rfl) (by simp) ?_
                  refine AllReadyH.cons rfl (fun K9 hK => ?_) AllReadyH.nil
                  go_simp
                  go_wp2_with (go_at_call 19; refine (KP _ D2).mono ?_; rintro e wD3 ⟨rfl, d3⟩)
                  have D3 : Below wn.heap.size wn wD3 := D2.trans (d3.mono D2.size)
                  refine hK.out _ _ D3 (fun hSD3 => ?_)
                  clear hK
                  try simp only [Act.put, List.setIfInBounds_toArray, List.set_cons_zero, List.set_cons_succ]
                  refine anyH_take 22 137 (.int .i64 P2) rfl rfl (by kernel_rfl) (by kernel_rfl) (by kernel_rfl) (fun _ _ _ h => h) (Or.inl ⟨by rfl, by intro w hSw; go_simp⟩) (D3) ?_
                  try simp only [Act.put, List.setIfInBounds_toArray, List.set_cons_zero, List.set_cons_succ]
                  refine wpAnyH_ready (rs := [23]) (by kernel_rfl) (by simp) ?_
                  refine AllReadyH.cons rfl (fun K9 hK => ?_) AllReadyH.nil
                  go_simp
                  go_wp2_with (go_at_call 11; refine (later_any boot life P1 P2 _).mono ?_; rw [hsn]; rintro e wD4 ⟨rfl, d4⟩)
                  have D4 : Below wn.heap.size wn wD4 := D3.trans (d4.mono D3.size)
                  refine hK.out _ _ D4 (fun hSD4 => ?_)
                  clear hK
                  try simp only [Act.put, List.setIfInBounds_toArray, List.set_cons_zero, List.set_cons_succ]
                  refine anyH_take 24 139 (.bool false) rfl rfl (by kernel_rfl) (by kernel_rfl) (by kernel_rfl) (fun _ _ _ h => h) (Or.inl ⟨by rfl, by intro w hSw; go_simp⟩) (D4) ?_
                  try simp only [Act.put, List.setIfInBounds_toArray, List.set_cons_zero, List.set_cons_succ]
                  refine anyH_take 25 140 (.bool false) rfl rfl (by kernel_rfl) (by kernel_rfl) (by kernel_rfl) (fun _ _ _ h => h) (Or.inl ⟨by rfl, by intro w hSw; go_simp⟩) (D4) ?_
                  try simp only [Act.put, List.setIfInBounds_toArray, List.set_cons_zero, List.set_cons_succ]
                  refine wpAnyH_done (by kernel_rfl) ?_ _
                  go_wp2
                  go_roundg (gko - 1)
                  case measure => have := HGE.out; have := HGK.out; have := HI.out; omega
                  case rel => exact ⟨i + 1, an, cn, nx, rfl, by first | rfl | go_num, by have := HGK.out; have := HI.out; omega, HBN.out.trans (D4.mono HBN.out.size), HLn.out.below D4, HNX.out⟩
end Go.Proofs.Yteoiogjaecpddaa
