/-
  What the law MissLives comes to.
-/
import Derived.Test.YtifkkkfejbgifaaW2
namespace Go.Proofs.Ytifkkkfejbgifaa
open Go.ChangeShapes Go.WideShapes Go.ChangeAt Go.RowKit
set_option linter.unusedVariables false
set_option linter.unusedSimpArgs false

set_option maxRecDepth 100000 in
set_option maxHeartbeats 4000000 in
theorem lives_unfit (id : Int) (h : HS) (a : Option Addr) (c : Nat) (la : Option Addr) (n cap : Nat) (w : World) (R : RdO w h a c) (hf : h.fit id = false) : Calls Try.prog 6 #[.int .i64 id, (h.on a c).val, .slice la n cap] w fun e w' => e = .returned (.bool true) ∧ Below w.heap.size w w' := by
  obtain ⟨peer, boot, life, ls, pend, miss⟩ := h
  have C0 := (Bx.nil w).add rfl (.cells #[.int .i64 peer, .int .i64 boot, .int .i64 life, .slice a ls.length c, .bool pend, .int .i64 miss] 24)
  have R1 : RdO _ (HS.mk peer boot life ls pend miss) a c := R.below C0.below
  have K1 := lfit_any id (HS.mk peer boot life ls pend miss) a c _ R1
  rw [hf] at K1
  clear hf R R1
  dsimp only [HS.on, HR.val] at K1 ⊢
  go_enter Try.func6, Try.ntmps6
  go_wp2_with (first
    | (go_at_call 7; refine K1.mono ?_; clear K1; rintro e w1 ⟨rfl, b1⟩)
    | (go_at_call 8; refine (awake_any _).mono ?_; rintro e w2 ⟨rfl, b2⟩))
  go_ret
  have B1 := C0.below.trans (b1.mono C0.below.size)
  exact ⟨rfl, B1.trans (b2.mono B1.size)⟩

theorem tn_live (peer boot life : Int) (ls : List LS) (pd : Bool) (mi sl : Int) (h0 : 0 ≤ mi) (h1 : mi ≤ sl) (h2 : sl ≤ 1) : tnW (HS.mk peer boot life ls pd mi) = 1 ∧ ∃ m, tnH (HS.mk peer boot life ls pd mi) = (HS.mk peer boot life ls true m) ∧ 0 ≤ m ∧ m ≤ sl + 1 := by
  cases pd with
  | true =>
    have hm : ¬ mi + 1 ≥ 3 := by omega
    exact ⟨by unfold tnW; rw [if_pos rfl, if_neg hm], mi + 1, by unfold tnH; rw [if_pos rfl, if_neg hm], by omega, by omega⟩
  | false => exact ⟨rfl, mi, rfl, h0, by omega⟩
set_option maxRecDepth 100000 in
set_option maxHeartbeats 8000000 in
theorem lives_fit (id : Int) (h : HS) (a : Option Addr) (c : Nat) (la : Option Addr) (cap : Nat) (l : List Int) (w : World) (R : RdO w h a c) (L : Row w la l.length cap l) (hB : l.length * 8 ≤ 140737488355328) (hf : h.fit id = true) : Calls Try.prog 6 #[.int .i64 id, (h.on a c).val, .slice la l.length cap] w fun e w' => e = .returned (.bool true) ∧ Below w.heap.size w w' := by
  have kf := okF_fit hf
  have HB : Hid (l.length * 8 ≤ 140737488355328) := hB
  have HLN0 : Hid (h.ls.length * 40 ≤ 140737488355328) := R.few
  obtain ⟨peer, boot, life, ls, pend, miss⟩ := h
  have HLN : Hid (ls.length * 40 ≤ 140737488355328) := HLN0.out
  have C0 := (Bx.nil w).add rfl (.cells #[.int .i64 peer, .int .i64 boot, .int .i64 life, .slice a ls.length c, .bool pend, .int .i64 miss] 24)
  have R1 : RdO _ (HS.mk peer boot life ls pend miss) a c := R.below C0.below
  have K1 := lfit_any id (HS.mk peer boot life ls pend miss) a c _ R1
  rw [hf] at K1
  have K2 : ∀ W, RdO W (HS.mk peer boot life ls pend miss) a c → Calls Try.prog 16 #[((HS.mk peer boot life ls pend miss).on a c).val] W fun e w' => ∃ a' c', e = .returned ((HS.mk peer boot life ls pend 0).on a' c').val ∧ Own W.heap.size w' (HS.mk peer boot life ls pend 0) a' c' ∧ Below W.heap.size W w' := fun W r => mheard_any (HS.mk peer boot life ls pend miss) a c W r
  clear hf kf R1 hB HLN0
  dsimp only [HS.on, HR.val] at K1 K2 ⊢
  go_enter Try.func6, Try.ntmps6
  go_wp2_with (first
    | (go_at_call 7; refine K1.mono ?_; clear K1; rintro e w1 ⟨rfl, b1⟩; have B1 := C0.below.trans (b1.mono C0.below.size); have XH : w1.heap[w.heap.size]? = some (.cells ((HS.mk peer boot life ls pend miss).on a c).cells.toArray 24 (0, 0)) := (b1.block _ (row_lt (C0.at0 _ rfl))).trans (C0.at0 _ rfl); clear b1)
    | ((with_reducible show wpList _ _ _ (Oper.mk _ (Op.load 24 (Operand.tmp 4)) _ _ _ _ :: _) _ _); refine wpList_load24 rfl _ rfl w.heap.size 0 ((HS.mk peer boot life ls pend miss).on a c) rfl (range_rowH XH) ?_; dsimp only [HS.on, HR.val])
    | (go_at_call 16; refine (K2 _ (R.below B1)).mono ?_; clear K2; rintro e w2 ⟨a2, c2, rfl, O2, b2⟩; have B2 := B1.trans (b2.mono B1.size); have XH := (b2.block _ (row_lt XH)).trans XH; clear b2)
    | ((with_reducible show wpList _ _ _ (Oper.mk _ (Op.store 24 (Operand.tmp 7) _) _ _ _ _ :: _) _ _); refine wpList_put24 rfl _ _ rfl ((HS.mk peer boot life ls pend 0).on a2 c2) (g := w2.heap.size) (cs := z6) (heap_new rfl) rfl rfl rfl ?_; intro w3 T3 o3 z3; clear z3))
  have S0 : DrSt w w2.heap.size ((HS.mk peer boot life ls pend miss).on a c) (HS.mk peer boot life ls pend 0) w3 := by
    have b3 := below_put o3
    have B3 := B2.trans (b3.mono B2.size)
    exact ⟨B3, (b3.block _ (row_lt XH)).trans XH, row_lt XH, a2, c2, T3, RdL.below (O2.rd HLN.out) b3⟩
  obtain ⟨G, hG⟩ : ∃ G, w2.heap.size = G := ⟨_, rfl⟩
  simp only [hG] at S0 ⊢
  have HS0 : Hid (DrSt w G ((HS.mk peer boot life ls pend miss).on a c) (HS.mk peer boot life ls pend 0) w3) := S0
  clear S0 C0 R o3 T3 XH B2 B1 O2
  go_loopg [8, 21] l.length (fun gk v8 v21 wr => ∃ (i : Nat) (pd : Bool) (mi sl : Int), v8 = .int .i64 sl ∧ v21 = .int .i64 (i : Int) ∧ i + gk = l.length ∧ DrSt w G ((HS.mk peer boot life ls pend miss).on a c) (HS.mk peer boot life ls pd mi) wr ∧ 0 ≤ sl ∧ sl ≤ 2 ∧ 0 ≤ mi ∧ mi ≤ sl)
  case atStart => exact ⟨0, pend, 0, 0, by first | rfl | go_num, by first | rfl | go_num, by omega, HS0.out, by decide, by decide, by decide, by decide⟩
  case round =>
    obtain ⟨i, pd, mi, sl, rfl, rfl, hgk, St, s0, s1, m0, m1⟩ := hrel
    clear HS0
    have HMI : Hid (0 ≤ mi ∧ mi ≤ sl) := ⟨m0, m1⟩
    have HSL : Hid (0 ≤ sl ∧ sl ≤ 2) := ⟨s0, s1⟩
    clear m0 m1
    obtain ⟨a6, c6, hcur, RX⟩ := St.cur
    by_cases hi : i < l.length
    case pos =>
      have HI : Hid (i < l.length) := hi
      have hiI : (i : Int) < (l.length : Int) := by omega
      have hwr : IntKind.i64.wrap ((i : Int) + 1) = (i : Int) + 1 := by rw [IntKind.wrap_i64]; have := HB.out; omega
      have hws : IntKind.i64.wrap (sl + 1) = sl + 1 := by rw [IntKind.wrap_i64]; omega
      obtain ⟨lb, lo, rfl, hlb, hc0⟩ := L.at hi
      have hc : wr.cell? ⟨lb, lo + i, none⟩ = some (.int .i64 (l.getD i 0)) := (St.below.cell (p := ⟨lb, lo + i, none⟩) hlb).trans hc0
      clear hc0
      obtain ⟨n, hn⟩ : ∃ n, l.getD i 0 = n := ⟨_, rfl⟩
      rw [hn] at hc
      have HSt : Hid (DrSt w G ((HS.mk peer boot life ls pend miss).on a c) (HS.mk peer boot life ls pd mi) wr) := St
      clear hn St s0 s1
      by_cases q4 : (IntKind.u64.wrap n).tmod 4 = 0
      · by_cases q2 : (IntKind.u64.wrap n).tmod 2 = 0
        · have KH : ∀ W, RdO W (HS.mk peer boot life ls pd mi) a6 c6 → Calls Try.prog 16 #[((HS.mk peer boot life ls pd mi).on a6 c6).val] W fun e w' => ∃ a' c', e = .returned ((HS.mk peer boot life ls pd 0).on a' c').val ∧ Own W.heap.size w' (HS.mk peer boot life ls pd 0) a' c' ∧ Below W.heap.size W w' := fun W r => mheard_any (HS.mk peer boot life ls pd mi) a6 c6 W r
          obtain ⟨eW, m, eH, m0, m1⟩ := tn_live peer boot life ls pd 0 0 (Int.le_refl _) (Int.le_refl _) (by decide)
          have KT := fun a c W r => mturn_any (HS.mk peer boot life ls pd 0) a c W r ⟨Int.le_refl _, by show (0 : Int) < 3; decide⟩
          simp only [eW, eH] at KT
          have hm3 : ¬ m ≥ 3 := by have := HSL.out; omega
          clear eW eH
          go_wp2_with (first
            | (go_at_call 16; refine (KH _ RX).mono ?_; clear KH; rintro e w7 ⟨a7, c7, rfl, O7, b7⟩; have S7 := HSt.out.later b7; obtain ⟨a8, c8, hc8, _⟩ := S7.cur)
            | ((with_reducible show wpList _ _ _ (Oper.mk _ (Op.store 24 (Operand.tmp 7) _) _ _ _ _ :: _) _ _); refine wpList_put24 rfl _ _ rfl ((HS.mk peer boot life ls pd 0).on a7 c7) hc8 rfl rfl rfl ?_; intro w9 T9 o9 z9; clear z9; have S9 := S7.put O7 HLN.out T9 o9; have R9 : RdO w9 (HS.mk peer boot life ls pd 0) a7 c7 := (own_only O7 o9 hc8 (by decide)).rd HLN.out; clear hc8 S7 O7 o9 b7)
            | ((with_reducible show wpList _ _ _ (Oper.mk _ (Op.load 24 (Operand.tmp 7)) _ _ _ _ :: _) _ _); refine wpList_load24 rfl _ rfl G 0 ((HS.mk peer boot life ls pd 0).on a7 c7) rfl (range_rowH T9) ?_)
            | (go_at_call 9; refine (KT a7 c7 _ R9).mono ?_; clear KT; rintro e w10 ⟨a10, c10, rfl, O10, b10⟩; have S10 := S9.later b10; have hc10 := (b10.block _ (row_lt T9)).trans T9)
            | ((with_reducible show wpList _ _ _ (Oper.mk _ (Op.load 24 (Operand.tmp 7)) _ _ _ _ :: _) _ _); refine wpList_load24 rfl _ rfl G 0 ((HS.mk peer boot life ls pd mi).on a6 c6) rfl (range_rowH hcur) ?_)
            | ((with_reducible show wpList _ _ _ (Oper.mk _ (Op.store 24 (Operand.tmp 7) _) _ _ _ _ :: _) _ _); refine wpList_put24 rfl _ _ rfl ((HS.mk peer boot life ls true m).on a10 c10) hc10 rfl rfl rfl ?_; intro w11 T11 o11 z11; clear z11; have S11 := S10.put O10 HLN.out T11 o11; have p5 := row_cell T11 5 (.int .i64 m) rfl; clear hc10 S10 O10 o11 b10))
          go_roundg (gk - 1)
          case measure => omega
          case rel => exact ⟨i + 1, true, m, 0 + 1, by first | rfl | go_num, by first | rfl | go_num, by omega, S11, by have := HSL.out; omega, by have := HSL.out; omega, m0, m1⟩
        · have KH : ∀ W, RdO W (HS.mk peer boot life ls pd mi) a6 c6 → Calls Try.prog 18 #[((HS.mk peer boot life ls pd mi).on a6 c6).val] W fun e w' => ∃ a' c', e = .returned ((HS.mk peer boot life ls false 0).on a' c').val ∧ Own W.heap.size w' (HS.mk peer boot life ls false 0) a' c' ∧ Below W.heap.size W w' := fun W r => manswered_any (HS.mk peer boot life ls pd mi) a6 c6 W r
          obtain ⟨eW, m, eH, m0, m1⟩ := tn_live peer boot life ls false 0 0 (Int.le_refl _) (Int.le_refl _) (by decide)
          have KT := fun a c W r => mturn_any (HS.mk peer boot life ls false 0) a c W r ⟨Int.le_refl _, by show (0 : Int) < 3; decide⟩
          simp only [eW, eH] at KT
          have hm3 : ¬ m ≥ 3 := by have := HSL.out; omega
          clear eW eH
          go_wp2_with (first
            | (go_at_call 18; refine (KH _ RX).mono ?_; clear KH; rintro e w7 ⟨a7, c7, rfl, O7, b7⟩; have S7 := HSt.out.later b7; obtain ⟨a8, c8, hc8, _⟩ := S7.cur)
            | ((with_reducible show wpList _ _ _ (Oper.mk _ (Op.store 24 (Operand.tmp 7) _) _ _ _ _ :: _) _ _); refine wpList_put24 rfl _ _ rfl ((HS.mk peer boot life ls false 0).on a7 c7) hc8 rfl rfl rfl ?_; intro w9 T9 o9 z9; clear z9; have S9 := S7.put O7 HLN.out T9 o9; have R9 : RdO w9 (HS.mk peer boot life ls false 0) a7 c7 := (own_only O7 o9 hc8 (by decide)).rd HLN.out; clear hc8 S7 O7 o9 b7)
            | ((with_reducible show wpList _ _ _ (Oper.mk _ (Op.load 24 (Operand.tmp 7)) _ _ _ _ :: _) _ _); refine wpList_load24 rfl _ rfl G 0 ((HS.mk peer boot life ls false 0).on a7 c7) rfl (range_rowH T9) ?_)
            | (go_at_call 9; refine (KT a7 c7 _ R9).mono ?_; clear KT; rintro e w10 ⟨a10, c10, rfl, O10, b10⟩; have S10 := S9.later b10; have hc10 := (b10.block _ (row_lt T9)).trans T9)
            | ((with_reducible show wpList _ _ _ (Oper.mk _ (Op.load 24 (Operand.tmp 7)) _ _ _ _ :: _) _ _); refine wpList_load24 rfl _ rfl G 0 ((HS.mk peer boot life ls pd mi).on a6 c6) rfl (range_rowH hcur) ?_)
            | ((with_reducible show wpList _ _ _ (Oper.mk _ (Op.store 24 (Operand.tmp 7) _) _ _ _ _ :: _) _ _); refine wpList_put24 rfl _ _ rfl ((HS.mk peer boot life ls true m).on a10 c10) hc10 rfl rfl rfl ?_; intro w11 T11 o11 z11; clear z11; have S11 := S10.put O10 HLN.out T11 o11; have p5 := row_cell T11 5 (.int .i64 m) rfl; clear hc10 S10 O10 o11 b10))
          go_roundg (gk - 1)
          case measure => omega
          case rel => exact ⟨i + 1, true, m, 0 + 1, by first | rfl | go_num, by first | rfl | go_num, by omega, S11, by have := HSL.out; omega, by have := HSL.out; omega, m0, m1⟩
      · by_cases hs : sl = 2
        · subst hs
          by_cases q2 : (IntKind.u64.wrap n).tmod 2 = 0
          · have KH : ∀ W, RdO W (HS.mk peer boot life ls pd mi) a6 c6 → Calls Try.prog 16 #[((HS.mk peer boot life ls pd mi).on a6 c6).val] W fun e w' => ∃ a' c', e = .returned ((HS.mk peer boot life ls pd 0).on a' c').val ∧ Own W.heap.size w' (HS.mk peer boot life ls pd 0) a' c' ∧ Below W.heap.size W w' := fun W r => mheard_any (HS.mk peer boot life ls pd mi) a6 c6 W r
            obtain ⟨eW, m, eH, m0, m1⟩ := tn_live peer boot life ls pd 0 0 (Int.le_refl _) (Int.le_refl _) (by decide)
            have KT := fun a c W r => mturn_any (HS.mk peer boot life ls pd 0) a c W r ⟨Int.le_refl _, by show (0 : Int) < 3; decide⟩
            simp only [eW, eH] at KT
            have hm3 : ¬ m ≥ 3 := by have := HSL.out; omega
            clear eW eH
            go_wp2_with (first
              | (go_at_call 16; refine (KH _ RX).mono ?_; clear KH; rintro e w7 ⟨a7, c7, rfl, O7, b7⟩; have S7 := HSt.out.later b7; obtain ⟨a8, c8, hc8, _⟩ := S7.cur)
              | ((with_reducible show wpList _ _ _ (Oper.mk _ (Op.store 24 (Operand.tmp 7) _) _ _ _ _ :: _) _ _); refine wpList_put24 rfl _ _ rfl ((HS.mk peer boot life ls pd 0).on a7 c7) hc8 rfl rfl rfl ?_; intro w9 T9 o9 z9; clear z9; have S9 := S7.put O7 HLN.out T9 o9; have R9 : RdO w9 (HS.mk peer boot life ls pd 0) a7 c7 := (own_only O7 o9 hc8 (by decide)).rd HLN.out; clear hc8 S7 O7 o9 b7)
              | ((with_reducible show wpList _ _ _ (Oper.mk _ (Op.load 24 (Operand.tmp 7)) _ _ _ _ :: _) _ _); refine wpList_load24 rfl _ rfl G 0 ((HS.mk peer boot life ls pd 0).on a7 c7) rfl (range_rowH T9) ?_)
              | (go_at_call 9; refine (KT a7 c7 _ R9).mono ?_; clear KT; rintro e w10 ⟨a10, c10, rfl, O10, b10⟩; have S10 := S9.later b10; have hc10 := (b10.block _ (row_lt T9)).trans T9)
              | ((with_reducible show wpList _ _ _ (Oper.mk _ (Op.load 24 (Operand.tmp 7)) _ _ _ _ :: _) _ _); refine wpList_load24 rfl _ rfl G 0 ((HS.mk peer boot life ls pd mi).on a6 c6) rfl (range_rowH hcur) ?_)
              | ((with_reducible show wpList _ _ _ (Oper.mk _ (Op.store 24 (Operand.tmp 7) _) _ _ _ _ :: _) _ _); refine wpList_put24 rfl _ _ rfl ((HS.mk peer boot life ls true m).on a10 c10) hc10 rfl rfl rfl ?_; intro w11 T11 o11 z11; clear z11; have S11 := S10.put O10 HLN.out T11 o11; have p5 := row_cell T11 5 (.int .i64 m) rfl; clear hc10 S10 O10 o11 b10))
            go_roundg (gk - 1)
            case measure => omega
            case rel => exact ⟨i + 1, true, m, 0 + 1, by first | rfl | go_num, by first | rfl | go_num, by omega, S11, by have := HSL.out; omega, by have := HSL.out; omega, m0, m1⟩
          · have KH : ∀ W, RdO W (HS.mk peer boot life ls pd mi) a6 c6 → Calls Try.prog 18 #[((HS.mk peer boot life ls pd mi).on a6 c6).val] W fun e w' => ∃ a' c', e = .returned ((HS.mk peer boot life ls false 0).on a' c').val ∧ Own W.heap.size w' (HS.mk peer boot life ls false 0) a' c' ∧ Below W.heap.size W w' := fun W r => manswered_any (HS.mk peer boot life ls pd mi) a6 c6 W r
            obtain ⟨eW, m, eH, m0, m1⟩ := tn_live peer boot life ls false 0 0 (Int.le_refl _) (Int.le_refl _) (by decide)
            have KT := fun a c W r => mturn_any (HS.mk peer boot life ls false 0) a c W r ⟨Int.le_refl _, by show (0 : Int) < 3; decide⟩
            simp only [eW, eH] at KT
            have hm3 : ¬ m ≥ 3 := by have := HSL.out; omega
            clear eW eH
            go_wp2_with (first
              | (go_at_call 18; refine (KH _ RX).mono ?_; clear KH; rintro e w7 ⟨a7, c7, rfl, O7, b7⟩; have S7 := HSt.out.later b7; obtain ⟨a8, c8, hc8, _⟩ := S7.cur)
              | ((with_reducible show wpList _ _ _ (Oper.mk _ (Op.store 24 (Operand.tmp 7) _) _ _ _ _ :: _) _ _); refine wpList_put24 rfl _ _ rfl ((HS.mk peer boot life ls false 0).on a7 c7) hc8 rfl rfl rfl ?_; intro w9 T9 o9 z9; clear z9; have S9 := S7.put O7 HLN.out T9 o9; have R9 : RdO w9 (HS.mk peer boot life ls false 0) a7 c7 := (own_only O7 o9 hc8 (by decide)).rd HLN.out; clear hc8 S7 O7 o9 b7)
              | ((with_reducible show wpList _ _ _ (Oper.mk _ (Op.load 24 (Operand.tmp 7)) _ _ _ _ :: _) _ _); refine wpList_load24 rfl _ rfl G 0 ((HS.mk peer boot life ls false 0).on a7 c7) rfl (range_rowH T9) ?_)
              | (go_at_call 9; refine (KT a7 c7 _ R9).mono ?_; clear KT; rintro e w10 ⟨a10, c10, rfl, O10, b10⟩; have S10 := S9.later b10; have hc10 := (b10.block _ (row_lt T9)).trans T9)
              | ((with_reducible show wpList _ _ _ (Oper.mk _ (Op.load 24 (Operand.tmp 7)) _ _ _ _ :: _) _ _); refine wpList_load24 rfl _ rfl G 0 ((HS.mk peer boot life ls pd mi).on a6 c6) rfl (range_rowH hcur) ?_)
              | ((with_reducible show wpList _ _ _ (Oper.mk _ (Op.store 24 (Operand.tmp 7) _) _ _ _ _ :: _) _ _); refine wpList_put24 rfl _ _ rfl ((HS.mk peer boot life ls true m).on a10 c10) hc10 rfl rfl rfl ?_; intro w11 T11 o11 z11; clear z11; have S11 := S10.put O10 HLN.out T11 o11; have p5 := row_cell T11 5 (.int .i64 m) rfl; clear hc10 S10 O10 o11 b10))
            go_roundg (gk - 1)
            case measure => omega
            case rel => exact ⟨i + 1, true, m, 0 + 1, by first | rfl | go_num, by first | rfl | go_num, by omega, S11, by have := HSL.out; omega, by have := HSL.out; omega, m0, m1⟩
        · have hq : ((IntKind.u64.wrap n).tmod 4 == 0 || sl == 2) = false := by simp [q4, hs]
          obtain ⟨eW, m, eH, m0, m1⟩ := tn_live peer boot life ls pd mi sl HMI.out.1 HMI.out.2 (by have := HSL.out; omega)
          have KT := fun a c W r => mturn_any (HS.mk peer boot life ls pd mi) a c W r ⟨HMI.out.1, by show mi < 3; have := HMI.out; have := HSL.out; omega⟩
          simp only [eW, eH] at KT
          have hm3 : ¬ m ≥ 3 := by have := HSL.out; omega
          clear eW eH
          go_wp2_with (first
            | (go_at_call 9; refine (KT a6 c6 _ RX).mono ?_; clear KT; rintro e w10 ⟨a10, c10, rfl, O10, b10⟩; have S10 := HSt.out.later b10; have hc10 := (b10.block _ (row_lt hcur)).trans hcur)
            | ((with_reducible show wpList _ _ _ (Oper.mk _ (Op.load 24 (Operand.tmp 7)) _ _ _ _ :: _) _ _); refine wpList_load24 rfl _ rfl G 0 ((HS.mk peer boot life ls pd mi).on a6 c6) rfl (range_rowH hcur) ?_)
            | ((with_reducible show wpList _ _ _ (Oper.mk _ (Op.store 24 (Operand.tmp 7) _) _ _ _ _ :: _) _ _); refine wpList_put24 rfl _ _ rfl ((HS.mk peer boot life ls true m).on a10 c10) hc10 rfl rfl rfl ?_; intro w11 T11 o11 z11; clear z11; have S11 := S10.put O10 HLN.out T11 o11; have p5 := row_cell T11 5 (.int .i64 m) rfl; clear hc10 S10 O10 o11 b10))
          go_roundg (gk - 1)
          case measure => omega
          case rel => exact ⟨i + 1, true, m, sl + 1, by first | rfl | go_num, by first | rfl | go_num, by omega, S11, by have := HSL.out; omega, by have := HSL.out; omega, m0, m1⟩
    case neg =>
      have hiI : ¬ (i : Int) < (l.length : Int) := by omega
      have p0 := row_cell hcur 0 (.int .i64 peer) rfl
      have p3 := row_cell hcur 3 (.slice a6 ls.length c6) rfl
      have q0 := row_cell St.hb 0 (.int .i64 peer) rfl
      have q3 := row_cell St.hb 3 (.slice a ls.length c) rfl
      go_wp2_with (go_at_call 8; refine (awake_any _).mono ?_; rintro e w8 ⟨rfl, b8⟩)
      go_ret
      exact ⟨rfl, St.below.trans (b8.mono St.below.size)⟩
theorem lives_walk (id : Int) (h : HS) (a : Option Addr) (c : Nat) (la : Option Addr) (cap : Nat) (l : List Int) (w : World) (R : RdO w h a c) (L : Row w la l.length cap l) (hB : l.length * 8 ≤ 140737488355328) : Calls Try.prog 6 #[.int .i64 id, (h.on a c).val, .slice la l.length cap] w fun e w' => e = .returned (.bool true) ∧ Below w.heap.size w w' := by
  cases hf : h.fit id with
  | true => exact lives_fit id h a c la cap l w R L hB hf
  | false => exact lives_unfit id h a c la l.length cap w R hf
end Go.Proofs.Ytifkkkfejbgifaa
