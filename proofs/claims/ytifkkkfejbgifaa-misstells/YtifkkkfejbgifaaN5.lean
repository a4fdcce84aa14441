/-
  The document's Play.
-/
import Derived.Test.YtifkkkfejbgifaaN4
namespace Go.Proofs.Ytifkkkfejbgifaa
open Go.ChangeShapes Go.WideShapes Go.ChangeAt Go.RowKit
set_option linter.unusedVariables false
set_option linter.unusedSimpArgs false

theorem own_grow3 {base b2 i : Nat} {W W' : World} {v : Value} {xs : List Value} {h : HS} {a : Option Addr} {c : Nat} (row : W.ownsRow base 3 1 v i xs) (r : W.grownBy W' v.ownBlock) (o : Own b2 W h a c) : Own b2 W' h a c := by
  refine ⟨?_, o.new⟩
  refine o.lst.of_block fun g off e => ?_
  rcases o.lst.mem with ⟨e', _⟩ | ⟨g', off', cur, e', hh, _⟩
  · rw [e'] at e; cases e
  · rw [e'] at e; cases e
    exact r.block g (row_lt hh) (owns_ne row hh (by decide))
/-- What the document's Play keeps. -/
structure RpSt (w : World) (B : Nat) (x : HS) (vv : Value) (ts : List Int) (W : World) : Prop where
  below : Below w.heap.size w W
  box : W.heap[w.heap.size + 1]? = some (.cells z6 24 (0, 0))
  lo : w.heap.size + 2 ≤ B
  cur : ∃ a c, W.heap[B]? = some (.cells (x.on a c).cells.toArray 24 (0, 0)) ∧ Own (w.heap.size + 2) W x a c
  row : W.ownsRow (w.heap.size + 2) 3 1 vv ts.length (ts.map iv)
theorem RpSt.later {w : World} {B : Nat} {x : HS} {vv : Value} {ts : List Int} {W W' : World} (S : RpSt w B x vv ts W) (b : Below W.heap.size W W') : RpSt w B x vv ts W' := by
  obtain ⟨a, c, hh, o⟩ := S.cur
  exact ⟨S.below.trans (b.mono S.below.size), (b.block _ (row_lt S.box)).trans S.box, S.lo, ⟨a, c, (b.block _ (row_lt hh)).trans hh, o.below b⟩, owns_later S.row b⟩
theorem RpSt.tell {w : World} {B : Nat} {x : HS} {vv v' : Value} {ts : List Int} {W W' : World} {y : Int} (S : RpSt w B x vv ts W) (r : W.grownBy W' vv.ownBlock) (o : W'.ownsRow (w.heap.size + 2) 3 1 v' (ts.length + 1) (ts.map iv ++ [iv y])) : RpSt w B x v' (ts ++ [y]) W' := by
  obtain ⟨a, c, hh, ow⟩ := S.cur
  have k : ∀ (q : Nat) (t : TypeId) (cs : Array Value), W.heap[q]? = some (Obj.cells cs t (0, 0)) → t ≠ 3 → W'.heap[q]? = some (Obj.cells cs t (0, 0)) := fun q t cs hq ht => (r.block q (row_lt hq) (owns_ne S.row hq ht)).trans hq
  refine ⟨S.below.trans ((Below.refl _ W).grown r S.below.size (fun j e => Nat.le_trans (by omega) (S.row.lt j e).1)), k _ _ _ S.box (by decide), S.lo, ⟨a, c, k _ _ _ hh (by decide), own_grow3 S.row r ow⟩, ?_⟩
  rw [List.length_append, List.map_append]
  exact o
theorem RpSt.put {w : World} {B : Nat} {x y : HS} {vv : Value} {ts : List Int} {W W' : World} {a : Option Addr} {c : Nat} (S : RpSt w B x vv ts W) (O : Own (w.heap.size + 2) W y a c) (h : W'.heap[B]? = some (.cells (y.on a c).cells.toArray 24 (0, 0))) (o : Only (at1 B) W W') : RpSt w B y vv ts W' := by
  obtain ⟨a0, c0, hh, ow⟩ := S.cur
  have hlo := S.lo
  refine ⟨S.below.trans (o.below S.below.size (fun q hq => by cases hq; omega)), only_far o S.box (by omega), S.lo, ⟨a, c, h, own_only O o hh (by decide)⟩, owns_of_block S.row fun q hq => ?_⟩
  refine o.block q (S.row.lt q hq).2 ?_
  intro e
  cases e
  exact owns_ne S.row hh (by decide) hq.symm
set_option maxRecDepth 100000 in
set_option maxHeartbeats 8000000 in
theorem rplay_any (h : HS) (a : Option Addr) (c : Nat) (la : Option Addr) (cap : Nat) (l : List Int) (w : World) (R : RdO w h a c) (L : Row w la l.length cap l) (hB : l.length * 8 ≤ 140737488355328) (k : OkM h) : Calls Try.prog 21 #[(h.on a c).val, .slice la l.length cap] w fun e w' => ∃ a' c' b' d', e = .returned (.tuple #[((plL h l).1.on a' c').val, .slice b' (plL h l).2.length d']) ∧ Own w.heap.size w' (plL h l).1 a' c' ∧ Row w' b' (plL h l).2.length d' (plL h l).2 ∧ Below w.heap.size w w' := by
  have HB : Hid (l.length * 8 ≤ 140737488355328) := hB
  have KH : Hid (OkM h) := k
  have HLN0 : Hid (h.ls.length * 40 ≤ 140737488355328) := R.few
  obtain ⟨peer, boot, life, ls, pend, miss⟩ := h
  have C0 := ((Bx.nil w).add rfl (.cells #[.int .i64 peer, .int .i64 boot, .int .i64 life, .slice a ls.length c, .bool pend, .int .i64 miss] 24)).add (by simp) (.cells z6 24)
  have R1 : RdO _ (HS.mk peer boot life ls pend miss) a c := R.below C0.below
  have K1 := copied_any (HS.mk peer boot life ls pend miss) a c _ R1
  have HF : Hid (Sofar ⟨peer, boot, life, ls, pend, miss⟩ l 0 ⟨peer, boot, life, ls, pend, miss⟩ []) := sofar_0 _ _
  obtain ⟨PF, hPF⟩ : ∃ PF, plL ⟨peer, boot, life, ls, pend, miss⟩ l = PF := ⟨_, rfl⟩
  obtain ⟨h0, hh0⟩ : ∃ h0, HS.mk peer boot life ls pend miss = h0 := ⟨_, rfl⟩
  rw [hh0] at HF KH HLN0
  have HPF : Hid (plL h0 l = PF) := by rw [← hh0]; exact hPF
  rw [hPF]
  clear hPF k hB R
  dsimp only [HS.on, HR.val] at K1 ⊢
  go_enter Try.func21, Try.ntmps21
  go_wp2_with (first
    | (go_at_call 26; refine K1.mono ?_; rintro e w1 ⟨a1, c1, rfl, O1, b1⟩; clear K1)
    | ((with_reducible show wpList _ _ _ (Oper.mk _ (Op.store 24 (Operand.tmp 6) _) _ _ _ _ :: _) _ _); refine wpList_put24 rfl _ _ rfl (HS.on (HS.mk peer boot life ls pend miss) a1 c1) (g := w1.heap.size) (cs := z6) (heap_new rfl) rfl rfl rfl ?_; intro w2 T2 o2 z2))
  have S0 : RpSt w w1.heap.size h0 (.slice none 0 0) [] w2 := by
    rw [hh0] at T2 O1
    have e2 : Below w1.heap.size w1 (w1.alloc (.cells z6 24)) := (Below.refl _ _).alloc (Nat.le_refl _) _
    have b2 : Below w1.heap.size w1 w2 := e2.trans (o2.below e2.size (fun q hq => by cases hq; exact Nat.le_refl _))
    have C1 := (C0.later b1).later b2
    have hz := b1.size
    simp at hz
    have O2 : Own (w.heap.size + 2) w1 h0 a1 c1 := by simpa using O1
    exact ⟨C1.below, C1.at_ 1 _ rfl, by omega, ⟨a1, c1, T2, O2.below b2⟩, World.ownsRow_nil _ _ _ _⟩
  obtain ⟨B, hBB⟩ : ∃ B, w1.heap.size = B := ⟨_, rfl⟩
  simp only [hBB] at S0 ⊢
  have HS0 : Hid (RpSt w B h0 (.slice none 0 0) [] w2) := S0
  clear S0 C0 R1 O1 b1 T2 o2 z2
  go_loopg [7, 8] l.length (fun gk v7 v8 wr => ∃ (i : Nat) (x : HS) (ts : List Int) (vv : Value), vv = v7 ∧ v8 = .int .i64 (i : Int) ∧ i + gk = l.length ∧ RpSt w B x vv ts wr ∧ Sofar h0 l i x ts ∧ ts.length ≤ i ∧ OkM x ∧ x.ls.length * 40 ≤ 140737488355328)
  case atStart => exact ⟨0, h0, [], _, rfl, by first | rfl | go_num, by omega, HS0.out, HF.out, Nat.le_refl _, KH.out, HLN0.out⟩
  case round =>
    obtain ⟨i, x, ts, vv, rfl, rfl, hgk, St, So, hT, kx, hln⟩ := hrel
    clear HS0 HF HLN0
    have HT : Hid (ts.length ≤ i) := hT
    have HSo : Hid (Sofar h0 l i x ts) := So
    have HK : Hid (OkM x) := kx
    have HLN : Hid (x.ls.length * 40 ≤ 140737488355328) := hln
    have HLZ : Hid ((tnH x).ls.length * 40 ≤ 140737488355328) := by
      show _ ≤ _
      unfold tnH
      split
      · split
        · exact Nat.zero_le _
        · exact hln
      · exact hln
    clear hT So kx KH hln
    obtain ⟨a6, c6, hcur, OX⟩ := St.cur
    by_cases hi : i < l.length
    case pos =>
      have HI : Hid (i < l.length) := hi
      have hiI : (i : Int) < (l.length : Int) := by omega
      have hwr : IntKind.i64.wrap ((i : Int) + 1) = (i : Int) + 1 := by rw [IntKind.wrap_i64]; have := HB.out; omega
      obtain ⟨lb, lo, rfl, hlb, hc0⟩ := L.at hi
      have hc : wr.cell? ⟨lb, lo + i, none⟩ = some (.int .i64 (l.getD i 0)) := (St.below.cell (p := ⟨lb, lo + i, none⟩) hlb).trans hc0
      clear hc0
      obtain ⟨n, hn⟩ : ∃ n, l.getD i 0 = n := ⟨_, rfl⟩
      have HN : Hid (l.getD i 0 = n) := hn
      rw [hn] at hc
      clear hn
      have RX : RdO wr x a6 c6 := OX.rd HLN.out
      have HSZ : Hid (w.heap.size + 2 ≤ wr.heap.size) := by
        show _ ≤ _
        have := St.lo
        have := row_lt hcur
        omega
      have HSt : Hid (RpSt w B x vv ts wr) := St
      clear St OX
      by_cases h1 : n = 1
      case pos =>
        subst h1
        have KT := rturn_any x a6 c6 wr RX HK.out
        obtain ⟨Y9, hY9⟩ : ∃ Y9, tnH x = Y9 := ⟨_, rfl⟩
        rcases tnW_cases x with hw | hw
        · have HZ := sofar_ask HSo.out HI.out HN.out hw
          have HKZ := okM_tn HK.out
          have HLY := HLZ.out
          simp only [hw, hY9] at KT HZ HKZ HLY
          go_wp2_with (first
            | (go_at_call 10; refine KT.mono ?_; rintro e w7 ⟨a7, c7, rfl, O7, b7⟩; have S7 := HSt.out.later b7; clear KT)
            | ((with_reducible show wpList _ _ _ (Oper.mk _ (Op.store 24 (Operand.tmp 9) _) _ _ _ _ :: _) _ _); refine wpList_put24 rfl _ _ rfl (HS.on Y9 a7 c7) (g := w7.heap.size) (cs := z6) (heap_new rfl) rfl rfl rfl ?_; intro w8 T8 o8 z8; have HZ8 : Hid (w8.heap.size = (w7.alloc (.cells z6 24)).heap.size) := z8; clear z8; have e8 : Below w7.heap.size w7 (w7.alloc (.cells z6 24)) := (Below.refl _ _).alloc (Nat.le_refl _) _; have b8 : Below w7.heap.size w7 w8 := e8.trans (o8.below e8.size (fun q hq => by cases hq; exact Nat.le_refl _)); have S8 := S7.later b8; have Q8 := (O7.mono HSZ.out).below b8; have hc8 := (b8.block _ (row_lt ((b7.block _ (row_lt hcur)).trans hcur))).trans ((b7.block _ (row_lt hcur)).trans hcur))
            | ((with_reducible show wpList _ _ _ (Oper.mk _ (Op.call { callee := Callee.builtin Builtin.append, args := _, argTypes := #[36, 36] }) _ _ _ _ :: _) _ _); go_must (have A8 := S8.later ((Below.refl _ _).alloc (Nat.le_refl _) (.cells #[.int .i64 1] 3)); have X8 := World.alloc_heap_new w8 (.cells #[.int .i64 1] 3); refine wpList_append_int rfl _ _ rfl (w.heap.size + 2) vv ts.length (ts.map iv) rfl A8.row ⟨w8.heap.size, 0, none⟩ 1 rfl (fun j u hj => by rw [add_plain, Nat.zero_add]; exact row_cell X8 j u (by simpa using hj)) (by have := HB.out; have := HI.out; have := HT.out; omega) (by have := HSZ.out; have := S8.below.size; have := b7.size; have h1 := HZ8.out; simp at h1 ⊢; omega) ?_; intro g9 c9 w9 O9 r9; have S9 := A8.tell r9 O9; have T9 := (r9.block _ (row_lt (heap_old (row_lt T8) T8)) (owns_ne A8.row (heap_old (o := .cells #[.int .i64 1] 3) (row_lt T8) T8) (by decide))).trans (heap_old (row_lt T8) T8); have Q9 := own_grow3 A8.row r9 (Q8.below ((Below.refl _ _).alloc (Nat.le_refl _) (.cells #[.int .i64 1] 3))); have hc9 := (r9.block _ (row_lt (heap_old (row_lt hc8) hc8)) (owns_ne A8.row (heap_old (o := .cells #[.int .i64 1] 3) (row_lt hc8) hc8) (by decide))).trans (heap_old (row_lt hc8) hc8)))
            | ((with_reducible show wpList _ _ _ (Oper.mk _ (Op.load 24 (Operand.tmp 9)) _ _ _ _ :: _) _ _); refine wpList_load24 rfl _ rfl w7.heap.size 0 (HS.on Y9 a7 c7) rfl (range_rowH T9) ?_)
            | ((with_reducible show wpList _ _ _ (Oper.mk _ (Op.store 24 (Operand.tmp 6) _) _ _ _ _ :: _) _ _); refine wpList_put24 rfl _ _ rfl (HS.on Y9 a7 c7) hc9 rfl rfl rfl ?_; intro w10 T10 o10 z10; have S10 := S9.put Q9 T10 o10)
            | ((with_reducible show wpList _ _ _ (Oper.mk _ (Op.load 24 (Operand.tmp 6)) _ _ _ _ :: _) _ _); refine wpList_load24 rfl _ rfl B 0 (HS.on Y9 a7 c7) rfl (range_rowH T10) ?_)
            | ((with_reducible show wpList _ _ _ (Oper.mk _ (Op.load 24 (Operand.tmp 6)) _ _ _ _ :: _) _ _); refine wpList_load24 rfl _ rfl B 0 (x.on a6 c6) rfl (range_rowH hcur) ?_)
            | ((with_reducible show wpList _ _ _ (Oper.mk _ (Op.store 24 (Operand.tmp 4) _) _ _ _ _ :: _) _ _); refine wpList_put24 rfl _ _ rfl (HS.on Y9 a7 c7) S10.box rfl rfl rfl ?_; intro w11 T11 o11 z11))
          go_roundg (gk - 1)
          case measure => omega
          case rel => exact ⟨i + 1, _, _, _, rfl, by first | rfl | go_num, by omega, S10, HZ, by have := HT.out; simp; omega, HKZ, HLY⟩
        · have HE := sofar_drop HSo.out HI.out HN.out hw
          rw [HPF.out] at HE
          subst HE
          have hl2 : (ts ++ [2]).length = ts.length + 1 := by simp
          simp only [hw, hY9] at KT
          go_wp2_with (first
            | (go_at_call 10; refine KT.mono ?_; rintro e w7 ⟨a7, c7, rfl, O7, b7⟩; have S7 := HSt.out.later b7; clear KT)
            | ((with_reducible show wpList _ _ _ (Oper.mk _ (Op.store 24 (Operand.tmp 9) _) _ _ _ _ :: _) _ _); refine wpList_put24 rfl _ _ rfl (HS.on Y9 a7 c7) (g := w7.heap.size) (cs := z6) (heap_new rfl) rfl rfl rfl ?_; intro w8 T8 o8 z8; have HZ8 : Hid (w8.heap.size = (w7.alloc (.cells z6 24)).heap.size) := z8; clear z8; have e8 : Below w7.heap.size w7 (w7.alloc (.cells z6 24)) := (Below.refl _ _).alloc (Nat.le_refl _) _; have b8 : Below w7.heap.size w7 w8 := e8.trans (o8.below e8.size (fun q hq => by cases hq; exact Nat.le_refl _)); have S8 := S7.later b8; have Q8 := (O7.mono HSZ.out).below b8; have hc8 := (b8.block _ (row_lt ((b7.block _ (row_lt hcur)).trans hcur))).trans ((b7.block _ (row_lt hcur)).trans hcur))
            | ((with_reducible show wpList _ _ _ (Oper.mk _ (Op.call { callee := Callee.builtin Builtin.append, args := _, argTypes := #[36, 36] }) _ _ _ _ :: _) _ _); go_must (have A8 := S8.later ((Below.refl _ _).alloc (Nat.le_refl _) (.cells #[.int .i64 2] 3)); have X8 := World.alloc_heap_new w8 (.cells #[.int .i64 2] 3); refine wpList_append_int rfl _ _ rfl (w.heap.size + 2) vv ts.length (ts.map iv) rfl A8.row ⟨w8.heap.size, 0, none⟩ 2 rfl (fun j u hj => by rw [add_plain, Nat.zero_add]; exact row_cell X8 j u (by simpa using hj)) (by have := HB.out; have := HI.out; have := HT.out; omega) (by have := HSZ.out; have := S8.below.size; have := b7.size; have h1 := HZ8.out; simp at h1 ⊢; omega) ?_; intro g9 c9 w9 O9 r9; have S9 := A8.tell r9 O9; have T9 := (r9.block _ (row_lt (heap_old (row_lt T8) T8)) (owns_ne A8.row (heap_old (o := .cells #[.int .i64 2] 3) (row_lt T8) T8) (by decide))).trans (heap_old (row_lt T8) T8); have Q9 := own_grow3 A8.row r9 (Q8.below ((Below.refl _ _).alloc (Nat.le_refl _) (.cells #[.int .i64 2] 3))); have hc9 := (r9.block _ (row_lt (heap_old (row_lt hc8) hc8)) (owns_ne A8.row (heap_old (o := .cells #[.int .i64 2] 3) (row_lt hc8) hc8) (by decide))).trans (heap_old (row_lt hc8) hc8)))
            | ((with_reducible show wpList _ _ _ (Oper.mk _ (Op.load 24 (Operand.tmp 9)) _ _ _ _ :: _) _ _); refine wpList_load24 rfl _ rfl w7.heap.size 0 (HS.on Y9 a7 c7) rfl (range_rowH T9) ?_)
            | ((with_reducible show wpList _ _ _ (Oper.mk _ (Op.store 24 (Operand.tmp 6) _) _ _ _ _ :: _) _ _); refine wpList_put24 rfl _ _ rfl (HS.on Y9 a7 c7) hc9 rfl rfl rfl ?_; intro w10 T10 o10 z10; have S10 := S9.put Q9 T10 o10)
            | ((with_reducible show wpList _ _ _ (Oper.mk _ (Op.load 24 (Operand.tmp 6)) _ _ _ _ :: _) _ _); refine wpList_load24 rfl _ rfl B 0 (HS.on Y9 a7 c7) rfl (range_rowH T10) ?_)
            | ((with_reducible show wpList _ _ _ (Oper.mk _ (Op.load 24 (Operand.tmp 6)) _ _ _ _ :: _) _ _); refine wpList_load24 rfl _ rfl B 0 (x.on a6 c6) rfl (range_rowH hcur) ?_)
            | ((with_reducible show wpList _ _ _ (Oper.mk _ (Op.store 24 (Operand.tmp 4) _) _ _ _ _ :: _) _ _); refine wpList_put24 rfl _ _ rfl (HS.on Y9 a7 c7) S10.box rfl rfl rfl ?_; intro w11 T11 o11 z11))
          have Rw := S10.row
          rw [hl2] at Rw
          have Q11 := own_only (own_only Q9 o10 hc9 (by decide)) o11 S10.box (by decide)
          have R11 := owns_row (owns_of_block Rw fun q hq => o11.block q (Rw.lt q hq).2 (by intro e; cases e; exact owns_ne Rw S10.box (by decide) hq.symm))
          have B11 := S10.below.trans (o11.below S10.below.size (fun q hq => by cases hq; omega))
          subst hY9
          exact bodyPost_ret (results_ct rfl _ _ (w.heap.size + 1) _ rfl (load_24 (d := HS.on (tnH x) a7 c7) T11)) rfl ⟨a7, c7, some ⟨g9, 0, none⟩, c9, rfl, Q11.mono (by omega), R11, B11⟩
      case neg =>
        by_cases h2 : n = 2
        case pos =>
          subst h2
          have KT := rasked_any x a6 c6 wr RX
          go_wp2_with (first
            | (go_at_call 15; refine KT.mono ?_; rintro e w7 ⟨a7, c7, rfl, O7, b7⟩; have S7 := HSt.out.later b7; have hc7 := (b7.block _ (row_lt hcur)).trans hcur; clear KT)
            | ((with_reducible show wpList _ _ _ (Oper.mk _ (Op.load 24 (Operand.tmp 6)) _ _ _ _ :: _) _ _); refine wpList_load24 rfl _ rfl B 0 (x.on a6 c6) rfl (range_rowH hcur) ?_)
            | ((with_reducible show wpList _ _ _ (Oper.mk _ (Op.store 24 (Operand.tmp 6) _) _ _ _ _ :: _) _ _); refine wpList_put24 rfl _ _ rfl (HS.on (asH x) a7 c7) hc7 rfl rfl rfl ?_; intro w8 T8 o8 z8))
          have S8 := S7.put (O7.mono HSZ.out) T8 o8
          go_roundg (gk - 1)
          case measure => omega
          case rel => exact ⟨i + 1, _, _, _, rfl, by first | rfl | go_num, by omega, S8, by have := sofar_else HSo.out HI.out (by rw [HN.out]; decide); rw [HN.out] at this; exact this, by have := HT.out; omega, okM_as HK.out, HLN.out⟩
        case neg =>
          by_cases h3 : n = 3
          case pos =>
            subst h3
            have KT := rheard_any x a6 c6 wr RX
            go_wp2_with (first
              | (go_at_call 17; refine KT.mono ?_; rintro e w7 ⟨a7, c7, rfl, O7, b7⟩; have S7 := HSt.out.later b7; have hc7 := (b7.block _ (row_lt hcur)).trans hcur; clear KT)
              | ((with_reducible show wpList _ _ _ (Oper.mk _ (Op.load 24 (Operand.tmp 6)) _ _ _ _ :: _) _ _); refine wpList_load24 rfl _ rfl B 0 (x.on a6 c6) rfl (range_rowH hcur) ?_)
              | ((with_reducible show wpList _ _ _ (Oper.mk _ (Op.store 24 (Operand.tmp 6) _) _ _ _ _ :: _) _ _); refine wpList_put24 rfl _ _ rfl (HS.on (heH x) a7 c7) hc7 rfl rfl rfl ?_; intro w8 T8 o8 z8))
            have S8 := S7.put (O7.mono HSZ.out) T8 o8
            go_roundg (gk - 1)
            case measure => omega
            case rel => exact ⟨i + 1, _, _, _, rfl, by first | rfl | go_num, by omega, S8, by have := sofar_else HSo.out HI.out (by rw [HN.out]; decide); rw [HN.out] at this; exact this, by have := HT.out; omega, okM_he x, HLN.out⟩
          case neg =>
            by_cases h4 : n = 4
            case pos =>
              subst h4
              have KT := ranswered_any x a6 c6 wr RX
              go_wp2_with (first
                | (go_at_call 19; refine KT.mono ?_; rintro e w7 ⟨a7, c7, rfl, O7, b7⟩; have S7 := HSt.out.later b7; have hc7 := (b7.block _ (row_lt hcur)).trans hcur; clear KT)
                | ((with_reducible show wpList _ _ _ (Oper.mk _ (Op.load 24 (Operand.tmp 6)) _ _ _ _ :: _) _ _); refine wpList_load24 rfl _ rfl B 0 (x.on a6 c6) rfl (range_rowH hcur) ?_)
                | ((with_reducible show wpList _ _ _ (Oper.mk _ (Op.store 24 (Operand.tmp 6) _) _ _ _ _ :: _) _ _); refine wpList_put24 rfl _ _ rfl (HS.on (anH x) a7 c7) hc7 rfl rfl rfl ?_; intro w8 T8 o8 z8))
              have S8 := S7.put (O7.mono HSZ.out) T8 o8
              go_roundg (gk - 1)
              case measure => omega
              case rel => exact ⟨i + 1, _, _, _, rfl, by first | rfl | go_num, by omega, S8, by have := sofar_else HSo.out HI.out (by rw [HN.out]; decide); rw [HN.out] at this; exact this, by have := HT.out; omega, okM_an x, HLN.out⟩
            case neg =>
              have hS : Sofar h0 l (i + 1) x ts := by
                have := sofar_else HSo.out HI.out (by rw [HN.out]; exact h1)
                rw [HN.out] at this
                unfold plS at this
                rw [if_neg h1, if_neg h2, if_neg h3, if_neg h4] at this
                exact this
              go_wp2
              go_roundg (gk - 1)
              case measure => omega
              case rel => exact ⟨i + 1, _, _, _, rfl, by first | rfl | go_num, by omega, HSt.out, hS, by have := HT.out; omega, HK.out, HLN.out⟩
    case neg =>
      have hiI : ¬ (i : Int) < (l.length : Int) := by omega
      have HE := sofar_end HSo.out (by omega)
      rw [HPF.out] at HE
      subst HE
      go_wp2_with (first
        | ((with_reducible show wpList _ _ _ (Oper.mk _ (Op.load 24 (Operand.tmp 6)) _ _ _ _ :: _) _ _); refine wpList_load24 rfl _ rfl B 0 (x.on a6 c6) rfl (range_rowH hcur) ?_)
        | ((with_reducible show wpList _ _ _ (Oper.mk _ (Op.store 24 (Operand.tmp 4) _) _ _ _ _ :: _) _ _); refine wpList_put24 rfl _ _ rfl (HS.on x a6 c6) St.box rfl rfl rfl ?_; intro w11 T11 o11 z11))
      obtain ⟨b9, d9, e9⟩ := owns_slice St.row
      subst e9
      have Q11 := own_only OX o11 St.box (by decide)
      have R11 := owns_row (owns_of_block St.row fun q hq => o11.block q (St.row.lt q hq).2 (by intro e; cases e; exact owns_ne St.row St.box (by decide) hq.symm))
      have B11 := St.below.trans (o11.below St.below.size (fun q hq => by cases hq; omega))
      exact bodyPost_ret (results_ct rfl _ _ (w.heap.size + 1) _ rfl (load_24 (d := HS.on x a6 c6) T11)) rfl ⟨a6, c6, b9, d9, rfl, Q11.mono (by omega), R11, B11⟩
end Go.Proofs.Ytifkkkfejbgifaa
