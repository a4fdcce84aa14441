/-
  What the law MissDrops comes to.
-/
import Derived.Test.YtifkkkfejbgifaaW1
namespace Go.Proofs.Ytifkkkfejbgifaa
open Go.ChangeShapes Go.WideShapes Go.ChangeAt Go.RowKit
set_option linter.unusedVariables false
set_option linter.unusedSimpArgs false

set_option maxRecDepth 100000 in
set_option maxHeartbeats 4000000 in
theorem drops_unfit (id : Int) (h : HS) (a : Option Addr) (c : Nat) (w : World) (R : RdO w h a c) (hf : h.fit id = false) : Calls Try.prog 5 #[.int .i64 id, (h.on a c).val] w fun e w' => e = .returned (.bool true) ∧ Below w.heap.size w w' := by
  obtain ⟨peer, boot, life, ls, pend, miss⟩ := h
  have C0 := (Bx.nil w).add rfl (.cells #[.int .i64 peer, .int .i64 boot, .int .i64 life, .slice a ls.length c, .bool pend, .int .i64 miss] 24)
  have R1 : RdO _ (HS.mk peer boot life ls pend miss) a c := R.below C0.below
  have K1 := lfit_any id (HS.mk peer boot life ls pend miss) a c _ R1
  rw [hf] at K1
  clear hf R R1
  dsimp only [HS.on, HR.val] at K1 ⊢
  go_enter Try.func5, Try.ntmps5
  go_wp2_with (first
    | (go_at_call 7; refine K1.mono ?_; clear K1; rintro e w1 ⟨rfl, b1⟩)
    | (go_at_call 8; refine (awake_any _).mono ?_; rintro e w2 ⟨rfl, b2⟩))
  go_ret
  have B1 := C0.below.trans (b1.mono C0.below.size)
  exact ⟨rfl, B1.trans (b2.mono B1.size)⟩

theorem lf_range {h : HS} (k : OkM h) : 1 ≤ lfH h ∧ lfH h ≤ 4 := by
  obtain ⟨k0, k1⟩ := k
  unfold lfH
  split <;> omega
theorem tn_last {h : HS} (k : OkM h) (e : lfH h = 1) : tnW h = 2 ∧ tnH h = HS.z := by
  obtain ⟨k0, k1⟩ := k
  unfold lfH at e
  unfold tnW tnH
  split at e
  · rename_i hp
    rw [if_pos hp, if_pos hp, if_pos (by omega), if_pos (by omega)]
    exact ⟨rfl, rfl⟩
  · omega
/-- Misses as a fit half-edge has them: none but while an ask is pending. -/
def OkF (h : HS) : Prop := OkM h ∧ (h.pend = false → h.miss = 0)
theorem okF_fit {id : Int} {h : HS} (hf : h.fit id = true) : OkF h := by
  refine ⟨okM_fit hf, fun hp => ?_⟩
  unfold HS.fit missB at hf
  rw [hp] at hf
  simp at hf
  omega
theorem tn_ask {h : HS} (k : OkF h) (e : 1 < lfH h) : tnW h = 1 ∧ ∃ m, tnH h = ⟨h.peer, h.boot, h.life, h.ls, true, m⟩ ∧ OkF ⟨h.peer, h.boot, h.life, h.ls, true, m⟩ ∧ lfH ⟨h.peer, h.boot, h.life, h.ls, true, m⟩ = lfH h - 1 := by
  obtain ⟨peer, boot, life, ls, pend, miss⟩ := h
  obtain ⟨⟨k0, k1⟩, k2⟩ := k
  replace k0 : 0 ≤ miss := k0
  replace k1 : miss < 3 := k1
  cases pend with
  | true =>
    have e1 : lfH ⟨peer, boot, life, ls, true, miss⟩ = 3 - miss := rfl
    rw [e1] at e
    have hm : ¬ miss + 1 ≥ 3 := by omega
    refine ⟨by unfold tnW; rw [if_pos rfl, if_neg hm], miss + 1, by unfold tnH; rw [if_pos rfl, if_neg hm], ⟨⟨by show 0 ≤ miss + 1; omega, by show miss + 1 < 3; omega⟩, fun e => by cases e⟩, ?_⟩
    rw [e1]
    show 3 - (miss + 1) = 3 - miss - 1
    omega
  | false =>
    have hm : miss = 0 := k2 rfl
    subst hm
    exact ⟨rfl, 0, rfl, ⟨⟨Int.le_refl _, by show (0 : Int) < 3; decide⟩, fun e => by cases e⟩, rfl⟩
/-- What the law's loop keeps: h where it came in, x in the variable in block G. -/
structure DrSt (w : World) (G : Nat) (h : HR) (x : HS) (W : World) : Prop where
  below : Below w.heap.size w W
  hb : W.heap[w.heap.size]? = some (.cells h.cells.toArray 24 (0, 0))
  lo : w.heap.size + 1 ≤ G
  cur : ∃ a c, W.heap[G]? = some (.cells (x.on a c).cells.toArray 24 (0, 0)) ∧ RdO W x a c
theorem DrSt.later {w : World} {G : Nat} {h : HR} {x : HS} {W W' : World} (S : DrSt w G h x W) (b : Below W.heap.size W W') : DrSt w G h x W' := by
  obtain ⟨a, c, hh, r⟩ := S.cur
  exact ⟨S.below.trans (b.mono S.below.size), (b.block _ (row_lt S.hb)).trans S.hb, S.lo, a, c, (b.block _ (row_lt hh)).trans hh, RdL.below r b⟩
theorem DrSt.put {w : World} {G b0 : Nat} {h : HR} {x y : HS} {W W' : World} {a : Option Addr} {c : Nat} (S : DrSt w G h x W) (O : Own b0 W y a c) (hl : y.ls.length * 40 ≤ 140737488355328) (hh : W'.heap[G]? = some (.cells (y.on a c).cells.toArray 24 (0, 0))) (o : Only (at1 G) W W') : DrSt w G h y W' := by
  obtain ⟨a0, c0, h0, r0⟩ := S.cur
  have hlo := S.lo
  exact ⟨S.below.trans (o.below S.below.size (fun q hq => by cases hq; omega)), only_far o S.hb (by omega), S.lo, a, c, hh, (own_only O o h0 (by decide)).rd hl⟩
theorem below_put {W W' : World} (o : Only (at1 W.heap.size) (W.alloc (.cells z6 24)) W') : Below W.heap.size W W' := by
  have e : Below W.heap.size W (W.alloc (.cells z6 24)) := (Below.refl _ _).alloc (Nat.le_refl _) _
  exact e.trans (o.below e.size (fun q hq => by cases hq; exact Nat.le_refl _))
set_option maxRecDepth 100000 in
set_option maxHeartbeats 8000000 in
theorem drops_fit (id : Int) (h : HS) (a : Option Addr) (c : Nat) (w : World) (R : RdO w h a c) (hf : h.fit id = true) : Calls Try.prog 5 #[.int .i64 id, (h.on a c).val] w fun e w' => e = .returned (.bool true) ∧ Below w.heap.size w w' := by
  have kf := okF_fit hf
  have HF : Hid (OkF h) := kf
  have HLN : Hid (h.ls.length * 40 ≤ 140737488355328) := R.few
  obtain ⟨N1, N2⟩ := lf_range kf.1
  obtain ⟨peer, boot, life, ls, pend, miss⟩ := h
  have C0 := (Bx.nil w).add rfl (.cells #[.int .i64 peer, .int .i64 boot, .int .i64 life, .slice a ls.length c, .bool pend, .int .i64 miss] 24)
  have R1 : RdO _ (HS.mk peer boot life ls pend miss) a c := R.below C0.below
  have K1 := lfit_any id (HS.mk peer boot life ls pend miss) a c _ R1
  rw [hf] at K1
  have K2 := fun W => left_any (HS.mk peer boot life ls pend miss) a c W kf.1
  obtain ⟨N, hN⟩ : ∃ N, lfH (HS.mk peer boot life ls pend miss) = N := ⟨_, rfl⟩
  simp only [hN] at K2 N1 N2
  have HN : Hid (lfH (HS.mk peer boot life ls pend miss) = N) := hN
  clear hf kf R1 hN
  have g1 : ¬ N < 1 := by omega
  have g2 : ¬ N > 4 := by omega
  dsimp only [HS.on, HR.val] at K1 K2 ⊢
  go_enter Try.func5, Try.ntmps5
  go_wp2_with (first
    | (go_at_call 7; refine K1.mono ?_; clear K1; rintro e w1 ⟨rfl, b1⟩; have B1 := C0.below.trans (b1.mono C0.below.size); have XH : w1.heap[w.heap.size]? = some (.cells ((HS.mk peer boot life ls pend miss).on a c).cells.toArray 24 (0, 0)) := (b1.block _ (row_lt (C0.at0 _ rfl))).trans (C0.at0 _ rfl); clear b1)
    | ((with_reducible show wpList _ _ _ (Oper.mk _ (Op.load 24 (Operand.tmp 3)) _ _ _ _ :: _) _ _); refine wpList_load24 rfl _ rfl w.heap.size 0 ((HS.mk peer boot life ls pend miss).on a c) rfl (range_rowH XH) ?_; dsimp only [HS.on, HR.val])
    | (go_at_call 12; refine (K2 _).mono ?_; clear K2; rintro e w2 ⟨rfl, b2⟩; have B2 := B1.trans (b2.mono B1.size); have XH := (b2.block _ (row_lt XH)).trans XH; clear b2)
    | ((with_reducible show wpList _ _ _ (Oper.mk _ (Op.store 24 (Operand.tmp 6) _) _ _ _ _ :: _) _ _); refine wpList_put24 rfl _ _ rfl ((HS.mk peer boot life ls pend miss).on a c) (g := w2.heap.size) (cs := z6) (heap_new rfl) rfl rfl rfl ?_; intro w3 T3 o3 z3; clear z3))
  have S0 : DrSt w w2.heap.size ((HS.mk peer boot life ls pend miss).on a c) (HS.mk peer boot life ls pend miss) w3 := by
    have b3 := below_put o3
    have B3 := B2.trans (b3.mono B2.size)
    exact ⟨B3, (b3.block _ (row_lt XH)).trans XH, row_lt XH, a, c, T3, R.below B3⟩
  obtain ⟨h0, hh0⟩ : ∃ h0, (HS.mk peer boot life ls pend miss) = h0 := ⟨_, rfl⟩
  obtain ⟨G, hG⟩ : ∃ G, w2.heap.size = G := ⟨_, rfl⟩
  obtain ⟨d, hd⟩ : ∃ d, (HS.mk peer boot life ls pend miss).on a c = d := ⟨_, rfl⟩
  have hdp : d.peer = peer := by rw [← hd]; rfl
  have hpe : h0.peer = peer := by rw [← hh0]
  rw [hd] at S0
  have HL0 : Hid (h0.ls.length * 40 ≤ 140737488355328) := by rw [← hh0]; exact HLN.out
  simp only [hG, hh0] at S0 HN HF ⊢
  have HS0 : Hid (DrSt w G d h0 w3) := S0
  have HP : Hid (h0.peer = peer) := hpe
  have HD : Hid (d.peer = peer) := hdp
  clear S0 C0 R o3 T3 XH B2 B1 hd hh0 hdp hpe
  go_loopg [7] (N.toNat) (fun gk v7 wr => ∃ (k : Int) (x : HS), v7 = .int .i64 k ∧ 1 ≤ k ∧ k ≤ N + 1 ∧ gk = (N + 1 - k).toNat ∧ DrSt w G d x wr ∧ (k ≤ N → lfH x = N + 1 - k ∧ OkF x ∧ x.peer = peer ∧ x.ls.length * 40 ≤ 140737488355328) ∧ (k = N + 1 → x = HS.z))
  case atStart => exact ⟨1, h0, by first | rfl | go_num, Int.le_refl _, by omega, by omega, HS0.out, fun _ => ⟨by rw [HN.out]; omega, HF.out, HP.out, HL0.out⟩, fun e => by omega⟩
  case round =>
    obtain ⟨k, x, rfl, k1, k2, hgk, St, kx, kz⟩ := hrel
    clear HS0
    have hwr : IntKind.i64.wrap (k + 1) = k + 1 := by rw [IntKind.wrap_i64]; omega
    by_cases hk : k ≤ N
    case pos =>
      obtain ⟨x1, x2, x3, x4⟩ := kx hk
      have HX1 : Hid (lfH x = N + 1 - k) := x1
      have HX2 : Hid (OkF x) := x2
      have HX3 : Hid (x.peer = peer) := x3
      have HX4 : Hid (x.ls.length * 40 ≤ 140737488355328) := x4
      obtain ⟨a6, c6, hcur, RX⟩ := St.cur
      have KT := mturn_any x a6 c6 wr RX x2.1
      have HSt : Hid (DrSt w G d x wr) := St
      clear kx kz x1 x2 x3 x4 St RX
      by_cases hn : k = N
      case pos =>
        subst hn
        obtain ⟨e1, e2⟩ := tn_last HX2.out.1 (by rw [HX1.out]; omega)
        rw [e1, e2] at KT
        clear e1 e2
        go_wp2_with (first
          | (go_at_call 9; refine KT.mono ?_; rintro e w7 ⟨a7, c7, rfl, O7, b7⟩; have S7 := HSt.out.later b7; clear KT)
          | ((with_reducible show wpList _ _ _ (Oper.mk _ (Op.load 24 (Operand.tmp 6)) _ _ _ _ :: _) _ _); refine wpList_load24 rfl _ rfl G 0 (x.on a6 c6) rfl (range_rowH hcur) ?_)
          | ((with_reducible show wpList _ _ _ (Oper.mk _ (Op.store 24 (Operand.tmp 8) _) _ _ _ _ :: _) _ _); refine wpList_put24 rfl _ _ rfl (HS.z.on a7 c7) (g := w7.heap.size) (cs := z6) (heap_new rfl) rfl rfl rfl ?_; intro w8 T8 o8 z8; clear z8; have b8 := below_put o8; have S8 := S7.later b8; have O8 := O7.below b8; obtain ⟨a8, c8, hc8, _⟩ := S8.cur)
          | ((with_reducible show wpList _ _ _ (Oper.mk _ (Op.load 24 (Operand.tmp 8)) _ _ _ _ :: _) _ _); refine wpList_load24 rfl _ rfl w7.heap.size 0 (HS.z.on a7 c7) rfl (range_rowH T8) ?_)
          | ((with_reducible show wpList _ _ _ (Oper.mk _ (Op.store 24 (Operand.tmp 6) _) _ _ _ _ :: _) _ _); refine wpList_put24 rfl _ _ rfl (HS.z.on a7 c7) hc8 rfl rfl rfl ?_; intro w9 T9 o9 z9; clear z9))
        have S9 := S8.put O8 (by decide) T9 o9
        go_roundg (gk - 1)
        case measure => omega
        case rel => exact ⟨k + 1, _, by first | rfl | go_num, by omega, by omega, by omega, S9, fun e => by omega, fun _ => rfl⟩
      case neg =>
        obtain ⟨e1, m, e2, e3, e4⟩ := tn_ask HX2.out (by rw [HX1.out]; omega)
        rw [e1, e2] at KT
        have HE3 : Hid (OkF ⟨x.peer, x.boot, x.life, x.ls, true, m⟩) := e3
        have HE4 : Hid (lfH ⟨x.peer, x.boot, x.life, x.ls, true, m⟩ = lfH x - 1) := e4
        have KL := fun a c W => left_any ⟨x.peer, x.boot, x.life, x.ls, true, m⟩ a c W e3.1
        rw [e4, HX1.out, show N + 1 - k - 1 = N - k by omega] at KL
        have hsb : IntKind.i64.wrap (N - k) = N - k := by rw [IntKind.wrap_i64]; omega
        have hnb : (k == N) = false := by simpa using hn
        clear e1 e2 e3 e4
        go_wp2_with (first
          | (go_at_call 9; refine KT.mono ?_; rintro e w7 ⟨a7, c7, rfl, O7, b7⟩; have S7 := HSt.out.later b7; clear KT)
          | ((with_reducible show wpList _ _ _ (Oper.mk _ (Op.load 24 (Operand.tmp 6)) _ _ _ _ :: _) _ _); refine wpList_load24 rfl _ rfl G 0 (x.on a6 c6) rfl (range_rowH hcur) ?_)
          | ((with_reducible show wpList _ _ _ (Oper.mk _ (Op.store 24 (Operand.tmp 8) _) _ _ _ _ :: _) _ _); refine wpList_put24 rfl _ _ rfl (HS.on ⟨x.peer, x.boot, x.life, x.ls, true, m⟩ a7 c7) (g := w7.heap.size) (cs := z6) (heap_new rfl) rfl rfl rfl ?_; intro w8 T8 o8 z8; clear z8; have b8 := below_put o8; have S8 := S7.later b8; have O8 := O7.below b8; have ⟨p0, p1, p2, p3, p4, p5⟩ := cel6 T8; dsimp only [HS.on] at p0 p1 p2 p3 p4 p5)
          | (go_at_call 12; (refine (KL a7 c7 _).mono ?_; rintro e w9 ⟨rfl, b9⟩; have S9 := S8.later b9; have O9 := O8.below b9; have T9 := (b9.block _ (row_lt T8)).trans T8; have ⟨p0, p1, p2, p3, p4, p5⟩ := cel6 T9; have q0 := row_cell S9.hb 0 (.int .i64 d.peer) rfl; dsimp only [HS.on] at p0 p1 p2 p3 p4 p5; rw [HX3.out] at p0; rw [HD.out] at q0; obtain ⟨a10, c10, hc10, _⟩ := S9.cur))
          | ((with_reducible show wpList _ _ _ (Oper.mk _ (Op.load 24 (Operand.tmp 8)) _ _ _ _ :: _) _ _); refine wpList_load24 rfl _ rfl w7.heap.size 0 (HS.on ⟨x.peer, x.boot, x.life, x.ls, true, m⟩ a7 c7) rfl (range_rowH T9) ?_)
          | ((with_reducible show wpList _ _ _ (Oper.mk _ (Op.load 24 (Operand.tmp 8)) _ _ _ _ :: _) _ _); refine wpList_load24 rfl _ rfl w7.heap.size 0 (HS.on ⟨x.peer, x.boot, x.life, x.ls, true, m⟩ a7 c7) rfl (range_rowH T8) ?_)
          | ((with_reducible show wpList _ _ _ (Oper.mk _ (Op.store 24 (Operand.tmp 6) _) _ _ _ _ :: _) _ _); refine wpList_put24 rfl _ _ rfl (HS.on ⟨x.peer, x.boot, x.life, x.ls, true, m⟩ a7 c7) hc10 rfl rfl rfl ?_; intro w11 T11 o11 z11; clear z11))
        have S11 := S9.put O9 HX4.out T11 o11
        go_roundg (gk - 1)
        case measure => omega
        case rel => exact ⟨k + 1, _, by first | rfl | go_num, by omega, by omega, by omega, S11, fun _ => ⟨by rw [HE4.out, HX1.out]; omega, HE3.out, HX3.out, HX4.out⟩, fun e => by omega⟩
    case neg =>
      have hx := kz (by omega)
      subst hx
      obtain ⟨a6, c6, hcur, RX⟩ := St.cur
      have KS : ∀ W, RdO W HS.z a6 c6 → Calls Try.prog 11 #[(HS.z.on a6 c6).val, .agg #[.int .i64 0, .int .i64 0, .int .i64 0, .slice none 0 0, .bool false, .int .i64 0]] W fun e w' => e = .returned (.bool true) ∧ Below W.heap.size W w' := fun W r => by
        have h := same_any HS.z HS.z a6 none c6 0 W r (rd_nil W HS.z rfl)
        rw [eq1_self] at h
        exact h
      go_wp2_with (first
        | ((with_reducible show wpList _ _ _ (Oper.mk _ (Op.load 24 (Operand.tmp 6)) _ _ _ _ :: _) _ _); refine wpList_load24 rfl _ rfl G 0 (HS.z.on a6 c6) rfl (range_rowH hcur) ?_)
        | (go_at_call 11; refine (KS _ RX).mono ?_; clear KS; rintro e w7 ⟨rfl, b7⟩; have B7 := St.below.trans (b7.mono St.below.size); clear b7)
        | (go_at_call 8; refine (awake_any _).mono ?_; rintro e w8 ⟨rfl, b8⟩; have B8 := B7.trans (b8.mono B7.size)))
      go_ret
      exact ⟨rfl, B8⟩
theorem drops_walk (id : Int) (h : HS) (a : Option Addr) (c : Nat) (w : World) (R : RdO w h a c) : Calls Try.prog 5 #[.int .i64 id, (h.on a c).val] w fun e w' => e = .returned (.bool true) ∧ Below w.heap.size w w' := by
  cases hf : h.fit id with
  | true => exact drops_fit id h a c w R hf
  | false => exact drops_unfit id h a c w R hf
end Go.Proofs.Ytifkkkfejbgifaa
