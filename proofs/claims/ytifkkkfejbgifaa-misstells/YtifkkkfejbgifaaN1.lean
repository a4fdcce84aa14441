/-
  Package miss: what its functions give; the document's.
-/
import Derived.Test.YtifkkkfejbgifaaN0
import Derived.Test.YtifkkkfejbgifaaH3
import Derived.Test.YtifkkkfejbgifaaF12
namespace Go.Proofs.Ytifkkkfejbgifaa
open Go.ChangeShapes Go.WideShapes Go.ChangeAt Go.RowKit
set_option linter.unusedVariables false
set_option linter.unusedSimpArgs false

theorem get46 {W : World} {g : Nat} {d : HR} (h : W.heap[g]? = some (.cells d.cells.toArray 46 (0, 0))) : W.rangeAt g 0 d.cells := fun j v hv => by
  rw [Nat.zero_add]
  exact row_cell h j v (by simpa using hv)
theorem own_row {base : Nat} {W : World} {h : HS} {a : Option Addr} {c : Nat} (o : Own base W h a c) {q t : Nat} {cs : Array Value} (hq : W.heap[q]? = some (.cells cs t (0, 0))) (ht : t ≠ 35) (xs : Array Value) : Own base (W.setRow q xs) h a c :=
  ⟨o.lst.of_block fun g off e => setRow_other _ _ _ _ (by subst e; exact o.lst.ne_cells hq ht), o.new⟩
set_option maxRecDepth 100000 in
set_option maxHeartbeats 4000000 in
theorem masked_any (h : HS) (a : Option Addr) (c : Nat) (w : World) (R : RdO w h a c) : Calls Try.prog 14 #[(h.on a c).val] w fun e w' => ∃ a' c', e = .returned ((asH h).on a' c').val ∧ Own w.heap.size w' (asH h) a' c' ∧ Below w.heap.size w w' := by
  obtain ⟨peer, boot, life, ls, pend, miss⟩ := h
  dsimp only [HS.on, HR.val, RdO] at R ⊢
  have C0 := ((Bx.nil w).add rfl (.cells #[.int .i64 peer, .int .i64 boot, .int .i64 life, .slice a ls.length c, .bool pend, .int .i64 miss] 24)).add (by simp) (.cells z6 24)
  have R1 : RdO _ (HS.mk peer boot life ls pend miss) a c := R.below C0.below
  have K1 := hold_any (HS.mk peer boot life ls pend miss) a c _ R1
  dsimp only [HS.on, HR.val] at K1
  go_enter Try.func14, Try.ntmps14
  go_wp2_with (first
    | (go_at_call 24; refine K1.mono ?_; rintro e w1 ⟨g, rfl, Q1, b1⟩; have K2 := asked_any g _ _ _ Q1; clear K1)
    | (go_at_call 28; refine K2.mono ?_; rintro e w2 ⟨rfl, Q2, o2⟩; obtain ⟨lo, a2, c2, hh, O2⟩ := Q2; have b2 := b1.trans (o2.below b1.size (fun q hq => by cases hq; exact lo)); have C2 := C0.later b2; have X2 := C2.at_ 1 _ rfl)
    | ((with_reducible show wpList _ _ _ (Oper.mk _ (Op.load 24 _) _ _ _ _ :: Oper.mk _ (Op.store 24 _ _) _ _ _ _ :: _) _ _); refine wpList_load24 rfl _ rfl g 0 _ rfl (get46 hh) ?_)
    | ((with_reducible show wpList _ _ _ (Oper.mk _ (Op.store 24 _ _) _ _ _ _ :: _) _ _); refine wpList_store24row rfl _ _ rfl (HS.on (asH ⟨peer, boot, life, ls, pend, miss⟩) a2 c2) X2 rfl rfl rfl ?_))
  refine bodyPost_ret (results_row1 rfl _ _ (w.heap.size + 1) _ rfl (load_24 (d := HS.on (asH ⟨peer, boot, life, ls, pend, miss⟩) a2 c2) (setRow_heap _ _ _ _ _ _ X2))) rfl ⟨a2, c2, rfl, (own_row O2 X2 (by decide) _).mono C0.below.size, ?_⟩
  exact (Only.setRow (C := none_) (Only.of_below C2.below) (fun k => absurd k (by omega)) _).calm
set_option maxRecDepth 100000 in
set_option maxHeartbeats 4000000 in
theorem mheard_any (h : HS) (a : Option Addr) (c : Nat) (w : World) (R : RdO w h a c) : Calls Try.prog 16 #[(h.on a c).val] w fun e w' => ∃ a' c', e = .returned ((heH h).on a' c').val ∧ Own w.heap.size w' (heH h) a' c' ∧ Below w.heap.size w w' := by
  obtain ⟨peer, boot, life, ls, pend, miss⟩ := h
  dsimp only [HS.on, HR.val, RdO] at R ⊢
  have C0 := ((Bx.nil w).add rfl (.cells #[.int .i64 peer, .int .i64 boot, .int .i64 life, .slice a ls.length c, .bool pend, .int .i64 miss] 24)).add (by simp) (.cells z6 24)
  have R1 : RdO _ (HS.mk peer boot life ls pend miss) a c := R.below C0.below
  have K1 := hold_any (HS.mk peer boot life ls pend miss) a c _ R1
  dsimp only [HS.on, HR.val] at K1
  go_enter Try.func16, Try.ntmps16
  go_wp2_with (first
    | (go_at_call 24; refine K1.mono ?_; rintro e w1 ⟨g, rfl, Q1, b1⟩; have K2 := heard_any g _ _ _ Q1; clear K1)
    | (go_at_call 29; refine K2.mono ?_; rintro e w2 ⟨rfl, Q2, o2⟩; obtain ⟨lo, a2, c2, hh, O2⟩ := Q2; have b2 := b1.trans (o2.below b1.size (fun q hq => by cases hq; exact lo)); have C2 := C0.later b2; have X2 := C2.at_ 1 _ rfl)
    | ((with_reducible show wpList _ _ _ (Oper.mk _ (Op.load 24 _) _ _ _ _ :: Oper.mk _ (Op.store 24 _ _) _ _ _ _ :: _) _ _); refine wpList_load24 rfl _ rfl g 0 _ rfl (get46 hh) ?_)
    | ((with_reducible show wpList _ _ _ (Oper.mk _ (Op.store 24 _ _) _ _ _ _ :: _) _ _); refine wpList_store24row rfl _ _ rfl (HS.on (heH ⟨peer, boot, life, ls, pend, miss⟩) a2 c2) X2 rfl rfl rfl ?_))
  refine bodyPost_ret (results_row1 rfl _ _ (w.heap.size + 1) _ rfl (load_24 (d := HS.on (heH ⟨peer, boot, life, ls, pend, miss⟩) a2 c2) (setRow_heap _ _ _ _ _ _ X2))) rfl ⟨a2, c2, rfl, (own_row O2 X2 (by decide) _).mono C0.below.size, ?_⟩
  exact (Only.setRow (C := none_) (Only.of_below C2.below) (fun k => absurd k (by omega)) _).calm
set_option maxRecDepth 100000 in
set_option maxHeartbeats 4000000 in
theorem manswered_any (h : HS) (a : Option Addr) (c : Nat) (w : World) (R : RdO w h a c) : Calls Try.prog 18 #[(h.on a c).val] w fun e w' => ∃ a' c', e = .returned ((anH h).on a' c').val ∧ Own w.heap.size w' (anH h) a' c' ∧ Below w.heap.size w w' := by
  obtain ⟨peer, boot, life, ls, pend, miss⟩ := h
  dsimp only [HS.on, HR.val, RdO] at R ⊢
  have C0 := ((Bx.nil w).add rfl (.cells #[.int .i64 peer, .int .i64 boot, .int .i64 life, .slice a ls.length c, .bool pend, .int .i64 miss] 24)).add (by simp) (.cells z6 24)
  have R1 : RdO _ (HS.mk peer boot life ls pend miss) a c := R.below C0.below
  have K1 := hold_any (HS.mk peer boot life ls pend miss) a c _ R1
  dsimp only [HS.on, HR.val] at K1
  go_enter Try.func18, Try.ntmps18
  go_wp2_with (first
    | (go_at_call 24; refine K1.mono ?_; rintro e w1 ⟨g, rfl, Q1, b1⟩; have K2 := answered_any g _ _ _ Q1; clear K1)
    | (go_at_call 30; refine K2.mono ?_; rintro e w2 ⟨rfl, Q2, o2⟩; obtain ⟨lo, a2, c2, hh, O2⟩ := Q2; have b2 := b1.trans (o2.below b1.size (fun q hq => by cases hq; exact lo)); have C2 := C0.later b2; have X2 := C2.at_ 1 _ rfl)
    | ((with_reducible show wpList _ _ _ (Oper.mk _ (Op.load 24 _) _ _ _ _ :: Oper.mk _ (Op.store 24 _ _) _ _ _ _ :: _) _ _); refine wpList_load24 rfl _ rfl g 0 _ rfl (get46 hh) ?_)
    | ((with_reducible show wpList _ _ _ (Oper.mk _ (Op.store 24 _ _) _ _ _ _ :: _) _ _); refine wpList_store24row rfl _ _ rfl (HS.on (anH ⟨peer, boot, life, ls, pend, miss⟩) a2 c2) X2 rfl rfl rfl ?_))
  refine bodyPost_ret (results_row1 rfl _ _ (w.heap.size + 1) _ rfl (load_24 (d := HS.on (anH ⟨peer, boot, life, ls, pend, miss⟩) a2 c2) (setRow_heap _ _ _ _ _ _ X2))) rfl ⟨a2, c2, rfl, (own_row O2 X2 (by decide) _).mono C0.below.size, ?_⟩
  exact (Only.setRow (C := none_) (Only.of_below C2.below) (fun k => absurd k (by omega)) _).calm
set_option maxRecDepth 100000 in
set_option maxHeartbeats 4000000 in
theorem mturn_any (h : HS) (a : Option Addr) (c : Nat) (w : World) (R : RdO w h a c) (k : OkM h) : Calls Try.prog 9 #[(h.on a c).val] w fun e w' => ∃ a' c', e = .returned (.tuple #[((tnH h).on a' c').val, .int .i64 (tnW h)]) ∧ Own w.heap.size w' (tnH h) a' c' ∧ Below w.heap.size w w' := by
  obtain ⟨peer, boot, life, ls, pend, miss⟩ := h
  have C0 := ((Bx.nil w).add rfl (.cells #[.int .i64 peer, .int .i64 boot, .int .i64 life, .slice a ls.length c, .bool pend, .int .i64 miss] 24)).add (by simp) (.cells z6 24)
  have R1 : RdO _ (HS.mk peer boot life ls pend miss) a c := R.below C0.below
  have K1 := hold_any (HS.mk peer boot life ls pend miss) a c _ R1
  have K3 := fun g base w R => turn_any g (HS.mk peer boot life ls pend miss) base w R k
  obtain ⟨y, hy⟩ : ∃ y, tnH ⟨peer, boot, life, ls, pend, miss⟩ = y := ⟨_, rfl⟩
  obtain ⟨z, hz⟩ : ∃ z, tnW ⟨peer, boot, life, ls, pend, miss⟩ = z := ⟨_, rfl⟩
  simp only [hy, hz] at K3 ⊢
  dsimp only [HS.on, HR.val] at K1 ⊢
  go_enter Try.func9, Try.ntmps9
  go_wp2_with (first
    | (go_at_call 24; refine K1.mono ?_; rintro e w1 ⟨g, rfl, Q1, b1⟩; have K2 := K3 g _ _ Q1; clear K1)
    | (go_at_call 25; refine K2.mono ?_; rintro e w2 ⟨rfl, Q2, o2⟩; obtain ⟨lo, a2, c2, hh, O2⟩ := Q2; have b2 := b1.trans (o2.below b1.size (fun q hq => by cases hq; exact lo)); have C2 := C0.later b2; have X2 := C2.at_ 1 _ rfl)
    | ((with_reducible show wpList _ _ _ (Oper.mk _ (Op.load 24 (Operand.tmp 12)) _ _ _ _ :: _) _ _); refine wpList_load24 rfl _ rfl g 0 _ rfl (get46 hh) ?_)
    | ((with_reducible show wpList _ _ _ (Oper.mk _ (Op.store 24 _ _) _ _ _ _ :: _) _ _); refine wpList_store24row rfl _ _ rfl (HS.on y a2 c2) X2 rfl rfl rfl ?_))
  refine bodyPost_ret (results_ct rfl _ _ (w.heap.size + 1) _ rfl (load_24 (d := HS.on y a2 c2) (setRow_heap _ _ _ _ _ _ X2))) rfl ⟨a2, c2, rfl, (own_row O2 X2 (by decide) _).mono C0.below.size, ?_⟩
  exact (Only.setRow (C := none_) (Only.of_below C2.below) (fun k => absurd k (by omega)) _).calm
set_option maxHeartbeats 4000000 in
theorem left_any (h : HS) (a : Option Addr) (c : Nat) (w : World) (k : OkM h) : Calls Try.prog 12 #[(h.on a c).val] w fun e w' => e = .returned (.int .i64 (lfH h)) ∧ Below w.heap.size w w' := by
  obtain ⟨peer, boot, life, ls, pend, miss⟩ := h
  obtain ⟨k0, k1⟩ := k
  replace k0 : 0 ≤ miss := k0
  replace k1 : miss < 3 := k1
  have hwr : IntKind.i64.wrap (3 - miss) = 3 - miss := by rw [IntKind.wrap_i64]; omega
  dsimp only [HS.on, HR.val]
  cases pend with
  | true =>
    have e1 : lfH ⟨peer, boot, life, ls, true, miss⟩ = 3 - miss := rfl
    rw [e1]
    go_enter Try.func12, Try.ntmps12
    go_wp2
    go_ret
    exact ⟨rfl, (Below.refl _ _).alloc (Nat.le_refl _) _⟩
  | false =>
    have e1 : lfH ⟨peer, boot, life, ls, false, miss⟩ = 4 := rfl
    rw [e1]
    go_enter Try.func12, Try.ntmps12
    go_wp2
    go_ret
    exact ⟨rfl, (Below.refl _ _).alloc (Nat.le_refl _) _⟩
set_option maxHeartbeats 4000000 in
theorem rleft_any (h : HS) (a : Option Addr) (c : Nat) (w : World) (k : OkM h) : Calls Try.prog 13 #[(h.on a c).val] w fun e w' => e = .returned (.int .i64 (lfH h)) ∧ Below w.heap.size w w' := by
  obtain ⟨peer, boot, life, ls, pend, miss⟩ := h
  obtain ⟨k0, k1⟩ := k
  replace k0 : 0 ≤ miss := k0
  replace k1 : miss < 3 := k1
  have hwr : IntKind.i64.wrap (3 - miss) = 3 - miss := by rw [IntKind.wrap_i64]; omega
  dsimp only [HS.on, HR.val]
  cases pend with
  | true =>
    have e1 : lfH ⟨peer, boot, life, ls, true, miss⟩ = 3 - miss := rfl
    rw [e1]
    go_enter Try.func13, Try.ntmps13
    go_wp2
    go_ret
    exact ⟨rfl, (Below.refl _ _).alloc (Nat.le_refl _) _⟩
  | false =>
    have e1 : lfH ⟨peer, boot, life, ls, false, miss⟩ = 4 := rfl
    rw [e1]
    go_enter Try.func13, Try.ntmps13
    go_wp2
    go_ret
    exact ⟨rfl, (Below.refl _ _).alloc (Nat.le_refl _) _⟩
set_option maxHeartbeats 4000000 in
theorem lfit_any (id : Int) (h : HS) (a : Option Addr) (c : Nat) (w : World) (R : RdO w h a c) : Calls Try.prog 7 #[.int .i64 id, (h.on a c).val] w fun e w' => e = .returned (.bool (h.fit id)) ∧ Below w.heap.size w w' := by
  obtain ⟨peer, boot, life, ls, pend, miss⟩ := h
  have C0 := (Bx.nil w).add rfl (.cells #[.int .i64 peer, .int .i64 boot, .int .i64 life, .slice a ls.length c, .bool pend, .int .i64 miss] 24)
  have R1 : RdO _ (HS.mk peer boot life ls pend miss) a c := R.below C0.below
  have K1 := dfit_any id (HS.mk peer boot life ls pend miss) a c _ R1
  obtain ⟨z, hz⟩ : ∃ z, HS.fit id ⟨peer, boot, life, ls, pend, miss⟩ = z := ⟨_, rfl⟩
  rw [hz] at K1 ⊢
  dsimp only [HS.on, HR.val] at K1 ⊢
  go_enter Try.func7, Try.ntmps7
  go_wp2_with (go_at_call 23; refine K1.mono ?_; rintro e w1 ⟨rfl, b1⟩)
  go_ret
  exact ⟨rfl, C0.below.trans (b1.mono C0.below.size)⟩
theorem eqHs_one (x y : HS) : eqHs [x] [y] = x.eq1 y := by
  unfold eqHs
  simp
set_option maxRecDepth 100000 in
set_option maxHeartbeats 4000000 in
theorem same_any (x y : HS) (a b : Option Addr) (c d : Nat) (w : World) (R : RdO w x a c) (Q : RdO w y b d) : Calls Try.prog 11 #[(x.on a c).val, (y.on b d).val] w fun e w' => e = .returned (.bool (x.eq1 y)) ∧ Below w.heap.size w w' := by
  obtain ⟨xp, xb, xl, xs, xd, xm⟩ := x
  obtain ⟨yp, yb, yl, ys, yd, ym⟩ := y
  have C0 := ((((Bx.nil w).add rfl (.cells #[.int .i64 xp, .int .i64 xb, .int .i64 xl, .slice a xs.length c, .bool xd, .int .i64 xm] 24)).add (by simp) (.cells #[.int .i64 yp, .int .i64 yb, .int .i64 yl, .slice b ys.length d, .bool yd, .int .i64 ym] 24)).add (by simp) (.cells #[.int .i64 xp, .int .i64 xb, .int .i64 xl, .slice a xs.length c, .bool xd, .int .i64 xm] 24)).add (by simp) (.cells #[.int .i64 yp, .int .i64 yb, .int .i64 yl, .slice b ys.length d, .bool yd, .int .i64 ym] 24)
  have R1 : RdO _ (HS.mk xp xb xl xs xd xm) a c := R.below C0.below
  have Q1 : RdO _ (HS.mk yp yb yl ys yd ym) b d := Q.below C0.below
  have K1 := rsame_any _ _ 1 1 [HS.mk xp xb xl xs xd xm] [HS.mk yp yb yl ys yd ym] _ (hs_one R1 (C0.at_ 2 _ rfl)) (hs_one Q1 (C0.at_ 3 _ rfl))
  rw [eqHs_one] at K1
  obtain ⟨z, hz⟩ : ∃ z, HS.eq1 ⟨xp, xb, xl, xs, xd, xm⟩ ⟨yp, yb, yl, ys, yd, ym⟩ = z := ⟨_, rfl⟩
  rw [hz] at K1 ⊢
  dsimp only [HS.on, HR.val] at K1 ⊢
  go_enter Try.func11, Try.ntmps11
  go_wp2_with (go_at_call 27; refine K1.mono ?_; rintro e w1 ⟨rfl, b1⟩)
  go_ret
  exact ⟨rfl, C0.below.trans (b1.mono C0.below.size)⟩
theorem eqL_self (a : LS) : eqL a a = true := by unfold eqL eqN sameB; simp
theorem eq1_self (h : HS) : h.eq1 h = true := by
  unfold HS.eq1
  simp
  exact eqLs_yes rfl fun j _ => eqL_self _
end Go.Proofs.Ytifkkkfejbgifaa
