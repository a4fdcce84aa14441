/-
  What the law MissPlays comes to.
-/
import Derived.Test.YtifkkkfejbgifaaN6
namespace Go.Proofs.Ytifkkkfejbgifaa
open Go.ChangeShapes Go.WideShapes Go.ChangeAt Go.RowKit
set_option linter.unusedVariables false
set_option linter.unusedSimpArgs false

theorem tn_lines (h : HS) : (tnH h).ls.length ≤ h.ls.length := by
  unfold tnH
  split
  · split
    · exact Nat.zero_le _
    · exact Nat.le_refl _
  · exact Nat.le_refl _
theorem pl_lines (h : HS) (l : List Int) : (plL h l).1.ls.length ≤ h.ls.length := by
  induction l generalizing h with
  | nil => exact Nat.le_refl _
  | cons n l ih =>
    unfold plL
    split
    · split
      · exact tn_lines h
      · exact Nat.le_trans (ih _) (tn_lines h)
    · refine Nat.le_trans (ih _) ?_
      unfold plS
      split
      · exact tn_lines h
      split
      · exact Nat.le_refl _
      split
      · exact Nat.le_refl _
      split
      · exact Nat.le_refl _
      · exact Nat.le_refl _
set_option maxRecDepth 100000 in
set_option maxHeartbeats 4000000 in
theorem plays_unfit (id : Int) (h : HS) (a : Option Addr) (c : Nat) (la : Option Addr) (n cap : Nat) (w : World) (R : RdO w h a c) (hf : h.fit id = false) : Calls Try.prog 4 #[.int .i64 id, (h.on a c).val, .slice la n cap] w fun e w' => e = .returned (.bool true) ∧ Below w.heap.size w w' := by
  obtain ⟨peer, boot, life, ls, pend, miss⟩ := h
  have C0 := (Bx.nil w).add rfl (.cells #[.int .i64 peer, .int .i64 boot, .int .i64 life, .slice a ls.length c, .bool pend, .int .i64 miss] 24)
  have R1 : RdO _ (HS.mk peer boot life ls pend miss) a c := R.below C0.below
  have K1 := lfit_any id (HS.mk peer boot life ls pend miss) a c _ R1
  rw [hf] at K1
  clear hf R R1
  dsimp only [HS.on, HR.val] at K1 ⊢
  go_enter Try.func4, Try.ntmps4
  go_wp2_with (first
    | (go_at_call 7; refine K1.mono ?_; clear K1; rintro e w1 ⟨rfl, b1⟩)
    | (go_at_call 8; refine (awake_any _).mono ?_; rintro e w2 ⟨rfl, b2⟩))
  go_ret
  have B1 := C0.below.trans (b1.mono C0.below.size)
  exact ⟨rfl, B1.trans (b2.mono B1.size)⟩
set_option maxRecDepth 100000 in
set_option maxHeartbeats 4000000 in
theorem plays_fit (id : Int) (h : HS) (a : Option Addr) (c : Nat) (la : Option Addr) (cap : Nat) (l : List Int) (w : World) (R : RdO w h a c) (L : Row w la l.length cap l) (hB : l.length * 8 ≤ 140737488355328) (hf : h.fit id = true) : Calls Try.prog 4 #[.int .i64 id, (h.on a c).val, .slice la l.length cap] w fun e w' => e = .returned (.bool true) ∧ Below w.heap.size w w' := by
  have k := okM_fit hf
  obtain ⟨peer, boot, life, ls, pend, miss⟩ := h
  have C0 := (Bx.nil w).add rfl (.cells #[.int .i64 peer, .int .i64 boot, .int .i64 life, .slice a ls.length c, .bool pend, .int .i64 miss] 24)
  have R1 : RdO _ (HS.mk peer boot life ls pend miss) a c := R.below C0.below
  have K1 := lfit_any id (HS.mk peer boot life ls pend miss) a c _ R1
  rw [hf] at K1
  have K2 := fun W (r : RdO W (HS.mk peer boot life ls pend miss) a c) (s : Row W la l.length cap l) => mplay_any (HS.mk peer boot life ls pend miss) a c la cap l W r s hB k
  have K3 := fun W (r : RdO W (HS.mk peer boot life ls pend miss) a c) (s : Row W la l.length cap l) => rplay_any (HS.mk peer boot life ls pend miss) a c la cap l W r s hB k
  obtain ⟨⟨x, ts⟩, hx⟩ : ∃ x, plL (HS.mk peer boot life ls pend miss) l = x := ⟨_, rfl⟩
  simp only [hx] at K2 K3
  have HLX : Hid (x.ls.length * 40 ≤ 140737488355328) := by
    show _ ≤ _
    have h2 := pl_lines (HS.mk peer boot life ls pend miss) l
    rw [hx] at h2
    have h3 := R.few
    have h4 : x.ls.length ≤ ls.length := h2
    have h5 : ls.length * 40 ≤ 140737488355328 := h3
    omega
  have KS : ∀ W a b c d, RdO W x a c → RdO W x b d → Calls Try.prog 11 #[(x.on a c).val, (x.on b d).val] W fun e w' => e = .returned (.bool true) ∧ Below W.heap.size W w' := fun W a b c d r q => by
    have h := same_any x x a b c d W r q
    rw [eq1_self] at h
    exact h
  clear hf hx k R1 hB
  dsimp only [HS.on, HR.val] at K1 K2 K3 ⊢
  go_enter Try.func4, Try.ntmps4
  go_wp2_with (first
    | (go_at_call 7; refine K1.mono ?_; clear K1; rintro e w1 ⟨rfl, b1⟩; have B1 := C0.below.trans (b1.mono C0.below.size); have XH : w1.heap[w.heap.size]? = some (.cells ((HS.mk peer boot life ls pend miss).on a c).cells.toArray 24 (0, 0)) := (b1.block _ (row_lt (C0.at0 _ rfl))).trans (C0.at0 _ rfl); clear b1)
    | ((with_reducible show wpList _ _ _ (Oper.mk _ (Op.load 24 (Operand.tmp 4)) _ _ _ _ :: _) _ _); refine wpList_load24 rfl _ rfl w.heap.size 0 ((HS.mk peer boot life ls pend miss).on a c) rfl (range_rowH XH) ?_; dsimp only [HS.on, HR.val])
    | (go_at_call 20; refine (K2 _ (R.below B1) (L.below B1)).mono ?_; clear K2; rintro e w2 ⟨a2, c2, m2, d2, rfl, O2, R2, b2⟩)
    | ((with_reducible show wpList _ _ _ (Oper.mk _ (Op.store 24 (Operand.tmp 7) _) _ _ _ _ :: _) _ _); refine wpList_put24 rfl _ _ rfl (x.on a2 c2) (g := w2.heap.size) (cs := z6) (heap_new rfl) rfl rfl rfl ?_; intro w3 T3 o3 z3; clear z3; have e3 : Below w2.heap.size w2 (w2.alloc (.cells z6 24)) := (Below.refl _ _).alloc (Nat.le_refl _) _; have b3 : Below w2.heap.size w2 w3 := e3.trans (o3.below e3.size (fun q hq => by cases hq; exact Nat.le_refl _)); have B3 := (B1.trans (b2.mono B1.size)).trans (b3.mono (B1.trans (b2.mono B1.size)).size); have S3 : RdO w3 x a2 c2 := RdL.below (O2.rd HLX.out) b3; have N3 := R2.below b3; have XH := (b3.block _ (row_lt ((b2.block _ (row_lt XH)).trans XH))).trans ((b2.block _ (row_lt XH)).trans XH); clear R2 O2 o3 e3 b3 b2 B1)
    | (go_at_call 21; refine (K3 _ (R.below B3) (L.below B3)).mono ?_; clear K3; rintro e w4 ⟨a4, c4, m4, d4, rfl, O4, R4, b4⟩)
    | ((with_reducible show wpList _ _ _ (Oper.mk _ (Op.store 24 (Operand.tmp 9) _) _ _ _ _ :: _) _ _); refine wpList_put24 rfl _ _ rfl (x.on a4 c4) (g := w4.heap.size) (cs := z6) (heap_new rfl) rfl rfl rfl ?_; intro w5 T5 o5 z5; clear z5; have e5 : Below w4.heap.size w4 (w4.alloc (.cells z6 24)) := (Below.refl _ _).alloc (Nat.le_refl _) _; have b5 : Below w4.heap.size w4 w5 := e5.trans (o5.below e5.size (fun q hq => by cases hq; exact Nat.le_refl _)); have b45 := b4.trans (b5.mono b4.size); have B5 := B3.trans (b45.mono B3.size); have S5 : RdO w5 x a4 c4 := RdL.below (O4.rd HLX.out) b5; have N5 := R4.below b5; have M5 := N3.below b45; have Q5 : RdO w5 x a2 c2 := RdL.below S3 b45; have T3' := (b45.block _ (row_lt T3)).trans T3; clear R4 O4 o5 e5 b5 b4 B3 S3 N3)
    | ((with_reducible show wpList _ _ _ (Oper.mk _ (Op.load 24 (Operand.tmp 7)) _ _ _ _ :: _) _ _); refine wpList_load24 rfl _ rfl w2.heap.size 0 (x.on a2 c2) rfl (range_rowH T3') ?_)
    | ((with_reducible show wpList _ _ _ (Oper.mk _ (Op.load 24 (Operand.tmp 9)) _ _ _ _ :: _) _ _); refine wpList_load24 rfl _ rfl w4.heap.size 0 (x.on a4 c4) rfl (range_rowH T5) ?_)
    | (go_at_call 11; refine (KS _ _ _ _ _ Q5 S5).mono ?_; clear KS; rintro e w6 ⟨rfl, b6⟩; have N6 := N5.below b6; have M6 := M5.below b6; have B6 := B5.trans (b6.mono B5.size); clear b6)
    | (go_at_call 22; refine (ints_same m2 ts.length d2 m4 d4 ts _ M6 N6).mono ?_; rintro e w7 ⟨rfl, b7⟩; have B7 := B6.trans (b7.mono B6.size); clear b7)
    | (go_at_call 8; refine (awake_any _).mono ?_; rintro e w8 ⟨rfl, b8⟩; have B8 := B7.trans (b8.mono B7.size)))
  go_ret
  exact ⟨rfl, B8⟩
theorem plays_walk (id : Int) (h : HS) (a : Option Addr) (c : Nat) (la : Option Addr) (cap : Nat) (l : List Int) (w : World) (R : RdO w h a c) (L : Row w la l.length cap l) (hB : l.length * 8 ≤ 140737488355328) : Calls Try.prog 4 #[.int .i64 id, (h.on a c).val, .slice la l.length cap] w fun e w' => e = .returned (.bool true) ∧ Below w.heap.size w w' := by
  cases hf : h.fit id with
  | true => exact plays_fit id h a c la cap l w R L hB hf
  | false => exact plays_unfit id h a c la l.length cap w R hf
end Go.Proofs.Ytifkkkfejbgifaa
