/-
  The document's functions.
-/
import Derived.Test.YtifkkkfejbgifaaN1
namespace Go.Proofs.Ytifkkkfejbgifaa
open Go.ChangeShapes Go.WideShapes Go.ChangeAt Go.RowKit
set_option linter.unusedVariables false
set_option linter.unusedSimpArgs false

section
variable {ops : Array Oper} {rest : List Oper} {o : Oper} {A : Act} {W : World} {Q : Exit → Act → World → Prop}
/-- A half-edge stored: what holds behind it. -/
theorem wpList_put24 (hgd : o.guard = none) (x y : Operand) (ho : o.op = .store 24 x y) {g : Nat} {cs : Array Value} (d : HR) (hh : W.heap[g]? = some (.cells cs 24 (0, 0))) (hc : cs.size = 6) (hx : A.eval x = .pointer (some ⟨g, 0, none⟩)) (hy : A.eval y = d.val)
    (h : ∀ W' : World, W'.heap[g]? = some (.cells d.cells.toArray 24 (0, 0)) → Only (at1 g) W W' → W'.heap.size = W.heap.size → wpList Try.prog ops Q rest (A.put o.dst undef) W') : wpList Try.prog ops Q (o :: rest) A W :=
  wpList_store24row hgd x y ho d hh hc hx hy (h _ (setRow_heap _ _ _ _ _ _ hh) (Only.setRow (C := at1 g) (Only.refl _ _) (fun _ => rfl) _) (by simp [World.setRow]))
end
theorem only_far {g q : Nat} {W W' : World} {o : Obj} (h : Only (at1 g) W W') (hq : W.heap[q]? = some o) (hn : q ≠ g) : W'.heap[q]? = some o := (h.block q (row_lt hq) hn).trans hq
theorem own_only {base g t : Nat} {W W' : World} {cs : Array Value} {h : HS} {a : Option Addr} {c : Nat} (o : Own base W h a c) (on : Only (at1 g) W W') (hg : W.heap[g]? = some (.cells cs t (0, 0))) (ht : t ≠ 35) : Own base W' h a c :=
  ⟨o.lst.of_block fun q off e => on.block q (o.lst.lt' e) (by intro hq; subst e; exact o.lst.ne_cells hg ht hq), o.new⟩
set_option maxHeartbeats 4000000 in
theorem copied_any (h : HS) (a : Option Addr) (c : Nat) (w : World) (R : RdO w h a c) : Calls Try.prog 26 #[(h.on a c).val] w fun e w' => ∃ a' c', e = .returned (h.on a' c').val ∧ Own w.heap.size w' h a' c' ∧ Below w.heap.size w w' := by
  obtain ⟨peer, boot, life, ls, pend, miss⟩ := h
  dsimp only [HS.on, HR.val, RdO] at R ⊢
  have C0 := (((Bx.nil w).add rfl (.cells #[.int .i64 peer, .int .i64 boot, .int .i64 life, .slice a ls.length c, .bool pend, .int .i64 miss] 24)).add (by simp) (.cells z6 24)).add (by simp) (.cells z6 24)
  go_enter Try.func26, Try.ntmps26
  go_wp2_with (first
    | ((with_reducible show wpList _ _ _ (Oper.mk _ (Op.store 24 (Operand.tmp 3) _) _ _ _ _ :: _) _ _); refine wpList_put24 rfl _ _ rfl ⟨peer, boot, life, a, ls.length, c, pend, miss⟩ (g := w.heap.size + 1 + 1) (cs := z6) (C0.at_ 2 _ rfl) rfl rfl rfl ?_; intro w2 T2 o2 z2; have Y0 := only_far o2 (C0.at0 _ rfl) (by omega); have Y1 := only_far o2 (C0.at_ 1 _ rfl) (by omega); have b2 := C0.below.trans (((o2.trans ((Only.refl _ _).set 3 (.slice none 0 0)))).below C0.below.size (fun q hq => by cases hq; omega)); have R2 := R.below b2; have ⟨p0, p1, p2, p3, p4, p5⟩ := cel6 T2; have ⟨f0, f1, f2, f3, f4, f5⟩ := fre6 T2; have ⟨q0, q1, q2, q3, q4, q5⟩ := cel6 Y0; dsimp only at p0 p1 p2 p3 p4 p5)
    | ((with_reducible show wpList _ _ _ (Oper.mk _ (Op.call { callee := Callee.builtin Builtin.append, args := _, argTypes := #[22, 22] }) _ _ _ _ :: _) _ _); go_must (refine wpList_copy_lstL rfl _ _ rfl rfl rfl R2 ?_; intro a1 c1 w3 L1 o1 b3; have T3 := (b3.block _ (row_lt (set_row T2 3 (.slice none 0 0)))).trans (set_row T2 3 (.slice none 0 0)); have Y3 := (b3.block _ (row_lt (set_far Y1 (show w.heap.size + 1 ≠ w.heap.size + 1 + 1 by omega) 3 (.slice none 0 0)))).trans (set_far Y1 (by omega) 3 (.slice none 0 0)); have ⟨f0, f1, f2, f3, f4, f5⟩ := fre6 T3; have ⟨p0, p1, p2, p3, p4, p5⟩ := cel6 T3))
    | ((with_reducible show wpList _ _ _ (Oper.mk _ (Op.load 24 (Operand.tmp 3)) _ _ _ _ :: _) _ _); refine wpList_load24 rfl _ rfl (w.heap.size + 1 + 1) 0 ⟨peer, boot, life, a1, ls.length, c1, pend, miss⟩ rfl (range_rowH (set_row T3 3 _)) ?_; have X3 := set_far Y3 (show w.heap.size + 1 ≠ w.heap.size + 1 + 1 by omega) 3 (.slice a1 ls.length c1))
    | ((with_reducible show wpList _ _ _ (Oper.mk _ (Op.store 24 (Operand.tmp 2) _) _ _ _ _ :: _) _ _); refine wpList_put24 rfl _ _ rfl ⟨peer, boot, life, a1, ls.length, c1, pend, miss⟩ X3 rfl rfl rfl ?_; intro w4 T4 o4 z4))
  have hz : w.heap.size + 1 + 1 + 1 ≤ w3.heap.size := by
    have h1 := b3.size
    simp [World.setCell] at h1
    have h2 := z2
    simp at h2
    omega
  have Q1 : Own w.heap.size w3 (HS.mk peer boot life ls pend miss) a1 c1 := ⟨L1, fun g off e => by have := o1 g off e; have h2 := b2.size; omega⟩
  have Q2 := own_only Q1 ((Only.refl _ _).set 3 (.slice a1 ls.length c1)) T3 (by decide)
  have Q4 := own_only Q2 o4 X3 (by decide)
  have B3 : Below w.heap.size w w3 := b2.trans (b3.mono b2.size)
  have B4 := B3.trans (((Only.refl _ w3).set (d := w.heap.size + 1 + 1) 3 (.slice a1 ls.length c1)).below B3.size (fun q hq => by cases hq; omega))
  exact bodyPost_ret (results_row1 rfl _ _ (w.heap.size + 1) _ rfl (load_24 (d := ⟨peer, boot, life, a1, ls.length, c1, pend, miss⟩) T4)) rfl ⟨a1, c1, rfl, Q4, B4.trans (o4.below B4.size (fun q hq => by cases hq; omega))⟩
set_option maxRecDepth 100000 in
set_option maxHeartbeats 4000000 in
theorem rasked_any (h : HS) (a : Option Addr) (c : Nat) (w : World) (R : RdO w h a c) : Calls Try.prog 15 #[(h.on a c).val] w fun e w' => ∃ a' c', e = .returned ((asH h).on a' c').val ∧ Own w.heap.size w' (asH h) a' c' ∧ Below w.heap.size w w' := by
  obtain ⟨peer, boot, life, ls, pend, miss⟩ := h
  have C0 := ((Bx.nil w).add rfl (.cells #[.int .i64 peer, .int .i64 boot, .int .i64 life, .slice a ls.length c, .bool pend, .int .i64 miss] 24)).add (by simp) (.cells z6 24)
  have R1 : RdO _ (HS.mk peer boot life ls pend miss) a c := R.below C0.below
  have K1 := copied_any (HS.mk peer boot life ls pend miss) a c _ R1
  dsimp only [HS.on, HR.val] at K1 ⊢
  go_enter Try.func15, Try.ntmps15
  go_wp2_with (first
    | (go_at_call 26; refine K1.mono ?_; rintro e w1 ⟨a1, c1, rfl, O1, b1⟩; have C1 := C0.later b1; have X1 := C1.at_ 1 _ rfl; clear K1)
    | ((with_reducible show wpList _ _ _ (Oper.mk _ (Op.store 24 (Operand.tmp 3) _) _ _ _ _ :: _) _ _); refine wpList_put24 rfl _ _ rfl ((HS.mk peer boot life ls pend miss).on a1 c1) (g := w1.heap.size) (cs := z6) (heap_new rfl) rfl rfl rfl ?_; intro w2 T2 o2 z2; have ⟨p0, p1, p2, p3, p4, p5⟩ := cel6 T2; have ⟨f0, f1, f2, f3, f4, f5⟩ := fre6 T2)
    | ((with_reducible show wpList _ _ _ (Oper.mk _ (Op.load 24 (Operand.tmp 3)) _ _ _ _ :: _) _ _); refine wpList_load24 rfl _ rfl w1.heap.size 0 ((asH ⟨peer, boot, life, ls, pend, miss⟩ : HS).on a1 c1) rfl (range_rowH (set_row T2 4 _)) ?_; have hne : w.heap.size + 1 ≠ w1.heap.size := Nat.ne_of_lt (row_lt X1); have X3 := set_far (only_far o2 (heap_old (row_lt X1) X1) hne) hne 4 (.bool true))
    | ((with_reducible show wpList _ _ _ (Oper.mk _ (Op.store 24 (Operand.tmp 2) _) _ _ _ _ :: _) _ _); refine wpList_put24 rfl _ _ rfl ((asH ⟨peer, boot, life, ls, pend, miss⟩ : HS).on a1 c1) X3 rfl rfl rfl ?_; intro w4 T4 o4 z4))
  refine bodyPost_ret (results_row1 rfl _ _ (w.heap.size + 1) _ rfl (load_24 (d := (asH ⟨peer, boot, life, ls, pend, miss⟩ : HS).on a1 c1) T4)) rfl ⟨a1, c1, rfl, ?_, ?_⟩
  · have Q1 : Own w.heap.size w1 (asH ⟨peer, boot, life, ls, pend, miss⟩) a1 c1 := ⟨O1.lst, fun g off e => Nat.le_trans C0.below.size (O1.new g off e)⟩
    have Q2 := own_only (Q1.below ((Below.refl _ _).alloc (Nat.le_refl _) (.cells z6 24))) (o2.trans ((Only.refl _ _).set 4 (.bool true))) (heap_new rfl) (by decide)
    exact own_only Q2 o4 X3 (by decide)
  · have B1 : Below w.heap.size w (w1.alloc (.cells z6 24)) := C1.below.alloc C1.below.size _
    have B2 := B1.trans ((o2.trans ((Only.refl _ _).set 4 (.bool true))).below B1.size (fun q hq => by cases hq; exact C1.below.size))
    exact B2.trans (o4.below B2.size (fun q hq => by cases hq; omega))
set_option maxRecDepth 100000 in
set_option maxHeartbeats 4000000 in
theorem rheard_any (h : HS) (a : Option Addr) (c : Nat) (w : World) (R : RdO w h a c) : Calls Try.prog 17 #[(h.on a c).val] w fun e w' => ∃ a' c', e = .returned ((heH h).on a' c').val ∧ Own w.heap.size w' (heH h) a' c' ∧ Below w.heap.size w w' := by
  obtain ⟨peer, boot, life, ls, pend, miss⟩ := h
  have C0 := ((Bx.nil w).add rfl (.cells #[.int .i64 peer, .int .i64 boot, .int .i64 life, .slice a ls.length c, .bool pend, .int .i64 miss] 24)).add (by simp) (.cells z6 24)
  have R1 : RdO _ (HS.mk peer boot life ls pend miss) a c := R.below C0.below
  have K1 := copied_any (HS.mk peer boot life ls pend miss) a c _ R1
  dsimp only [HS.on, HR.val] at K1 ⊢
  go_enter Try.func17, Try.ntmps17
  go_wp2_with (first
    | (go_at_call 26; refine K1.mono ?_; rintro e w1 ⟨a1, c1, rfl, O1, b1⟩; have C1 := C0.later b1; have X1 := C1.at_ 1 _ rfl; clear K1)
    | ((with_reducible show wpList _ _ _ (Oper.mk _ (Op.store 24 (Operand.tmp 3) _) _ _ _ _ :: _) _ _); refine wpList_put24 rfl _ _ rfl ((HS.mk peer boot life ls pend miss).on a1 c1) (g := w1.heap.size) (cs := z6) (heap_new rfl) rfl rfl rfl ?_; intro w2 T2 o2 z2; have ⟨p0, p1, p2, p3, p4, p5⟩ := cel6 T2; have ⟨f0, f1, f2, f3, f4, f5⟩ := fre6 T2)
    | ((with_reducible show wpList _ _ _ (Oper.mk _ (Op.load 24 (Operand.tmp 3)) _ _ _ _ :: _) _ _); refine wpList_load24 rfl _ rfl w1.heap.size 0 ((heH ⟨peer, boot, life, ls, pend, miss⟩ : HS).on a1 c1) rfl (range_rowH (set_row T2 5 _)) ?_; have hne : w.heap.size + 1 ≠ w1.heap.size := Nat.ne_of_lt (row_lt X1); have X3 := set_far (only_far o2 (heap_old (row_lt X1) X1) hne) hne 5 (.int .i64 0))
    | ((with_reducible show wpList _ _ _ (Oper.mk _ (Op.store 24 (Operand.tmp 2) _) _ _ _ _ :: _) _ _); refine wpList_put24 rfl _ _ rfl ((heH ⟨peer, boot, life, ls, pend, miss⟩ : HS).on a1 c1) X3 rfl rfl rfl ?_; intro w4 T4 o4 z4))
  refine bodyPost_ret (results_row1 rfl _ _ (w.heap.size + 1) _ rfl (load_24 (d := (heH ⟨peer, boot, life, ls, pend, miss⟩ : HS).on a1 c1) T4)) rfl ⟨a1, c1, rfl, ?_, ?_⟩
  · have Q1 : Own w.heap.size w1 (heH ⟨peer, boot, life, ls, pend, miss⟩) a1 c1 := ⟨O1.lst, fun g off e => Nat.le_trans C0.below.size (O1.new g off e)⟩
    have Q2 := own_only (Q1.below ((Below.refl _ _).alloc (Nat.le_refl _) (.cells z6 24))) (o2.trans ((Only.refl _ _).set 5 (.int .i64 0))) (heap_new rfl) (by decide)
    exact own_only Q2 o4 X3 (by decide)
  · have B1 : Below w.heap.size w (w1.alloc (.cells z6 24)) := C1.below.alloc C1.below.size _
    have B2 := B1.trans ((o2.trans ((Only.refl _ _).set 5 (.int .i64 0))).below B1.size (fun q hq => by cases hq; exact C1.below.size))
    exact B2.trans (o4.below B2.size (fun q hq => by cases hq; omega))
set_option maxRecDepth 100000 in
set_option maxHeartbeats 4000000 in
theorem ranswered_any (h : HS) (a : Option Addr) (c : Nat) (w : World) (R : RdO w h a c) : Calls Try.prog 19 #[(h.on a c).val] w fun e w' => ∃ a' c', e = .returned ((anH h).on a' c').val ∧ Own w.heap.size w' (anH h) a' c' ∧ Below w.heap.size w w' := by
  obtain ⟨peer, boot, life, ls, pend, miss⟩ := h
  have C0 := ((Bx.nil w).add rfl (.cells #[.int .i64 peer, .int .i64 boot, .int .i64 life, .slice a ls.length c, .bool pend, .int .i64 miss] 24)).add (by simp) (.cells z6 24)
  have R1 : RdO _ (HS.mk peer boot life ls pend miss) a c := R.below C0.below
  have K1 := rheard_any (HS.mk peer boot life ls pend miss) a c _ R1
  dsimp only [HS.on, HR.val] at K1 ⊢
  go_enter Try.func19, Try.ntmps19
  go_wp2_with (first
    | (go_at_call 17; refine K1.mono ?_; rintro e w1 ⟨a1, c1, rfl, O1, b1⟩; have C1 := C0.later b1; have X1 := C1.at_ 1 _ rfl; clear K1)
    | ((with_reducible show wpList _ _ _ (Oper.mk _ (Op.store 24 (Operand.tmp 3) _) _ _ _ _ :: _) _ _); refine wpList_put24 rfl _ _ rfl ((heH ⟨peer, boot, life, ls, pend, miss⟩).on a1 c1) (g := w1.heap.size) (cs := z6) (heap_new rfl) rfl rfl rfl ?_; intro w2 T2 o2 z2; have ⟨p0, p1, p2, p3, p4, p5⟩ := cel6 T2; have ⟨f0, f1, f2, f3, f4, f5⟩ := fre6 T2)
    | ((with_reducible show wpList _ _ _ (Oper.mk _ (Op.load 24 (Operand.tmp 3)) _ _ _ _ :: _) _ _); refine wpList_load24 rfl _ rfl w1.heap.size 0 ((anH ⟨peer, boot, life, ls, pend, miss⟩ : HS).on a1 c1) rfl (range_rowH (set_row T2 4 _)) ?_; have hne : w.heap.size + 1 ≠ w1.heap.size := Nat.ne_of_lt (row_lt X1); have X3 := set_far (only_far o2 (heap_old (row_lt X1) X1) hne) hne 4 (.bool false))
    | ((with_reducible show wpList _ _ _ (Oper.mk _ (Op.store 24 (Operand.tmp 2) _) _ _ _ _ :: _) _ _); refine wpList_put24 rfl _ _ rfl ((anH ⟨peer, boot, life, ls, pend, miss⟩ : HS).on a1 c1) X3 rfl rfl rfl ?_; intro w4 T4 o4 z4))
  refine bodyPost_ret (results_row1 rfl _ _ (w.heap.size + 1) _ rfl (load_24 (d := (anH ⟨peer, boot, life, ls, pend, miss⟩ : HS).on a1 c1) T4)) rfl ⟨a1, c1, rfl, ?_, ?_⟩
  · have Q1 : Own w.heap.size w1 (anH ⟨peer, boot, life, ls, pend, miss⟩) a1 c1 := ⟨O1.lst, fun g off e => Nat.le_trans C0.below.size (O1.new g off e)⟩
    have Q2 := own_only (Q1.below ((Below.refl _ _).alloc (Nat.le_refl _) (.cells z6 24))) (o2.trans ((Only.refl _ _).set 4 (.bool false))) (heap_new rfl) (by decide)
    exact own_only Q2 o4 X3 (by decide)
  · have B1 : Below w.heap.size w (w1.alloc (.cells z6 24)) := C1.below.alloc C1.below.size _
    have B2 := B1.trans ((o2.trans ((Only.refl _ _).set 4 (.bool false))).below B1.size (fun q hq => by cases hq; exact C1.below.size))
    exact B2.trans (o4.below B2.size (fun q hq => by cases hq; omega))
end Go.Proofs.Ytifkkkfejbgifaa
