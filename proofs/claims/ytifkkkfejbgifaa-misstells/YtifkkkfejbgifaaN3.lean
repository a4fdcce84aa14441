/-
  The document's Turn.
-/
import Derived.Test.YtifkkkfejbgifaaN2
namespace Go.Proofs.Ytifkkkfejbgifaa
open Go.ChangeShapes Go.WideShapes Go.ChangeAt Go.RowKit
set_option linter.unusedVariables false
set_option linter.unusedSimpArgs false

set_option maxRecDepth 100000 in
set_option maxHeartbeats 4000000 in
theorem rturn_new (peer boot life : Int) (ls : List LS) (miss : Int) (a : Option Addr) (c : Nat) (w : World) (R : RdL w a ls.length c ls) (k0 : 0 ≤ miss) (k1 : miss < 3) : Calls Try.prog 10 #[((HS.mk peer boot life ls false miss).on a c).val] w fun e w' => ∃ a' c', e = .returned (.tuple #[((HS.mk peer boot life ls true miss).on a' c').val, .int .i64 1]) ∧ Own w.heap.size w' (HS.mk peer boot life ls true miss) a' c' ∧ Below w.heap.size w w' := by
  have hwr : IntKind.i64.wrap (miss + 1) = miss + 1 := by rw [IntKind.wrap_i64]; omega
  have C0 := ((Bx.nil w).add rfl (.cells #[.int .i64 peer, .int .i64 boot, .int .i64 life, .slice a ls.length c, .bool false, .int .i64 miss] 24)).add (by simp) (.cells z6 24)
  have R1 : RdO _ (HS.mk peer boot life ls false miss) a c := R.below C0.below
  have K1 := copied_any (HS.mk peer boot life ls false miss) a c _ R1
  dsimp only [HS.on, HR.val] at K1 ⊢
  go_enter Try.func10, Try.ntmps10
  go_wp2_with (first
    | (go_at_call 26; refine K1.mono ?_; rintro e w1 ⟨a1, c1, rfl, O1, b1⟩; have C1 := C0.later b1; have X1 := C1.at_ 1 _ rfl; have hne : w.heap.size + 1 ≠ w1.heap.size := Nat.ne_of_lt (row_lt X1); clear K1)
    | ((with_reducible show wpList _ _ _ (Oper.mk _ (Op.store 24 (Operand.tmp 4) _) _ _ _ _ :: _) _ _); refine wpList_put24 rfl _ _ rfl ((HS.mk peer boot life ls false miss).on a1 c1) (g := w1.heap.size) (cs := z6) (heap_new rfl) rfl rfl rfl ?_; intro w2 T2 o2 z2; have ⟨p0, p1, p2, p3, p4, p5⟩ := cel6 T2; have ⟨f0, f1, f2, f3, f4, f5⟩ := fre6 T2; dsimp only [HS.on] at p0 p1 p2 p3 p4 p5)
    | ((with_reducible show wpList _ _ _ (Oper.mk _ (Op.load 24 (Operand.tmp 4)) _ _ _ _ :: _) _ _); refine wpList_load24 rfl _ rfl w1.heap.size 0 ((HS.mk peer boot life ls true miss).on a1 c1) rfl (range_rowH (set_row T2 4 _)) ?_; have X3 := set_far (only_far o2 (heap_old (row_lt X1) X1) hne) hne 4 (.bool true))
    | ((with_reducible show wpList _ _ _ (Oper.mk _ (Op.store 24 (Operand.tmp 2) _) _ _ _ _ :: _) _ _); refine wpList_put24 rfl _ _ rfl ((HS.mk peer boot life ls true miss).on a1 c1) X3 rfl rfl rfl ?_; intro w4 T4 o4 z4))
  refine bodyPost_ret (results_ct rfl _ _ (w.heap.size + 1) _ rfl (load_24 (d := (HS.mk peer boot life ls true miss).on a1 c1) T4)) rfl ⟨a1, c1, rfl, ?_, ?_⟩
  · have Q1 : Own w.heap.size w1 (HS.mk peer boot life ls true miss) a1 c1 := ⟨O1.lst, fun g off e => Nat.le_trans C0.below.size (O1.new g off e)⟩
    have Q2 := own_only (Q1.below ((Below.refl _ _).alloc (Nat.le_refl _) (.cells z6 24))) (o2.trans ((Only.refl _ _).set 4 (.bool true))) (heap_new rfl) (by decide)
    exact own_only Q2 o4 X3 (by decide)
  · have B1 : Below w.heap.size w (w1.alloc (.cells z6 24)) := C1.below.alloc C1.below.size _
    have B2 := B1.trans ((o2.trans ((Only.refl _ _).set 4 (.bool true))).below B1.size (fun q hq => by cases hq; exact C1.below.size))
    exact B2.trans (o4.below B2.size (fun q hq => by cases hq; omega))
set_option maxRecDepth 100000 in
set_option maxHeartbeats 4000000 in
theorem rturn_miss (peer boot life : Int) (ls : List LS) (miss : Int) (a : Option Addr) (c : Nat) (w : World) (R : RdL w a ls.length c ls) (k0 : 0 ≤ miss) (k1 : miss < 3) (hm : ¬ miss + 1 ≥ 3) : Calls Try.prog 10 #[((HS.mk peer boot life ls true miss).on a c).val] w fun e w' => ∃ a' c', e = .returned (.tuple #[((HS.mk peer boot life ls true (miss + 1)).on a' c').val, .int .i64 1]) ∧ Own w.heap.size w' (HS.mk peer boot life ls true (miss + 1)) a' c' ∧ Below w.heap.size w w' := by
  have hwr : IntKind.i64.wrap (miss + 1) = miss + 1 := by rw [IntKind.wrap_i64]; omega
  have C0 := ((Bx.nil w).add rfl (.cells #[.int .i64 peer, .int .i64 boot, .int .i64 life, .slice a ls.length c, .bool true, .int .i64 miss] 24)).add (by simp) (.cells z6 24)
  have R1 : RdO _ (HS.mk peer boot life ls true miss) a c := R.below C0.below
  have K1 := copied_any (HS.mk peer boot life ls true miss) a c _ R1
  dsimp only [HS.on, HR.val] at K1 ⊢
  go_enter Try.func10, Try.ntmps10
  go_wp2_with (first
    | (go_at_call 26; refine K1.mono ?_; rintro e w1 ⟨a1, c1, rfl, O1, b1⟩; have C1 := C0.later b1; have X1 := C1.at_ 1 _ rfl; have hne : w.heap.size + 1 ≠ w1.heap.size := Nat.ne_of_lt (row_lt X1); clear K1)
    | ((with_reducible show wpList _ _ _ (Oper.mk _ (Op.store 24 (Operand.tmp 4) _) _ _ _ _ :: _) _ _); refine wpList_put24 rfl _ _ rfl ((HS.mk peer boot life ls true miss).on a1 c1) (g := w1.heap.size) (cs := z6) (heap_new rfl) rfl rfl rfl ?_; intro w2 T2 o2 z2; have ⟨p0, p1, p2, p3, p4, p5⟩ := cel6 T2; have ⟨f0, f1, f2, f3, f4, f5⟩ := fre6 T2; dsimp only [HS.on] at p0 p1 p2 p3 p4 p5)
    | ((with_reducible show wpList _ _ _ (Oper.mk _ (Op.load 24 (Operand.tmp 4)) _ _ _ _ :: _) _ _); refine wpList_load24 rfl _ rfl w1.heap.size 0 ((HS.mk peer boot life ls true (miss + 1)).on a1 c1) rfl (range_rowH (set_row T2 5 _)) ?_; have X3 := set_far (only_far o2 (heap_old (row_lt X1) X1) hne) hne 5 (.int .i64 (miss + 1)))
    | ((with_reducible show wpList _ _ _ (Oper.mk _ (Op.store 24 (Operand.tmp 2) _) _ _ _ _ :: _) _ _); refine wpList_put24 rfl _ _ rfl ((HS.mk peer boot life ls true (miss + 1)).on a1 c1) X3 rfl rfl rfl ?_; intro w4 T4 o4 z4))
  refine bodyPost_ret (results_ct rfl _ _ (w.heap.size + 1) _ rfl (load_24 (d := (HS.mk peer boot life ls true (miss + 1)).on a1 c1) T4)) rfl ⟨a1, c1, rfl, ?_, ?_⟩
  · have Q1 : Own w.heap.size w1 (HS.mk peer boot life ls true (miss + 1)) a1 c1 := ⟨O1.lst, fun g off e => Nat.le_trans C0.below.size (O1.new g off e)⟩
    have Q2 := own_only (Q1.below ((Below.refl _ _).alloc (Nat.le_refl _) (.cells z6 24))) (o2.trans ((Only.refl _ _).set 5 (.int .i64 (miss + 1)))) (heap_new rfl) (by decide)
    exact own_only Q2 o4 X3 (by decide)
  · have B1 : Below w.heap.size w (w1.alloc (.cells z6 24)) := C1.below.alloc C1.below.size _
    have B2 := B1.trans ((o2.trans ((Only.refl _ _).set 5 (.int .i64 (miss + 1)))).below B1.size (fun q hq => by cases hq; exact C1.below.size))
    exact B2.trans (o4.below B2.size (fun q hq => by cases hq; omega))
set_option maxRecDepth 100000 in
set_option maxHeartbeats 4000000 in
theorem rturn_drop (peer boot life : Int) (ls : List LS) (miss : Int) (a : Option Addr) (c : Nat) (w : World) (R : RdL w a ls.length c ls) (k0 : 0 ≤ miss) (k1 : miss < 3) (hm : miss + 1 ≥ 3) : Calls Try.prog 10 #[((HS.mk peer boot life ls true miss).on a c).val] w fun e w' => ∃ a' c', e = .returned (.tuple #[(HS.z.on a' c').val, .int .i64 2]) ∧ Own w.heap.size w' HS.z a' c' ∧ Below w.heap.size w w' := by
  have hwr : IntKind.i64.wrap (miss + 1) = miss + 1 := by rw [IntKind.wrap_i64]; omega
  have C0 := ((Bx.nil w).add rfl (.cells #[.int .i64 peer, .int .i64 boot, .int .i64 life, .slice a ls.length c, .bool true, .int .i64 miss] 24)).add (by simp) (.cells z6 24)
  have R1 : RdO _ (HS.mk peer boot life ls true miss) a c := R.below C0.below
  have K1 := copied_any (HS.mk peer boot life ls true miss) a c _ R1
  dsimp only [HS.on, HR.val] at K1 ⊢
  go_enter Try.func10, Try.ntmps10
  go_wp2_with (first
    | (go_at_call 26; refine K1.mono ?_; rintro e w1 ⟨a1, c1, rfl, O1, b1⟩; have C1 := C0.later b1; have X1 := C1.at_ 1 _ rfl; have hne : w.heap.size + 1 ≠ w1.heap.size := Nat.ne_of_lt (row_lt X1); clear K1)
    | ((with_reducible show wpList _ _ _ (Oper.mk _ (Op.store 24 (Operand.tmp 4) _) _ _ _ _ :: _) _ _); refine wpList_put24 rfl _ _ rfl ((HS.mk peer boot life ls true miss).on a1 c1) (g := w1.heap.size) (cs := z6) (heap_new rfl) rfl rfl rfl ?_; intro w2 T2 o2 z2; have ⟨p0, p1, p2, p3, p4, p5⟩ := cel6 T2; have ⟨f0, f1, f2, f3, f4, f5⟩ := fre6 T2; dsimp only [HS.on] at p0 p1 p2 p3 p4 p5; have X3 := only_far o2 (heap_old (row_lt X1) X1) hne)
    | ((with_reducible show wpList _ _ _ (Oper.mk _ (Op.store 24 (Operand.tmp 2) _) _ _ _ _ :: _) _ _); refine wpList_put24 rfl _ _ rfl (HS.z.on none 0) X3 rfl rfl rfl ?_; intro w4 T4 o4 z4))
  refine bodyPost_ret (results_ct rfl _ _ (w.heap.size + 1) _ rfl (load_24 (d := HS.z.on none 0) T4)) rfl ⟨none, 0, rfl, ?_, ?_⟩
  · exact ⟨lstL_nil _, fun q off e => by cases e⟩
  · have B1 : Below w.heap.size w (w1.alloc (.cells z6 24)) := C1.below.alloc C1.below.size _
    have B2 := B1.trans (o2.below B1.size (fun q hq => by cases hq; exact C1.below.size))
    exact B2.trans (o4.below B2.size (fun q hq => by cases hq; omega))
theorem rturn_any (h : HS) (a : Option Addr) (c : Nat) (w : World) (R : RdO w h a c) (k : OkM h) : Calls Try.prog 10 #[(h.on a c).val] w fun e w' => ∃ a' c', e = .returned (.tuple #[((tnH h).on a' c').val, .int .i64 (tnW h)]) ∧ Own w.heap.size w' (tnH h) a' c' ∧ Below w.heap.size w w' := by
  obtain ⟨peer, boot, life, ls, pend, miss⟩ := h
  obtain ⟨k0, k1⟩ := k
  cases pend with
  | false => exact rturn_new peer boot life ls miss a c w R k0 k1
  | true =>
    by_cases hm : miss + 1 ≥ 3
    · have e1 : tnW ⟨peer, boot, life, ls, true, miss⟩ = 2 := by unfold tnW; rw [if_pos rfl, if_pos hm]
      have e2 : tnH ⟨peer, boot, life, ls, true, miss⟩ = HS.z := by unfold tnH; rw [if_pos rfl, if_pos hm]
      rw [e1, e2]
      exact rturn_drop peer boot life ls miss a c w R k0 k1 hm
    · have e1 : tnW ⟨peer, boot, life, ls, true, miss⟩ = 1 := by unfold tnW; rw [if_pos rfl, if_neg hm]
      have e2 : tnH ⟨peer, boot, life, ls, true, miss⟩ = ⟨peer, boot, life, ls, true, miss + 1⟩ := by unfold tnH; rw [if_pos rfl, if_neg hm]
      rw [e1, e2]
      exact rturn_miss peer boot life ls miss a c w R k0 k1 hm
end Go.Proofs.Ytifkkkfejbgifaa
