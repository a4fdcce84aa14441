/-
  Package half: a register written.
-/
import Derived.Test.YtacefkchhcpgaaaC6
namespace Go.Proofs.Ytacefkchhcpgaaa
open Go.ChangeShapes Go.WideShapes Go.ChangeAt Go.RowKit
set_option linter.unusedVariables false
set_option linter.unusedSimpArgs false


set_option maxRecDepth 100000 in
set_option maxHeartbeats 8000000 in
theorem write_zero (peer boot life : Int) (ls : List LS) (pend : Bool) (miss : Int) (a : Option Addr) (c : Nat) (name : ByteArray) (v p f : Int) (w : World) (R : RdL w a ls.length c ls) (hn : ls.length + 1 ≤ 65536) (hz : zeroB v p f = true) :
    Calls Try.prog 32 #[.agg #[.int .i64 peer, .int .i64 boot, .int .i64 life, .slice a ls.length c, .bool pend, .int .i64 miss], .string name, rg v p f] w fun e w' => ∃ a' c', e = .returned (((HS.mk peer boot life ls pend miss).wr name v p f).on a' c').val ∧ Own w.heap.size w' ((HS.mk peer boot life ls pend miss).wr name v p f) a' c' ∧ Below w.heap.size w w' := by
  have C0 := (((Bx.nil w).add rfl (.cells #[.int .i64 peer, .int .i64 boot, .int .i64 life, .slice a ls.length c, .bool pend, .int .i64 miss] 24)).add (by simp) (.cells #[.int .i64 v, .int .i64 p, .int .i64 f] 42)).add (by simp) (.cells z6 24)
  have hz0 : w.heap.size + 3 = (((w.alloc (.cells #[.int .i64 peer, .int .i64 boot, .int .i64 life, .slice a ls.length c, .bool pend, .int .i64 miss] 24)).alloc (.cells #[.int .i64 v, .int .i64 p, .int .i64 f] 42)).alloc (.cells z6 24)).heap.size := by simp
  have HZ : Hid (w.heap.size + 3 = (((w.alloc (.cells #[.int .i64 peer, .int .i64 boot, .int .i64 life, .slice a ls.length c, .bool pend, .int .i64 miss] 24)).alloc (.cells #[.int .i64 v, .int .i64 p, .int .i64 f] 42)).alloc (.cells z6 24)).heap.size) := hz0
  clear hz0
  have T0 := ((Tri.new (w.alloc (.cells #[.int .i64 peer, .int .i64 boot, .int .i64 life, .slice a ls.length c, .bool pend, .int .i64 miss] 24)) (.int .i64 v) (.int .i64 p) (.int .i64 f) 42).at (k' := w.heap.size + 1) (by simp)).alloc (.cells z6 24)
  have KO : Calls Try.prog 50 #[.agg #[.int .i64 peer, .int .i64 boot, .int .i64 life, .slice a ls.length c, .bool pend, .int .i64 miss]] _ fun e w' => ∃ a' c', e = .returned (.agg #[.int .i64 peer, .int .i64 boot, .int .i64 life, .slice a' ls.length c', .bool pend, .int .i64 miss]) ∧ Own _ w' ⟨peer, boot, life, ls, pend, miss⟩ a' c' ∧ Below _ _ w' := own_any ⟨peer, boot, life, ls, pend, miss⟩ a c _ (R.below C0.below)
  have KN := fun a' c' W => named_any a' ls.length c' W
  have KP := fun fb a' c' W h1 h2 => placeN_any fb a' ls.length c' ls name W h1 h2
  have hp : posN name ls ≤ ls.length := pos_le _ _
  have HF : Hid (ls.length * 40 ≤ 140737488355328) := R.max
  have HW : Hid (wrL name v p f ls = if hitN name ls = true then ls.eraseIdx (posN name ls) else ls) := by show _ = _; unfold wrL; rw [if_pos hz]
  have hlt : hitN name ls = true → posN name ls < ls.length := hit_lt
  generalize posN name ls = k at *
  generalize hitN name ls = hb at *
  go_enter Try.func32, Try.ntmps32
  go_wp2_with (first
    | (go_at_call 50; refine KO.mono ?_; rintro e w1 ⟨a1, c1, rfl, O1, b1⟩; clear KO; have C1 := C0.later b1; have ⟨p0, p1, p2, p3, p4, p5⟩ := cel6 (C1.at0 _ rfl); have ⟨f0, f1, f2, f3, f4, f5⟩ := fre6 (C1.at0 _ rfl); have C2 : Bx w _ (put6 w1 w.heap.size (.int .i64 peer) (.int .i64 boot) (.int .i64 life) (.slice a1 ls.length c1) (.bool pend) (.int .i64 miss)) := C1.put 0 rfl _ _ _ _ _ _; have L2 : LstL (put6 w1 w.heap.size (.int .i64 peer) (.int .i64 boot) (.int .i64 life) (.slice a1 ls.length c1) (.bool pend) (.int .i64 miss)) a1 ls.length c1 ls := O1.lst.of_block (fun g off e => put6_far (by have := O1.new g off e; have := HZ.out; omega) _ _ _ _ _ _); have HO : Hid (∀ g off, a1 = some ⟨g, off, none⟩ → w.heap.size + 3 ≤ g) := (fun g off e => (by have := O1.new g off e; have := HZ.out; omega)); have T2 := (T0.below b1).of_block (put6_far (W := w1) (g := w.heap.size) (k := w.heap.size + 1) (by omega) (.int .i64 peer) (.int .i64 boot) (.int .i64 life) (.slice a1 ls.length c1) (.bool pend) (.int .i64 miss)) (by rw [put6_size]; exact Nat.le_refl _); clear T0 C0 C1 O1 b1)
    | (go_at_call 54; refine (KN _ _ _).mono ?_; rintro e w3 ⟨rfl, hw3⟩; clear KN; have b3 : Below (put6 w1 w.heap.size (.int .i64 peer) (.int .i64 boot) (.int .i64 life) (.slice a1 ls.length c1) (.bool pend) (.int .i64 miss)).heap.size (put6 w1 w.heap.size (.int .i64 peer) (.int .i64 boot) (.int .i64 life) (.slice a1 ls.length c1) (.bool pend) (.int .i64 miss)) w3 := (by rw [hw3]; exact (Below.refl _ _).alloc (Nat.le_refl _) _); have One3 : One w3 w1.heap.size (.slice a1 ls.length c1) := (by rw [hw3]; exact (One.new _ _ _).at (put6_size _ _ _ _ _ _ _ _)); have C3 := C2.later b3; have L3 := L2.below b3; have T3 := T2.below b3; clear hw3 C2 L2 T2 b3 p0 p1 p2 p3 p4 p5 f0 f1 f2 f3 f4 f5)
    | (go_at_call 53; refine (KP _ _ _ _ (L3.rd HF.out) One3).mono ?_; rintro e w4 ⟨rfl, b4⟩; clear KP One3; have C4 := C3.later b4; have L4 := L3.below b4; have T4 := T3.below b4; obtain ⟨t0, t1, t2, u0, u1, u2, tz⟩ := id T4; have ⟨p0, p1, p2, p3, p4, p5⟩ := cel6 (C4.at0 _ rfl); have ⟨q0, q1, q2, q3, q4, q5⟩ := cel6 (C4.at_ 2 _ rfl); have ⟨f0, f1, f2, f3, f4, f5⟩ := fre6 (C4.at0 _ rfl); have ⟨g0, g1, g2, g3, g4, g5⟩ := fre6 (C4.at_ 2 _ rfl); clear C3 L3 T3 b4)
    | ((with_reducible show wpList _ _ _ (Oper.mk _ (Op.binOp .eql 42 _ _ 42) _ _ _ _ :: _) _ _); refine wpList_yield rfl _ (exec_eql42 rfl v p f 0 0 0 rfl rfl _) ?_; rw [zero_same, hz]; clear hz)
    | (go_at_call 55; refine (delete_anyL a1 ls.length c1 ls k hb _ L4 hp hlt).mono ?_; rintro e w5 ⟨n5, rfl, L5, o5⟩; have b5 : Below (w.heap.size + 3) w4 w5 := o5.below C4.size (fun q ⟨off, e⟩ => HO.out q off e); have C5 := C4.later' b5; have ⟨P0, P1, P2, P3, P4, P5⟩ := cel6 (C5.at0 _ rfl); have ⟨Q0, Q1, Q2, Q3, Q4, Q5⟩ := cel6 (C5.at_ 2 _ rfl); have ⟨F0, F1, F2, F3, F4, F5⟩ := fre6 (C5.at0 _ rfl); have ⟨G0, G1, G2, G3, G4, G5⟩ := fre6 (C5.at_ 2 _ rfl); clear p0 p1 p2 p3 p4 p5 f0 f1 f2 f3 f4 f5 q0 q1 q2 q3 q4 q5 g0 g1 g2 g3 g4 g5))
  have C6 : Bx w _ (put6 (w5.setCell ⟨w.heap.size, 3, none⟩ (.slice a1 n5 c1)) (w.heap.size + 1 + 1) (.int .i64 peer) (.int .i64 boot) (.int .i64 life) (.slice a1 n5 c1) (.bool pend) (.int .i64 miss)) := (C5.set 0 3 _ _ rfl _).put 2 rfl _ _ _ _ _ _
  refine bodyPost_ret (results_row1 rfl _ _ (w.heap.size + 1 + 1) _ rfl (load_24 (d := ⟨peer, boot, life, a1, n5, c1, pend, miss⟩) (C6.at_ 2 _ rfl))) rfl ⟨a1, c1, ?_, ⟨?_, ?_⟩, C6.below⟩
  · show Ending.returned (HR.val ⟨peer, boot, life, a1, n5, c1, pend, miss⟩) = Ending.returned (HR.val ⟨peer, boot, life, a1, (wrL name v p f ls).length, c1, pend, miss⟩)
    rw [HW.out, L5.size]
  · show LstL _ a1 (wrL name v p f ls).length c1 (wrL name v p f ls)
    rw [HW.out, L5.size]
    exact L5.of_block (fun g off e => (put6_far (by have := HO.out g off e; omega) _ _ _ _ _ _).trans (set_far rfl (by have := HO.out g off e; omega) _ _))
  · intro g off e
    have := HO.out g off e
    omega

set_option maxRecDepth 100000 in
set_option maxHeartbeats 8000000 in
theorem write_hit (peer boot life : Int) (ls : List LS) (pend : Bool) (miss : Int) (a : Option Addr) (c : Nat) (name : ByteArray) (v p f : Int) (w : World) (R : RdL w a ls.length c ls) (hn : ls.length + 1 ≤ 65536) (hz : zeroB v p f = false) (hh : hitN name ls = true) :
    Calls Try.prog 32 #[.agg #[.int .i64 peer, .int .i64 boot, .int .i64 life, .slice a ls.length c, .bool pend, .int .i64 miss], .string name, rg v p f] w fun e w' => ∃ a' c', e = .returned (((HS.mk peer boot life ls pend miss).wr name v p f).on a' c').val ∧ Own w.heap.size w' ((HS.mk peer boot life ls pend miss).wr name v p f) a' c' ∧ Below w.heap.size w w' := by
  have C0 := (((Bx.nil w).add rfl (.cells #[.int .i64 peer, .int .i64 boot, .int .i64 life, .slice a ls.length c, .bool pend, .int .i64 miss] 24)).add (by simp) (.cells #[.int .i64 v, .int .i64 p, .int .i64 f] 42)).add (by simp) (.cells z6 24)
  have hz0 : w.heap.size + 3 = (((w.alloc (.cells #[.int .i64 peer, .int .i64 boot, .int .i64 life, .slice a ls.length c, .bool pend, .int .i64 miss] 24)).alloc (.cells #[.int .i64 v, .int .i64 p, .int .i64 f] 42)).alloc (.cells z6 24)).heap.size := by simp
  have HZ : Hid (w.heap.size + 3 = (((w.alloc (.cells #[.int .i64 peer, .int .i64 boot, .int .i64 life, .slice a ls.length c, .bool pend, .int .i64 miss] 24)).alloc (.cells #[.int .i64 v, .int .i64 p, .int .i64 f] 42)).alloc (.cells z6 24)).heap.size) := hz0
  clear hz0
  have T0 := ((Tri.new (w.alloc (.cells #[.int .i64 peer, .int .i64 boot, .int .i64 life, .slice a ls.length c, .bool pend, .int .i64 miss] 24)) (.int .i64 v) (.int .i64 p) (.int .i64 f) 42).at (k' := w.heap.size + 1) (by simp)).alloc (.cells z6 24)
  have KO : Calls Try.prog 50 #[.agg #[.int .i64 peer, .int .i64 boot, .int .i64 life, .slice a ls.length c, .bool pend, .int .i64 miss]] _ fun e w' => ∃ a' c', e = .returned (.agg #[.int .i64 peer, .int .i64 boot, .int .i64 life, .slice a' ls.length c', .bool pend, .int .i64 miss]) ∧ Own _ w' ⟨peer, boot, life, ls, pend, miss⟩ a' c' ∧ Below _ _ w' := own_any ⟨peer, boot, life, ls, pend, miss⟩ a c _ (R.below C0.below)
  have KN := fun a' c' W => named_any a' ls.length c' W
  have KP := fun fb a' c' W h1 h2 => placeN_any fb a' ls.length c' ls name W h1 h2
  have hp : posN name ls ≤ ls.length := pos_le _ _
  have HF : Hid (ls.length * 40 ≤ 140737488355328) := R.max
  have HW : Hid (wrL name v p f ls = if hitN name ls = true then ls.set (posN name ls) ⟨name, v, p, f⟩ else ls.take (posN name ls) ++ ⟨name, v, p, f⟩ :: ls.drop (posN name ls)) := by show _ = _; unfold wrL; rw [if_neg (by rw [hz]; decide)]; rw [hh, if_pos rfl, if_pos rfl]
  have HLT : Hid (posN name ls < ls.length) := hit_lt hh
  rw [hh] at HW KP
  have h2 : ∀ k : Nat, (k : Int) < toN k true := fun k => by rw [toN_true]; omega
  clear hh
  generalize posN name ls = k at *
  have h3 := h2 k
  go_enter Try.func32, Try.ntmps32
  go_wp2_with (first
    | (go_at_call 50; refine KO.mono ?_; rintro e w1 ⟨a1, c1, rfl, O1, b1⟩; clear KO; have C1 := C0.later b1; have ⟨p0, p1, p2, p3, p4, p5⟩ := cel6 (C1.at0 _ rfl); have ⟨f0, f1, f2, f3, f4, f5⟩ := fre6 (C1.at0 _ rfl); have C2 : Bx w _ (put6 w1 w.heap.size (.int .i64 peer) (.int .i64 boot) (.int .i64 life) (.slice a1 ls.length c1) (.bool pend) (.int .i64 miss)) := C1.put 0 rfl _ _ _ _ _ _; have L2 : LstL (put6 w1 w.heap.size (.int .i64 peer) (.int .i64 boot) (.int .i64 life) (.slice a1 ls.length c1) (.bool pend) (.int .i64 miss)) a1 ls.length c1 ls := O1.lst.of_block (fun g off e => put6_far (by have := O1.new g off e; have := HZ.out; omega) _ _ _ _ _ _); have HO : Hid (∀ g off, a1 = some ⟨g, off, none⟩ → w.heap.size + 3 ≤ g) := (fun g off e => (by have := O1.new g off e; have := HZ.out; omega)); have T2 := (T0.below b1).of_block (put6_far (W := w1) (g := w.heap.size) (k := w.heap.size + 1) (by omega) (.int .i64 peer) (.int .i64 boot) (.int .i64 life) (.slice a1 ls.length c1) (.bool pend) (.int .i64 miss)) (by rw [put6_size]; exact Nat.le_refl _); clear T0 C0 C1 O1 b1)
    | (go_at_call 54; refine (KN _ _ _).mono ?_; rintro e w3 ⟨rfl, hw3⟩; clear KN; have b3 : Below (put6 w1 w.heap.size (.int .i64 peer) (.int .i64 boot) (.int .i64 life) (.slice a1 ls.length c1) (.bool pend) (.int .i64 miss)).heap.size (put6 w1 w.heap.size (.int .i64 peer) (.int .i64 boot) (.int .i64 life) (.slice a1 ls.length c1) (.bool pend) (.int .i64 miss)) w3 := (by rw [hw3]; exact (Below.refl _ _).alloc (Nat.le_refl _) _); have One3 : One w3 w1.heap.size (.slice a1 ls.length c1) := (by rw [hw3]; exact (One.new _ _ _).at (put6_size _ _ _ _ _ _ _ _)); have C3 := C2.later b3; have L3 := L2.below b3; have T3 := T2.below b3; clear hw3 C2 L2 T2 b3 p0 p1 p2 p3 p4 p5 f0 f1 f2 f3 f4 f5)
    | (go_at_call 53; refine (KP _ _ _ _ (L3.rd HF.out) One3).mono ?_; rintro e w4 ⟨rfl, b4⟩; clear KP One3; have C4 := C3.later b4; have L4 := L3.below b4; have T4 := T3.below b4; obtain ⟨t0, t1, t2, u0, u1, u2, tz⟩ := id T4; have ⟨p0, p1, p2, p3, p4, p5⟩ := cel6 (C4.at0 _ rfl); have ⟨q0, q1, q2, q3, q4, q5⟩ := cel6 (C4.at_ 2 _ rfl); have ⟨f0, f1, f2, f3, f4, f5⟩ := fre6 (C4.at0 _ rfl); have ⟨g0, g1, g2, g3, g4, g5⟩ := fre6 (C4.at_ 2 _ rfl); clear C3 L3 T3 b4)
    | ((with_reducible show wpList _ _ _ (Oper.mk _ (Op.binOp .eql 42 _ _ 42) _ _ _ _ :: _) _ _); refine wpList_yield rfl _ (exec_eql42 rfl v p f 0 0 0 rfl rfl _) ?_; rw [zero_same, hz]; clear hz)
    | (go_at_call 56; go_must (refine (replace_anyL a1 ls.length c1 w4.heap.size ls ⟨name, v, p, f⟩ k true _ (L4.below ((Below.refl _ _).alloc (Nat.le_refl _) _)) (heap_new rfl) (fun off e => absurd (L4.lt' e) (Nat.lt_irrefl _)) hn hp (fun _ => HLT.out)).mono ?_; rintro e w5 ⟨a5, c5, n5, rfl, L5, o5, O5⟩; have hs4 := C4.size; have b5 : Below (w.heap.size + 3) (w4.alloc (.cells #[.string name, .int .i64 v, .int .i64 p, .int .i64 f] 44)) w5 := O5.below (by rw [World.size_alloc]; exact Nat.le_succ_of_le hs4) (fun q ⟨off, e⟩ => HO.out q off e); have HO5 : Hid (∀ g off, a5 = some ⟨g, off, none⟩ → w.heap.size + 3 ≤ g) := (fun g off e => (o5 g off e).elim (fun ⟨o, e⟩ => HO.out g o e) (fun h => (by rw [World.size_alloc] at h; exact Nat.le_trans hs4 (Nat.le_of_succ_le h)))); have C5 := (C4.later ((Below.refl _ _).alloc (Nat.le_refl _) (.cells #[.string name, .int .i64 v, .int .i64 p, .int .i64 f] 44))).later' b5; clear hs4; have ⟨P0, P1, P2, P3, P4, P5⟩ := cel6 (C5.at0 _ rfl); have ⟨Q0, Q1, Q2, Q3, Q4, Q5⟩ := cel6 (C5.at_ 2 _ rfl); have ⟨F0, F1, F2, F3, F4, F5⟩ := fre6 (C5.at0 _ rfl); have ⟨G0, G1, G2, G3, G4, G5⟩ := fre6 (C5.at_ 2 _ rfl); clear p0 p1 p2 p3 p4 p5 f0 f1 f2 f3 f4 f5 q0 q1 q2 q3 q4 q5 g0 g1 g2 g3 g4 g5)))
  have C6 : Bx w _ (put6 (w5.setCell ⟨w.heap.size, 3, none⟩ (.slice a5 n5 c5)) (w.heap.size + 1 + 1) (.int .i64 peer) (.int .i64 boot) (.int .i64 life) (.slice a5 n5 c5) (.bool pend) (.int .i64 miss)) := (C5.set 0 3 _ _ rfl _).put 2 rfl _ _ _ _ _ _
  refine bodyPost_ret (results_row1 rfl _ _ (w.heap.size + 1 + 1) _ rfl (load_24 (d := ⟨peer, boot, life, a5, n5, c5, pend, miss⟩) (C6.at_ 2 _ rfl))) rfl ⟨a5, c5, ?_, ⟨?_, ?_⟩, C6.below⟩
  · show Ending.returned (HR.val ⟨peer, boot, life, a5, n5, c5, pend, miss⟩) = Ending.returned (HR.val ⟨peer, boot, life, a5, (wrL name v p f ls).length, c5, pend, miss⟩)
    rw [HW.out, L5.size]
  · show LstL _ a5 (wrL name v p f ls).length c5 (wrL name v p f ls)
    rw [HW.out, L5.size]
    exact L5.of_block (fun g off e => (put6_far (by have := HO5.out g off e; omega) _ _ _ _ _ _).trans (set_far rfl (by have := HO5.out g off e; omega) _ _))
  · intro g off e
    have := HO5.out g off e
    omega

set_option maxRecDepth 100000 in
set_option maxHeartbeats 8000000 in
theorem write_new (peer boot life : Int) (ls : List LS) (pend : Bool) (miss : Int) (a : Option Addr) (c : Nat) (name : ByteArray) (v p f : Int) (w : World) (R : RdL w a ls.length c ls) (hn : ls.length + 1 ≤ 65536) (hz : zeroB v p f = false) (hh : hitN name ls = false) (h8 : ls.length < 8) :
    Calls Try.prog 32 #[.agg #[.int .i64 peer, .int .i64 boot, .int .i64 life, .slice a ls.length c, .bool pend, .int .i64 miss], .string name, rg v p f] w fun e w' => ∃ a' c', e = .returned (((HS.mk peer boot life ls pend miss).wr name v p f).on a' c').val ∧ Own w.heap.size w' ((HS.mk peer boot life ls pend miss).wr name v p f) a' c' ∧ Below w.heap.size w w' := by
  have C0 := (((Bx.nil w).add rfl (.cells #[.int .i64 peer, .int .i64 boot, .int .i64 life, .slice a ls.length c, .bool pend, .int .i64 miss] 24)).add (by simp) (.cells #[.int .i64 v, .int .i64 p, .int .i64 f] 42)).add (by simp) (.cells z6 24)
  have hz0 : w.heap.size + 3 = (((w.alloc (.cells #[.int .i64 peer, .int .i64 boot, .int .i64 life, .slice a ls.length c, .bool pend, .int .i64 miss] 24)).alloc (.cells #[.int .i64 v, .int .i64 p, .int .i64 f] 42)).alloc (.cells z6 24)).heap.size := by simp
  have HZ : Hid (w.heap.size + 3 = (((w.alloc (.cells #[.int .i64 peer, .int .i64 boot, .int .i64 life, .slice a ls.length c, .bool pend, .int .i64 miss] 24)).alloc (.cells #[.int .i64 v, .int .i64 p, .int .i64 f] 42)).alloc (.cells z6 24)).heap.size) := hz0
  clear hz0
  have T0 := ((Tri.new (w.alloc (.cells #[.int .i64 peer, .int .i64 boot, .int .i64 life, .slice a ls.length c, .bool pend, .int .i64 miss] 24)) (.int .i64 v) (.int .i64 p) (.int .i64 f) 42).at (k' := w.heap.size + 1) (by simp)).alloc (.cells z6 24)
  have KO : Calls Try.prog 50 #[.agg #[.int .i64 peer, .int .i64 boot, .int .i64 life, .slice a ls.length c, .bool pend, .int .i64 miss]] _ fun e w' => ∃ a' c', e = .returned (.agg #[.int .i64 peer, .int .i64 boot, .int .i64 life, .slice a' ls.length c', .bool pend, .int .i64 miss]) ∧ Own _ w' ⟨peer, boot, life, ls, pend, miss⟩ a' c' ∧ Below _ _ w' := own_any ⟨peer, boot, life, ls, pend, miss⟩ a c _ (R.below C0.below)
  have KN := fun a' c' W => named_any a' ls.length c' W
  have KP := fun fb a' c' W h1 h2 => placeN_any fb a' ls.length c' ls name W h1 h2
  have hp : posN name ls ≤ ls.length := pos_le _ _
  have HF : Hid (ls.length * 40 ≤ 140737488355328) := R.max
  have HW : Hid (wrL name v p f ls = if hitN name ls = true then ls.set (posN name ls) ⟨name, v, p, f⟩ else ls.take (posN name ls) ++ ⟨name, v, p, f⟩ :: ls.drop (posN name ls)) := by show _ = _; unfold wrL; rw [if_neg (by rw [hz]; decide)]; rw [hh, if_neg (by decide), if_pos h8, if_neg (by decide)]
  rw [hh] at HW KP
  have h2 : ∀ k : Nat, ¬ (k : Int) < toN k false := fun k => by rw [toN_false]; omega
  have h8I : (ls.length : Int) < 8 := by omega
  clear hh h8
  generalize posN name ls = k at *
  have h3 := h2 k
  go_enter Try.func32, Try.ntmps32
  go_wp2_with (first
    | (go_at_call 50; refine KO.mono ?_; rintro e w1 ⟨a1, c1, rfl, O1, b1⟩; clear KO; have C1 := C0.later b1; have ⟨p0, p1, p2, p3, p4, p5⟩ := cel6 (C1.at0 _ rfl); have ⟨f0, f1, f2, f3, f4, f5⟩ := fre6 (C1.at0 _ rfl); have C2 : Bx w _ (put6 w1 w.heap.size (.int .i64 peer) (.int .i64 boot) (.int .i64 life) (.slice a1 ls.length c1) (.bool pend) (.int .i64 miss)) := C1.put 0 rfl _ _ _ _ _ _; have L2 : LstL (put6 w1 w.heap.size (.int .i64 peer) (.int .i64 boot) (.int .i64 life) (.slice a1 ls.length c1) (.bool pend) (.int .i64 miss)) a1 ls.length c1 ls := O1.lst.of_block (fun g off e => put6_far (by have := O1.new g off e; have := HZ.out; omega) _ _ _ _ _ _); have HO : Hid (∀ g off, a1 = some ⟨g, off, none⟩ → w.heap.size + 3 ≤ g) := (fun g off e => (by have := O1.new g off e; have := HZ.out; omega)); have T2 := (T0.below b1).of_block (put6_far (W := w1) (g := w.heap.size) (k := w.heap.size + 1) (by omega) (.int .i64 peer) (.int .i64 boot) (.int .i64 life) (.slice a1 ls.length c1) (.bool pend) (.int .i64 miss)) (by rw [put6_size]; exact Nat.le_refl _); clear T0 C0 C1 O1 b1)
    | (go_at_call 54; refine (KN _ _ _).mono ?_; rintro e w3 ⟨rfl, hw3⟩; clear KN; have b3 : Below (put6 w1 w.heap.size (.int .i64 peer) (.int .i64 boot) (.int .i64 life) (.slice a1 ls.length c1) (.bool pend) (.int .i64 miss)).heap.size (put6 w1 w.heap.size (.int .i64 peer) (.int .i64 boot) (.int .i64 life) (.slice a1 ls.length c1) (.bool pend) (.int .i64 miss)) w3 := (by rw [hw3]; exact (Below.refl _ _).alloc (Nat.le_refl _) _); have One3 : One w3 w1.heap.size (.slice a1 ls.length c1) := (by rw [hw3]; exact (One.new _ _ _).at (put6_size _ _ _ _ _ _ _ _)); have C3 := C2.later b3; have L3 := L2.below b3; have T3 := T2.below b3; clear hw3 C2 L2 T2 b3 p0 p1 p2 p3 p4 p5 f0 f1 f2 f3 f4 f5)
    | (go_at_call 53; refine (KP _ _ _ _ (L3.rd HF.out) One3).mono ?_; rintro e w4 ⟨rfl, b4⟩; clear KP One3; have C4 := C3.later b4; have L4 := L3.below b4; have T4 := T3.below b4; obtain ⟨t0, t1, t2, u0, u1, u2, tz⟩ := id T4; have ⟨p0, p1, p2, p3, p4, p5⟩ := cel6 (C4.at0 _ rfl); have ⟨q0, q1, q2, q3, q4, q5⟩ := cel6 (C4.at_ 2 _ rfl); have ⟨f0, f1, f2, f3, f4, f5⟩ := fre6 (C4.at0 _ rfl); have ⟨g0, g1, g2, g3, g4, g5⟩ := fre6 (C4.at_ 2 _ rfl); clear C3 L3 T3 b4)
    | ((with_reducible show wpList _ _ _ (Oper.mk _ (Op.binOp .eql 42 _ _ 42) _ _ _ _ :: _) _ _); refine wpList_yield rfl _ (exec_eql42 rfl v p f 0 0 0 rfl rfl _) ?_; rw [zero_same, hz]; clear hz)
    | (go_at_call 56; go_must (refine (replace_anyL a1 ls.length c1 w4.heap.size ls ⟨name, v, p, f⟩ k false _ (L4.below ((Below.refl _ _).alloc (Nat.le_refl _) _)) (heap_new rfl) (fun off e => absurd (L4.lt' e) (Nat.lt_irrefl _)) hn hp (fun h => by cases h)).mono ?_; rintro e w5 ⟨a5, c5, n5, rfl, L5, o5, O5⟩; have hs4 := C4.size; have b5 : Below (w.heap.size + 3) (w4.alloc (.cells #[.string name, .int .i64 v, .int .i64 p, .int .i64 f] 44)) w5 := O5.below (by rw [World.size_alloc]; exact Nat.le_succ_of_le hs4) (fun q ⟨off, e⟩ => HO.out q off e); have HO5 : Hid (∀ g off, a5 = some ⟨g, off, none⟩ → w.heap.size + 3 ≤ g) := (fun g off e => (o5 g off e).elim (fun ⟨o, e⟩ => HO.out g o e) (fun h => (by rw [World.size_alloc] at h; exact Nat.le_trans hs4 (Nat.le_of_succ_le h)))); have C5 := (C4.later ((Below.refl _ _).alloc (Nat.le_refl _) (.cells #[.string name, .int .i64 v, .int .i64 p, .int .i64 f] 44))).later' b5; clear hs4; have ⟨P0, P1, P2, P3, P4, P5⟩ := cel6 (C5.at0 _ rfl); have ⟨Q0, Q1, Q2, Q3, Q4, Q5⟩ := cel6 (C5.at_ 2 _ rfl); have ⟨F0, F1, F2, F3, F4, F5⟩ := fre6 (C5.at0 _ rfl); have ⟨G0, G1, G2, G3, G4, G5⟩ := fre6 (C5.at_ 2 _ rfl); clear p0 p1 p2 p3 p4 p5 f0 f1 f2 f3 f4 f5 q0 q1 q2 q3 q4 q5 g0 g1 g2 g3 g4 g5)))
  have C6 : Bx w _ (put6 (w5.setCell ⟨w.heap.size, 3, none⟩ (.slice a5 n5 c5)) (w.heap.size + 1 + 1) (.int .i64 peer) (.int .i64 boot) (.int .i64 life) (.slice a5 n5 c5) (.bool pend) (.int .i64 miss)) := (C5.set 0 3 _ _ rfl _).put 2 rfl _ _ _ _ _ _
  refine bodyPost_ret (results_row1 rfl _ _ (w.heap.size + 1 + 1) _ rfl (load_24 (d := ⟨peer, boot, life, a5, n5, c5, pend, miss⟩) (C6.at_ 2 _ rfl))) rfl ⟨a5, c5, ?_, ⟨?_, ?_⟩, C6.below⟩
  · show Ending.returned (HR.val ⟨peer, boot, life, a5, n5, c5, pend, miss⟩) = Ending.returned (HR.val ⟨peer, boot, life, a5, (wrL name v p f ls).length, c5, pend, miss⟩)
    rw [HW.out, L5.size]
  · show LstL _ a5 (wrL name v p f ls).length c5 (wrL name v p f ls)
    rw [HW.out, L5.size]
    exact L5.of_block (fun g off e => (put6_far (by have := HO5.out g off e; omega) _ _ _ _ _ _).trans (set_far rfl (by have := HO5.out g off e; omega) _ _))
  · intro g off e
    have := HO5.out g off e
    omega

set_option maxRecDepth 100000 in
set_option maxHeartbeats 8000000 in
theorem write_full (peer boot life : Int) (ls : List LS) (pend : Bool) (miss : Int) (a : Option Addr) (c : Nat) (name : ByteArray) (v p f : Int) (w : World) (R : RdL w a ls.length c ls) (hn : ls.length + 1 ≤ 65536) (hz : zeroB v p f = false) (hh : hitN name ls = false) (h8 : ¬ ls.length < 8) :
    Calls Try.prog 32 #[.agg #[.int .i64 peer, .int .i64 boot, .int .i64 life, .slice a ls.length c, .bool pend, .int .i64 miss], .string name, rg v p f] w fun e w' => ∃ a' c', e = .returned (((HS.mk peer boot life ls pend miss).wr name v p f).on a' c').val ∧ Own w.heap.size w' ((HS.mk peer boot life ls pend miss).wr name v p f) a' c' ∧ Below w.heap.size w w' := by
  have C0 := (((Bx.nil w).add rfl (.cells #[.int .i64 peer, .int .i64 boot, .int .i64 life, .slice a ls.length c, .bool pend, .int .i64 miss] 24)).add (by simp) (.cells #[.int .i64 v, .int .i64 p, .int .i64 f] 42)).add (by simp) (.cells z6 24)
  have hz0 : w.heap.size + 3 = (((w.alloc (.cells #[.int .i64 peer, .int .i64 boot, .int .i64 life, .slice a ls.length c, .bool pend, .int .i64 miss] 24)).alloc (.cells #[.int .i64 v, .int .i64 p, .int .i64 f] 42)).alloc (.cells z6 24)).heap.size := by simp
  have HZ : Hid (w.heap.size + 3 = (((w.alloc (.cells #[.int .i64 peer, .int .i64 boot, .int .i64 life, .slice a ls.length c, .bool pend, .int .i64 miss] 24)).alloc (.cells #[.int .i64 v, .int .i64 p, .int .i64 f] 42)).alloc (.cells z6 24)).heap.size) := hz0
  clear hz0
  have T0 := ((Tri.new (w.alloc (.cells #[.int .i64 peer, .int .i64 boot, .int .i64 life, .slice a ls.length c, .bool pend, .int .i64 miss] 24)) (.int .i64 v) (.int .i64 p) (.int .i64 f) 42).at (k' := w.heap.size + 1) (by simp)).alloc (.cells z6 24)
  have KO : Calls Try.prog 50 #[.agg #[.int .i64 peer, .int .i64 boot, .int .i64 life, .slice a ls.length c, .bool pend, .int .i64 miss]] _ fun e w' => ∃ a' c', e = .returned (.agg #[.int .i64 peer, .int .i64 boot, .int .i64 life, .slice a' ls.length c', .bool pend, .int .i64 miss]) ∧ Own _ w' ⟨peer, boot, life, ls, pend, miss⟩ a' c' ∧ Below _ _ w' := own_any ⟨peer, boot, life, ls, pend, miss⟩ a c _ (R.below C0.below)
  have KN := fun a' c' W => named_any a' ls.length c' W
  have KP := fun fb a' c' W h1 h2 => placeN_any fb a' ls.length c' ls name W h1 h2
  have hp : posN name ls ≤ ls.length := pos_le _ _
  have HF : Hid (ls.length * 40 ≤ 140737488355328) := R.max
  have HW : Hid (wrL name v p f ls = ls) := by show _ = _; unfold wrL; rw [if_neg (by rw [hz]; decide), if_neg (by rw [hh]; decide), if_neg h8]
  rw [hh] at KP
  have h2 : ∀ k : Nat, ¬ (k : Int) < toN k false := fun k => by rw [toN_false]; omega
  have h8I : ¬ (ls.length : Int) < 8 := by omega
  clear hh h8
  generalize posN name ls = k at *
  have h3 := h2 k
  go_enter Try.func32, Try.ntmps32
  go_wp2_with (first
    | (go_at_call 50; refine KO.mono ?_; rintro e w1 ⟨a1, c1, rfl, O1, b1⟩; clear KO; have C1 := C0.later b1; have ⟨p0, p1, p2, p3, p4, p5⟩ := cel6 (C1.at0 _ rfl); have ⟨f0, f1, f2, f3, f4, f5⟩ := fre6 (C1.at0 _ rfl); have C2 : Bx w _ (put6 w1 w.heap.size (.int .i64 peer) (.int .i64 boot) (.int .i64 life) (.slice a1 ls.length c1) (.bool pend) (.int .i64 miss)) := C1.put 0 rfl _ _ _ _ _ _; have L2 : LstL (put6 w1 w.heap.size (.int .i64 peer) (.int .i64 boot) (.int .i64 life) (.slice a1 ls.length c1) (.bool pend) (.int .i64 miss)) a1 ls.length c1 ls := O1.lst.of_block (fun g off e => put6_far (by have := O1.new g off e; have := HZ.out; omega) _ _ _ _ _ _); have HO : Hid (∀ g off, a1 = some ⟨g, off, none⟩ → w.heap.size + 3 ≤ g) := (fun g off e => (by have := O1.new g off e; have := HZ.out; omega)); have T2 := (T0.below b1).of_block (put6_far (W := w1) (g := w.heap.size) (k := w.heap.size + 1) (by omega) (.int .i64 peer) (.int .i64 boot) (.int .i64 life) (.slice a1 ls.length c1) (.bool pend) (.int .i64 miss)) (by rw [put6_size]; exact Nat.le_refl _); clear T0 C0 C1 O1 b1)
    | (go_at_call 54; refine (KN _ _ _).mono ?_; rintro e w3 ⟨rfl, hw3⟩; clear KN; have b3 : Below (put6 w1 w.heap.size (.int .i64 peer) (.int .i64 boot) (.int .i64 life) (.slice a1 ls.length c1) (.bool pend) (.int .i64 miss)).heap.size (put6 w1 w.heap.size (.int .i64 peer) (.int .i64 boot) (.int .i64 life) (.slice a1 ls.length c1) (.bool pend) (.int .i64 miss)) w3 := (by rw [hw3]; exact (Below.refl _ _).alloc (Nat.le_refl _) _); have One3 : One w3 w1.heap.size (.slice a1 ls.length c1) := (by rw [hw3]; exact (One.new _ _ _).at (put6_size _ _ _ _ _ _ _ _)); have C3 := C2.later b3; have L3 := L2.below b3; have T3 := T2.below b3; clear hw3 C2 L2 T2 b3 p0 p1 p2 p3 p4 p5 f0 f1 f2 f3 f4 f5)
    | (go_at_call 53; refine (KP _ _ _ _ (L3.rd HF.out) One3).mono ?_; rintro e w4 ⟨rfl, b4⟩; clear KP One3; have C4 := C3.later b4; have L4 := L3.below b4; have T4 := T3.below b4; obtain ⟨t0, t1, t2, u0, u1, u2, tz⟩ := id T4; have ⟨p0, p1, p2, p3, p4, p5⟩ := cel6 (C4.at0 _ rfl); have ⟨q0, q1, q2, q3, q4, q5⟩ := cel6 (C4.at_ 2 _ rfl); have ⟨f0, f1, f2, f3, f4, f5⟩ := fre6 (C4.at0 _ rfl); have ⟨g0, g1, g2, g3, g4, g5⟩ := fre6 (C4.at_ 2 _ rfl); clear C3 L3 T3 b4)
    | ((with_reducible show wpList _ _ _ (Oper.mk _ (Op.binOp .eql 42 _ _ 42) _ _ _ _ :: _) _ _); refine wpList_yield rfl _ (exec_eql42 rfl v p f 0 0 0 rfl rfl _) ?_; rw [zero_same, hz]; clear hz)
    | fail)
  have C6 : Bx w _ (put6 w4 (w.heap.size + 1 + 1) (.int .i64 peer) (.int .i64 boot) (.int .i64 life) (.slice a1 ls.length c1) (.bool pend) (.int .i64 miss)) := C4.put 2 rfl _ _ _ _ _ _
  refine bodyPost_ret (results_row1 rfl _ _ (w.heap.size + 1 + 1) _ rfl (load_24 (d := ⟨peer, boot, life, a1, ls.length, c1, pend, miss⟩) (C6.at_ 2 _ rfl))) rfl ⟨a1, c1, ?_, ⟨?_, ?_⟩, C6.below⟩
  · show Ending.returned (HR.val ⟨peer, boot, life, a1, ls.length, c1, pend, miss⟩) = Ending.returned (HR.val ⟨peer, boot, life, a1, (wrL name v p f ls).length, c1, pend, miss⟩)
    rw [HW.out]
  · show LstL _ a1 (wrL name v p f ls).length c1 (wrL name v p f ls)
    rw [HW.out]
    exact L4.of_block (fun g off e => put6_far (by have := HO.out g off e; omega) _ _ _ _ _ _)
  · intro g off e
    have := HO.out g off e
    omega

theorem write_any (h : HS) (a : Option Addr) (c : Nat) (name : ByteArray) (v p f : Int) (w : World) (R : RdO w h a c) (hn : h.ls.length + 1 ≤ 65536) : Calls Try.prog 32 #[(h.on a c).val, .string name, rg v p f] w fun e w' => ∃ a' c', e = .returned ((h.wr name v p f).on a' c').val ∧ Own w.heap.size w' (h.wr name v p f) a' c' ∧ Below w.heap.size w w' := by
  obtain ⟨peer, boot, life, ls, pend, miss⟩ := h
  cases hz : zeroB v p f with
  | true => exact write_zero peer boot life ls pend miss a c name v p f w R hn hz
  | false =>
    cases hh : hitN name ls with
    | true => exact write_hit peer boot life ls pend miss a c name v p f w R hn hz hh
    | false =>
      by_cases h8 : ls.length < 8
      · exact write_new peer boot life ls pend miss a c name v p f w R hn hz hh h8
      · exact write_full peer boot life ls pend miss a c name v p f w R hn hz hh h8
end Go.Proofs.Ytacefkchhcpgaaa
