/-
  Package half: Fit.
-/
import Derived.Test.YtacefkchhcpgaaaC3
namespace Go.Proofs.Ytacefkchhcpgaaa
open Go.ChangeShapes Go.WideShapes Go.ChangeAt Go.RowKit
set_option linter.unusedVariables false
set_option linter.unusedSimpArgs false


set_option maxRecDepth 100000 in
set_option maxHeartbeats 2000000 in
theorem fit8_0 (id peer boot life : Int) (ls : List LS) (pend : Bool) (miss : Int) (a : Option Addr) (c : Nat) (w : World) (R : RdL w a ls.length c ls)  (h1 : (nodeB id) = false) :
    Calls Try.prog 8 #[.int .i64 id, .agg #[.int .i64 peer, .int .i64 boot, .int .i64 life, .slice a ls.length c, .bool pend, .int .i64 miss]] w fun e w' => e = .returned (.bool (false)) ∧ Below w.heap.size w w' := by
  have C0 := (Bx.nil w).add rfl (.cells #[.int .i64 peer, .int .i64 boot, .int .i64 life, .slice a ls.length c, .bool pend, .int .i64 miss] 24)
  have K43 : ∀ W, Calls Try.prog 43 #[.agg #[.int .i64 peer, .int .i64 boot, .int .i64 life, .slice a ls.length c, .bool pend, .int .i64 miss]] W fun e w' => e = .returned (.bool (missB pend miss)) ∧ Below W.heap.size W w' := fun W => misses_any ⟨peer, boot, life, a, ls.length, c, pend, miss⟩ W
  go_enter Try.func8, Try.ntmps8
  go_wp2_with (first
    | (go_at_call 41; refine (hnode_any _ _).mono ?_; rintro e wx ⟨rfl, hw⟩; rw [hw]; clear hw)
    | (go_at_call 42; refine (within_any _ _ _ _).mono ?_; rintro e wx ⟨rfl, hw⟩; rw [hw]; clear hw)
    | (go_at_call 43; refine (K43 _).mono ?_; rintro e w1 ⟨rfl, b1⟩; have C1 := C0.later b1; have ⟨p0, p1, p2, p3, p4, p5⟩ := cel6 (C1.at0 _ rfl)))
  go_ret
  exact ⟨rfl, C0.below⟩

set_option maxRecDepth 100000 in
set_option maxHeartbeats 2000000 in
theorem fit8_1 (id peer boot life : Int) (ls : List LS) (pend : Bool) (miss : Int) (a : Option Addr) (c : Nat) (w : World) (R : RdL w a ls.length c ls) (h1 : (nodeB id) = true) (h2 : (nodeB peer) = false) :
    Calls Try.prog 8 #[.int .i64 id, .agg #[.int .i64 peer, .int .i64 boot, .int .i64 life, .slice a ls.length c, .bool pend, .int .i64 miss]] w fun e w' => e = .returned (.bool (false)) ∧ Below w.heap.size w w' := by
  have C0 := (Bx.nil w).add rfl (.cells #[.int .i64 peer, .int .i64 boot, .int .i64 life, .slice a ls.length c, .bool pend, .int .i64 miss] 24)
  have K43 : ∀ W, Calls Try.prog 43 #[.agg #[.int .i64 peer, .int .i64 boot, .int .i64 life, .slice a ls.length c, .bool pend, .int .i64 miss]] W fun e w' => e = .returned (.bool (missB pend miss)) ∧ Below W.heap.size W w' := fun W => misses_any ⟨peer, boot, life, a, ls.length, c, pend, miss⟩ W
  go_enter Try.func8, Try.ntmps8
  go_wp2_with (first
    | (go_at_call 41; refine (hnode_any _ _).mono ?_; rintro e wx ⟨rfl, hw⟩; rw [hw]; clear hw)
    | (go_at_call 42; refine (within_any _ _ _ _).mono ?_; rintro e wx ⟨rfl, hw⟩; rw [hw]; clear hw)
    | (go_at_call 43; refine (K43 _).mono ?_; rintro e w1 ⟨rfl, b1⟩; have C1 := C0.later b1; have ⟨p0, p1, p2, p3, p4, p5⟩ := cel6 (C1.at0 _ rfl)))
  go_ret
  exact ⟨rfl, C0.below⟩

set_option maxRecDepth 100000 in
set_option maxHeartbeats 2000000 in
theorem fit8_2 (id peer boot life : Int) (ls : List LS) (pend : Bool) (miss : Int) (a : Option Addr) (c : Nat) (w : World) (R : RdL w a ls.length c ls) (h1 : (nodeB id) = true) (h2 : (nodeB peer) = true) (h3 : (!eqI peer id) = false) :
    Calls Try.prog 8 #[.int .i64 id, .agg #[.int .i64 peer, .int .i64 boot, .int .i64 life, .slice a ls.length c, .bool pend, .int .i64 miss]] w fun e w' => e = .returned (.bool (false)) ∧ Below w.heap.size w w' := by
  have C0 := (Bx.nil w).add rfl (.cells #[.int .i64 peer, .int .i64 boot, .int .i64 life, .slice a ls.length c, .bool pend, .int .i64 miss] 24)
  have K43 : ∀ W, Calls Try.prog 43 #[.agg #[.int .i64 peer, .int .i64 boot, .int .i64 life, .slice a ls.length c, .bool pend, .int .i64 miss]] W fun e w' => e = .returned (.bool (missB pend miss)) ∧ Below W.heap.size W w' := fun W => misses_any ⟨peer, boot, life, a, ls.length, c, pend, miss⟩ W
  have e3 : (peer == id) = true := by have := h3; simp [eqI] at this; simpa using this
  have e3' : (peer != id) = false := by rw [bne, e3]; rfl
  clear h3
  go_enter Try.func8, Try.ntmps8
  go_wp2_with (first
    | (go_at_call 41; refine (hnode_any _ _).mono ?_; rintro e wx ⟨rfl, hw⟩; rw [hw]; clear hw)
    | (go_at_call 42; refine (within_any _ _ _ _).mono ?_; rintro e wx ⟨rfl, hw⟩; rw [hw]; clear hw)
    | (go_at_call 43; refine (K43 _).mono ?_; rintro e w1 ⟨rfl, b1⟩; have C1 := C0.later b1; have ⟨p0, p1, p2, p3, p4, p5⟩ := cel6 (C1.at0 _ rfl)))
  go_ret
  exact ⟨rfl, C0.below⟩

set_option maxRecDepth 100000 in
set_option maxHeartbeats 2000000 in
theorem fit8_3 (id peer boot life : Int) (ls : List LS) (pend : Bool) (miss : Int) (a : Option Addr) (c : Nat) (w : World) (R : RdL w a ls.length c ls) (h1 : (nodeB id) = true) (h2 : (nodeB peer) = true) (h3 : (!eqI peer id) = true) (h4 : (inB 1 boot 1099511627776) = false) :
    Calls Try.prog 8 #[.int .i64 id, .agg #[.int .i64 peer, .int .i64 boot, .int .i64 life, .slice a ls.length c, .bool pend, .int .i64 miss]] w fun e w' => e = .returned (.bool (false)) ∧ Below w.heap.size w w' := by
  have C0 := (Bx.nil w).add rfl (.cells #[.int .i64 peer, .int .i64 boot, .int .i64 life, .slice a ls.length c, .bool pend, .int .i64 miss] 24)
  have K43 : ∀ W, Calls Try.prog 43 #[.agg #[.int .i64 peer, .int .i64 boot, .int .i64 life, .slice a ls.length c, .bool pend, .int .i64 miss]] W fun e w' => e = .returned (.bool (missB pend miss)) ∧ Below W.heap.size W w' := fun W => misses_any ⟨peer, boot, life, a, ls.length, c, pend, miss⟩ W
  have e3 : (peer == id) = false := by have := h3; simp [eqI] at this; simpa using this
  have e3' : (peer != id) = true := by rw [bne, e3]; rfl
  have e3'' : ¬ peer = id := by simpa using e3
  clear h3
  go_enter Try.func8, Try.ntmps8
  go_wp2_with (first
    | (go_at_call 41; refine (hnode_any _ _).mono ?_; rintro e wx ⟨rfl, hw⟩; rw [hw]; clear hw)
    | (go_at_call 42; refine (within_any _ _ _ _).mono ?_; rintro e wx ⟨rfl, hw⟩; rw [hw]; clear hw)
    | (go_at_call 43; refine (K43 _).mono ?_; rintro e w1 ⟨rfl, b1⟩; have C1 := C0.later b1; have ⟨p0, p1, p2, p3, p4, p5⟩ := cel6 (C1.at0 _ rfl)))
  go_ret
  exact ⟨rfl, C0.below⟩

set_option maxRecDepth 100000 in
set_option maxHeartbeats 2000000 in
theorem fit8_4 (id peer boot life : Int) (ls : List LS) (pend : Bool) (miss : Int) (a : Option Addr) (c : Nat) (w : World) (R : RdL w a ls.length c ls) (h1 : (nodeB id) = true) (h2 : (nodeB peer) = true) (h3 : (!eqI peer id) = true) (h4 : (inB 1 boot 1099511627776) = true) (h5 : (inB 0 life 1099511627776) = false) :
    Calls Try.prog 8 #[.int .i64 id, .agg #[.int .i64 peer, .int .i64 boot, .int .i64 life, .slice a ls.length c, .bool pend, .int .i64 miss]] w fun e w' => e = .returned (.bool (false)) ∧ Below w.heap.size w w' := by
  have C0 := (Bx.nil w).add rfl (.cells #[.int .i64 peer, .int .i64 boot, .int .i64 life, .slice a ls.length c, .bool pend, .int .i64 miss] 24)
  have K43 : ∀ W, Calls Try.prog 43 #[.agg #[.int .i64 peer, .int .i64 boot, .int .i64 life, .slice a ls.length c, .bool pend, .int .i64 miss]] W fun e w' => e = .returned (.bool (missB pend miss)) ∧ Below W.heap.size W w' := fun W => misses_any ⟨peer, boot, life, a, ls.length, c, pend, miss⟩ W
  have e3 : (peer == id) = false := by have := h3; simp [eqI] at this; simpa using this
  have e3' : (peer != id) = true := by rw [bne, e3]; rfl
  have e3'' : ¬ peer = id := by simpa using e3
  clear h3
  go_enter Try.func8, Try.ntmps8
  go_wp2_with (first
    | (go_at_call 41; refine (hnode_any _ _).mono ?_; rintro e wx ⟨rfl, hw⟩; rw [hw]; clear hw)
    | (go_at_call 42; refine (within_any _ _ _ _).mono ?_; rintro e wx ⟨rfl, hw⟩; rw [hw]; clear hw)
    | (go_at_call 43; refine (K43 _).mono ?_; rintro e w1 ⟨rfl, b1⟩; have C1 := C0.later b1; have ⟨p0, p1, p2, p3, p4, p5⟩ := cel6 (C1.at0 _ rfl)))
  go_ret
  exact ⟨rfl, C0.below⟩

set_option maxRecDepth 100000 in
set_option maxHeartbeats 2000000 in
theorem fit8_5 (id peer boot life : Int) (ls : List LS) (pend : Bool) (miss : Int) (a : Option Addr) (c : Nat) (w : World) (R : RdL w a ls.length c ls) (h1 : (nodeB id) = true) (h2 : (nodeB peer) = true) (h3 : (!eqI peer id) = true) (h4 : (inB 1 boot 1099511627776) = true) (h5 : (inB 0 life 1099511627776) = true) (h6 : (missB pend miss) = false) :
    Calls Try.prog 8 #[.int .i64 id, .agg #[.int .i64 peer, .int .i64 boot, .int .i64 life, .slice a ls.length c, .bool pend, .int .i64 miss]] w fun e w' => e = .returned (.bool (false)) ∧ Below w.heap.size w w' := by
  have C0 := (Bx.nil w).add rfl (.cells #[.int .i64 peer, .int .i64 boot, .int .i64 life, .slice a ls.length c, .bool pend, .int .i64 miss] 24)
  have K43 : ∀ W, Calls Try.prog 43 #[.agg #[.int .i64 peer, .int .i64 boot, .int .i64 life, .slice a ls.length c, .bool pend, .int .i64 miss]] W fun e w' => e = .returned (.bool (missB pend miss)) ∧ Below W.heap.size W w' := fun W => misses_any ⟨peer, boot, life, a, ls.length, c, pend, miss⟩ W
  have e3 : (peer == id) = false := by have := h3; simp [eqI] at this; simpa using this
  have e3' : (peer != id) = true := by rw [bne, e3]; rfl
  have e3'' : ¬ peer = id := by simpa using e3
  clear h3
  go_enter Try.func8, Try.ntmps8
  go_wp2_with (first
    | (go_at_call 41; refine (hnode_any _ _).mono ?_; rintro e wx ⟨rfl, hw⟩; rw [hw]; clear hw)
    | (go_at_call 42; refine (within_any _ _ _ _).mono ?_; rintro e wx ⟨rfl, hw⟩; rw [hw]; clear hw)
    | (go_at_call 43; refine (K43 _).mono ?_; rintro e w1 ⟨rfl, b1⟩; have C1 := C0.later b1; have ⟨p0, p1, p2, p3, p4, p5⟩ := cel6 (C1.at0 _ rfl)))
  go_ret
  exact ⟨rfl, C1.below⟩

set_option maxRecDepth 100000 in
set_option maxHeartbeats 2000000 in
theorem fit8_6 (id peer boot life : Int) (ls : List LS) (pend : Bool) (miss : Int) (a : Option Addr) (c : Nat) (w : World) (R : RdL w a ls.length c ls) (h1 : (nodeB id) = true) (h2 : (nodeB peer) = true) (h3 : (!eqI peer id) = true) (h4 : (inB 1 boot 1099511627776) = true) (h5 : (inB 0 life 1099511627776) = true) (h6 : (missB pend miss) = true) (h7 : 8 < ls.length) :
    Calls Try.prog 8 #[.int .i64 id, .agg #[.int .i64 peer, .int .i64 boot, .int .i64 life, .slice a ls.length c, .bool pend, .int .i64 miss]] w fun e w' => e = .returned (.bool (false)) ∧ Below w.heap.size w w' := by
  have C0 := (Bx.nil w).add rfl (.cells #[.int .i64 peer, .int .i64 boot, .int .i64 life, .slice a ls.length c, .bool pend, .int .i64 miss] 24)
  have K43 : ∀ W, Calls Try.prog 43 #[.agg #[.int .i64 peer, .int .i64 boot, .int .i64 life, .slice a ls.length c, .bool pend, .int .i64 miss]] W fun e w' => e = .returned (.bool (missB pend miss)) ∧ Below W.heap.size W w' := fun W => misses_any ⟨peer, boot, life, a, ls.length, c, pend, miss⟩ W
  have e3 : (peer == id) = false := by have := h3; simp [eqI] at this; simpa using this
  have e3' : (peer != id) = true := by rw [bne, e3]; rfl
  have e3'' : ¬ peer = id := by simpa using e3
  clear h3
  go_enter Try.func8, Try.ntmps8
  go_wp2_with (first
    | (go_at_call 41; refine (hnode_any _ _).mono ?_; rintro e wx ⟨rfl, hw⟩; rw [hw]; clear hw)
    | (go_at_call 42; refine (within_any _ _ _ _).mono ?_; rintro e wx ⟨rfl, hw⟩; rw [hw]; clear hw)
    | (go_at_call 43; refine (K43 _).mono ?_; rintro e w1 ⟨rfl, b1⟩; have C1 := C0.later b1; have ⟨p0, p1, p2, p3, p4, p5⟩ := cel6 (C1.at0 _ rfl))
    | (go_at_call 44; refine (lines_many id peer boot life ls.length pend miss a c _ h7).mono ?_; rintro e w2 ⟨rfl, b2⟩; have C2 := C1.later b2))
  go_ret
  exact ⟨rfl, C2.below⟩

set_option maxRecDepth 100000 in
set_option maxHeartbeats 2000000 in
theorem fit8_7 (id peer boot life : Int) (ls : List LS) (pend : Bool) (miss : Int) (a : Option Addr) (c : Nat) (w : World) (R : RdL w a ls.length c ls) (h1 : (nodeB id) = true) (h2 : (nodeB peer) = true) (h3 : (!eqI peer id) = true) (h4 : (inB 1 boot 1099511627776) = true) (h5 : (inB 0 life 1099511627776) = true) (h6 : (missB pend miss) = true) (h7 : ls.length ≤ 8) :
    Calls Try.prog 8 #[.int .i64 id, .agg #[.int .i64 peer, .int .i64 boot, .int .i64 life, .slice a ls.length c, .bool pend, .int .i64 miss]] w fun e w' => e = .returned (.bool (linesB id peer ls)) ∧ Below w.heap.size w w' := by
  have C0 := (Bx.nil w).add rfl (.cells #[.int .i64 peer, .int .i64 boot, .int .i64 life, .slice a ls.length c, .bool pend, .int .i64 miss] 24)
  have K43 : ∀ W, Calls Try.prog 43 #[.agg #[.int .i64 peer, .int .i64 boot, .int .i64 life, .slice a ls.length c, .bool pend, .int .i64 miss]] W fun e w' => e = .returned (.bool (missB pend miss)) ∧ Below W.heap.size W w' := fun W => misses_any ⟨peer, boot, life, a, ls.length, c, pend, miss⟩ W
  have e3 : (peer == id) = false := by have := h3; simp [eqI] at this; simpa using this
  have e3' : (peer != id) = true := by rw [bne, e3]; rfl
  have e3'' : ¬ peer = id := by simpa using e3
  clear h3
  go_enter Try.func8, Try.ntmps8
  go_wp2_with (first
    | (go_at_call 41; refine (hnode_any _ _).mono ?_; rintro e wx ⟨rfl, hw⟩; rw [hw]; clear hw)
    | (go_at_call 42; refine (within_any _ _ _ _).mono ?_; rintro e wx ⟨rfl, hw⟩; rw [hw]; clear hw)
    | (go_at_call 43; refine (K43 _).mono ?_; rintro e w1 ⟨rfl, b1⟩; have C1 := C0.later b1; have ⟨p0, p1, p2, p3, p4, p5⟩ := cel6 (C1.at0 _ rfl))
    | (go_at_call 44; refine (lines_any id peer boot life ls pend miss a c _ (R.below C1.below) h7).mono ?_; rintro e w2 ⟨rfl, b2⟩; have C2 := C1.later b2))
  go_ret
  exact ⟨rfl, C2.below⟩

theorem hfit_any (id : Int) (h : HS) (a : Option Addr) (c : Nat) (w : World) (R : RdO w h a c) : Calls Try.prog 8 #[.int .i64 id, (h.on a c).val] w fun e w' => e = .returned (.bool (h.fit id)) ∧ Below w.heap.size w w' := by
  obtain ⟨peer, boot, life, ls, pend, miss⟩ := h
  have go : ∀ b, (HS.mk peer boot life ls pend miss).fit id = b → (Calls Try.prog 8 #[.int .i64 id, .agg #[.int .i64 peer, .int .i64 boot, .int .i64 life, .slice a ls.length c, .bool pend, .int .i64 miss]] w fun e w' => e = .returned (.bool b) ∧ Below w.heap.size w w') → Calls Try.prog 8 #[.int .i64 id, ((HS.mk peer boot life ls pend miss).on a c).val] w fun e w' => e = .returned (.bool ((HS.mk peer boot life ls pend miss).fit id)) ∧ Below w.heap.size w w' := fun b e h => by rw [e]; exact h
  cases h1 : nodeB id with
  | false => exact go _ (by simp [HS.fit, h1]) (fit8_0 id peer boot life ls pend miss a c w R h1)
  | true =>
  cases h2 : nodeB peer with
  | false => exact go _ (by simp [HS.fit, h1, h2]) (fit8_1 id peer boot life ls pend miss a c w R h1 h2)
  | true =>
  cases h3 : (!eqI peer id) with
  | false => exact go _ (by simp [HS.fit, h1, h2, h3]) (fit8_2 id peer boot life ls pend miss a c w R h1 h2 h3)
  | true =>
  cases h4 : inB 1 boot 1099511627776 with
  | false => exact go _ (by simp [HS.fit, h1, h2, h3, h4]) (fit8_3 id peer boot life ls pend miss a c w R h1 h2 h3 h4)
  | true =>
  cases h5 : inB 0 life 1099511627776 with
  | false => exact go _ (by simp [HS.fit, h1, h2, h3, h4, h5]) (fit8_4 id peer boot life ls pend miss a c w R h1 h2 h3 h4 h5)
  | true =>
  cases h6 : missB pend miss with
  | false => exact go _ (by simp [HS.fit, h1, h2, h3, h4, h5, h6]) (fit8_5 id peer boot life ls pend miss a c w R h1 h2 h3 h4 h5 h6)
  | true =>
  by_cases h7 : ls.length ≤ 8
  · exact go _ (by unfold HS.fit; dsimp only; rw [h1, h2, h3, h4, h5, h6, decide_eq_true h7]; rfl) (fit8_7 id peer boot life ls pend miss a c w R h1 h2 h3 h4 h5 h6 h7)
  · exact go _ (by unfold HS.fit; dsimp only; rw [h1, h2, h3, h4, h5, h6, decide_eq_false h7]; rfl) (fit8_6 id peer boot life ls pend miss a c w R h1 h2 h3 h4 h5 h6 (by omega))
end Go.Proofs.Ytacefkchhcpgaaa
