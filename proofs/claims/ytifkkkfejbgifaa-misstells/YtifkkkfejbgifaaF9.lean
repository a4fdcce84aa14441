/-
  The document's Fit.
-/
import Derived.Test.YtifkkkfejbgifaaC3
namespace Go.Proofs.Ytifkkkfejbgifaa
open Go.ChangeShapes Go.WideShapes Go.ChangeAt Go.RowKit
set_option linter.unusedVariables false
set_option linter.unusedSimpArgs false


set_option maxRecDepth 100000 in
set_option maxHeartbeats 2000000 in
theorem rfit_0 (id peer boot life : Int) (ls : List LS) (pend : Bool) (miss : Int) (a : Option Addr) (c : Nat) (w : World)  (h1 : nodeB id = false) :
    Calls Try.prog 23 #[.int .i64 id, .agg #[.int .i64 peer, .int .i64 boot, .int .i64 life, .slice a ls.length c, .bool pend, .int .i64 miss]] w fun e w' => e = .returned (.bool false) ∧ Below w.heap.size w w' := by
  go_enter Try.func23, Try.ntmps23
  go_wp2_with (go_at_call 32; refine (tnode_any _ _).mono ?_; rintro e wx ⟨rfl, hw⟩; rw [hw]; clear hw)
  go_ret
  exact ⟨rfl, by go_grown⟩

set_option maxRecDepth 100000 in
set_option maxHeartbeats 2000000 in
theorem rfit_1 (id peer boot life : Int) (ls : List LS) (pend : Bool) (miss : Int) (a : Option Addr) (c : Nat) (w : World) (h1 : nodeB id = true) (h2 : nodeB peer = false) :
    Calls Try.prog 23 #[.int .i64 id, .agg #[.int .i64 peer, .int .i64 boot, .int .i64 life, .slice a ls.length c, .bool pend, .int .i64 miss]] w fun e w' => e = .returned (.bool false) ∧ Below w.heap.size w w' := by
  go_enter Try.func23, Try.ntmps23
  go_wp2_with (go_at_call 32; refine (tnode_any _ _).mono ?_; rintro e wx ⟨rfl, hw⟩; rw [hw]; clear hw)
  go_ret
  exact ⟨rfl, by go_grown⟩

set_option maxRecDepth 100000 in
set_option maxHeartbeats 2000000 in
theorem rfit_2 (id peer boot life : Int) (ls : List LS) (pend : Bool) (miss : Int) (a : Option Addr) (c : Nat) (w : World) (h1 : nodeB id = true) (h2 : nodeB peer = true) (h3 : (peer == id) = true) :
    Calls Try.prog 23 #[.int .i64 id, .agg #[.int .i64 peer, .int .i64 boot, .int .i64 life, .slice a ls.length c, .bool pend, .int .i64 miss]] w fun e w' => e = .returned (.bool false) ∧ Below w.heap.size w w' := by
  go_enter Try.func23, Try.ntmps23
  go_wp2_with (go_at_call 32; refine (tnode_any _ _).mono ?_; rintro e wx ⟨rfl, hw⟩; rw [hw]; clear hw)
  go_ret
  exact ⟨rfl, by go_grown⟩

set_option maxRecDepth 100000 in
set_option maxHeartbeats 2000000 in
theorem rfit_3 (id peer boot life : Int) (ls : List LS) (pend : Bool) (miss : Int) (a : Option Addr) (c : Nat) (w : World) (h1 : nodeB id = true) (h2 : nodeB peer = true) (h3 : (peer == id) = false) (h4 : boot < 1) :
    Calls Try.prog 23 #[.int .i64 id, .agg #[.int .i64 peer, .int .i64 boot, .int .i64 life, .slice a ls.length c, .bool pend, .int .i64 miss]] w fun e w' => e = .returned (.bool false) ∧ Below w.heap.size w w' := by
  go_enter Try.func23, Try.ntmps23
  go_wp2_with (go_at_call 32; refine (tnode_any _ _).mono ?_; rintro e wx ⟨rfl, hw⟩; rw [hw]; clear hw)
  go_ret
  exact ⟨rfl, by go_grown⟩

set_option maxRecDepth 100000 in
set_option maxHeartbeats 2000000 in
theorem rfit_4 (id peer boot life : Int) (ls : List LS) (pend : Bool) (miss : Int) (a : Option Addr) (c : Nat) (w : World) (h1 : nodeB id = true) (h2 : nodeB peer = true) (h3 : (peer == id) = false) (h4 : ¬ boot < 1) (h5 : 1099511627776 < boot) :
    Calls Try.prog 23 #[.int .i64 id, .agg #[.int .i64 peer, .int .i64 boot, .int .i64 life, .slice a ls.length c, .bool pend, .int .i64 miss]] w fun e w' => e = .returned (.bool false) ∧ Below w.heap.size w w' := by
  go_enter Try.func23, Try.ntmps23
  go_wp2_with (go_at_call 32; refine (tnode_any _ _).mono ?_; rintro e wx ⟨rfl, hw⟩; rw [hw]; clear hw)
  go_ret
  exact ⟨rfl, by go_grown⟩

set_option maxRecDepth 100000 in
set_option maxHeartbeats 2000000 in
theorem rfit_5 (id peer boot life : Int) (ls : List LS) (pend : Bool) (miss : Int) (a : Option Addr) (c : Nat) (w : World) (h1 : nodeB id = true) (h2 : nodeB peer = true) (h3 : (peer == id) = false) (h4 : ¬ boot < 1) (h5 : ¬ 1099511627776 < boot) (h6 : life < 0) :
    Calls Try.prog 23 #[.int .i64 id, .agg #[.int .i64 peer, .int .i64 boot, .int .i64 life, .slice a ls.length c, .bool pend, .int .i64 miss]] w fun e w' => e = .returned (.bool false) ∧ Below w.heap.size w w' := by
  go_enter Try.func23, Try.ntmps23
  go_wp2_with (go_at_call 32; refine (tnode_any _ _).mono ?_; rintro e wx ⟨rfl, hw⟩; rw [hw]; clear hw)
  go_ret
  exact ⟨rfl, by go_grown⟩

set_option maxRecDepth 100000 in
set_option maxHeartbeats 2000000 in
theorem rfit_6 (id peer boot life : Int) (ls : List LS) (pend : Bool) (miss : Int) (a : Option Addr) (c : Nat) (w : World) (h1 : nodeB id = true) (h2 : nodeB peer = true) (h3 : (peer == id) = false) (h4 : ¬ boot < 1) (h5 : ¬ 1099511627776 < boot) (h6 : ¬ life < 0) (h7 : 1099511627776 < life) :
    Calls Try.prog 23 #[.int .i64 id, .agg #[.int .i64 peer, .int .i64 boot, .int .i64 life, .slice a ls.length c, .bool pend, .int .i64 miss]] w fun e w' => e = .returned (.bool false) ∧ Below w.heap.size w w' := by
  go_enter Try.func23, Try.ntmps23
  go_wp2_with (go_at_call 32; refine (tnode_any _ _).mono ?_; rintro e wx ⟨rfl, hw⟩; rw [hw]; clear hw)
  go_ret
  exact ⟨rfl, by go_grown⟩

set_option maxRecDepth 100000 in
set_option maxHeartbeats 2000000 in
theorem rfit_7 (id peer boot life : Int) (ls : List LS) (pend : Bool) (miss : Int) (a : Option Addr) (c : Nat) (w : World) (h1 : nodeB id = true) (h2 : nodeB peer = true) (h3 : (peer == id) = false) (h4 : ¬ boot < 1) (h5 : ¬ 1099511627776 < boot) (h6 : ¬ life < 0) (h7 : ¬ 1099511627776 < life) (h8 : (8 : Int) < (ls.length : Int)) :
    Calls Try.prog 23 #[.int .i64 id, .agg #[.int .i64 peer, .int .i64 boot, .int .i64 life, .slice a ls.length c, .bool pend, .int .i64 miss]] w fun e w' => e = .returned (.bool false) ∧ Below w.heap.size w w' := by
  go_enter Try.func23, Try.ntmps23
  go_wp2_with (go_at_call 32; refine (tnode_any _ _).mono ?_; rintro e wx ⟨rfl, hw⟩; rw [hw]; clear hw)
  go_ret
  exact ⟨rfl, by go_grown⟩

set_option maxRecDepth 100000 in
set_option maxHeartbeats 2000000 in
theorem rfit_8 (id peer boot life : Int) (ls : List LS) (pend : Bool) (miss : Int) (a : Option Addr) (c : Nat) (w : World) (h1 : nodeB id = true) (h2 : nodeB peer = true) (h3 : (peer == id) = false) (h4 : ¬ boot < 1) (h5 : ¬ 1099511627776 < boot) (h6 : ¬ life < 0) (h7 : ¬ 1099511627776 < life) (h8 : ¬ (8 : Int) < (ls.length : Int)) (h9 : miss < 0) :
    Calls Try.prog 23 #[.int .i64 id, .agg #[.int .i64 peer, .int .i64 boot, .int .i64 life, .slice a ls.length c, .bool pend, .int .i64 miss]] w fun e w' => e = .returned (.bool false) ∧ Below w.heap.size w w' := by
  go_enter Try.func23, Try.ntmps23
  go_wp2_with (go_at_call 32; refine (tnode_any _ _).mono ?_; rintro e wx ⟨rfl, hw⟩; rw [hw]; clear hw)
  go_ret
  exact ⟨rfl, by go_grown⟩

set_option maxRecDepth 100000 in
set_option maxHeartbeats 2000000 in
theorem rfit_9 (id peer boot life : Int) (ls : List LS) (pend : Bool) (miss : Int) (a : Option Addr) (c : Nat) (w : World) (h1 : nodeB id = true) (h2 : nodeB peer = true) (h3 : (peer == id) = false) (h4 : ¬ boot < 1) (h5 : ¬ 1099511627776 < boot) (h6 : ¬ life < 0) (h7 : ¬ 1099511627776 < life) (h8 : ¬ (8 : Int) < (ls.length : Int)) (h9 : ¬ miss < 0) (h10 : 3 ≤ miss) :
    Calls Try.prog 23 #[.int .i64 id, .agg #[.int .i64 peer, .int .i64 boot, .int .i64 life, .slice a ls.length c, .bool pend, .int .i64 miss]] w fun e w' => e = .returned (.bool false) ∧ Below w.heap.size w w' := by
  go_enter Try.func23, Try.ntmps23
  go_wp2_with (go_at_call 32; refine (tnode_any _ _).mono ?_; rintro e wx ⟨rfl, hw⟩; rw [hw]; clear hw)
  go_ret
  exact ⟨rfl, by go_grown⟩

set_option maxRecDepth 100000 in
set_option maxHeartbeats 2000000 in
theorem rfit_10 (id peer boot life : Int) (ls : List LS) (pend : Bool) (miss : Int) (a : Option Addr) (c : Nat) (w : World) (h1 : nodeB id = true) (h2 : nodeB peer = true) (h3 : (peer == id) = false) (h4 : ¬ boot < 1) (h5 : ¬ 1099511627776 < boot) (h6 : ¬ life < 0) (h7 : ¬ 1099511627776 < life) (h8 : ¬ (8 : Int) < (ls.length : Int)) (h9 : ¬ miss < 0) (h10 : ¬ 3 ≤ miss) (h11 : pend = false ∧ (miss == 0) = false) :
    Calls Try.prog 23 #[.int .i64 id, .agg #[.int .i64 peer, .int .i64 boot, .int .i64 life, .slice a ls.length c, .bool pend, .int .i64 miss]] w fun e w' => e = .returned (.bool false) ∧ Below w.heap.size w w' := by
  obtain ⟨rfl, h12⟩ := h11
  have h13 : (miss != 0) = true := by rw [bne, h12]; rfl
  go_enter Try.func23, Try.ntmps23
  go_wp2_with (go_at_call 32; refine (tnode_any _ _).mono ?_; rintro e wx ⟨rfl, hw⟩; rw [hw]; clear hw)
  go_ret
  exact ⟨rfl, by go_grown⟩
end Go.Proofs.Ytifkkkfejbgifaa
