/-
  A packet that came in: what the walk is told of it.
-/
import Derived.Test.YteoiogjaecpddaaGrQa
import Derived.Test.YteoiogjaecpddaaHeld
import Derived.Test.YteoiogjaecpddaaGrQc
import Derived.Test.YteoiogjaecpddaaRows
import Derived.ChangeSame
import Derived.ProofKit
import Derived.OpenShut
import Derived.Deep.Slices
import Derived.SizedLaws
import Derived.Deep.DeepHandedRow
namespace Go.Proofs.Yteoiogjaecpddaa.P
open Go.ChangeShapes Go.WideShapes Go.ChangeAt Go.RowKit
set_option linter.unusedVariables false
set_option linter.unusedSimpArgs false

set_option maxRecDepth 100000 in
set_option maxHeartbeats 4000000 in
theorem rfit_h0 (p : Pkt)  (k1 : p.kind < 1) (a : Option Addr) (len cap : Nat) (w : World) (R : RowI w a len cap p.items) : Calls Try.prog 25 #[pkv p a len cap] w fun e w' => e = .returned (.bool false) ∧ Below w.heap.size w w' := by
  have B1 : Below w.heap.size w (w.alloc (pkObj p a len cap)) := (Below.refl _ _).alloc (Nat.le_refl _) _
  clear R
  go_enter Try.func25, Try.ntmps25
  go_wp2_with (first | (go_at_call 48; refine (rnode_any _ _).mono ?_; rintro e w1 ⟨rfl, hw⟩; rw [hw]; clear hw; first | rw [f0] | rw [f1] | skip) | (go_at_call 49; refine (within_any _ _ _ _).mono ?_; rintro e w1 ⟨rfl, hw⟩; rw [hw]; clear hw; first | rw [f3] | rw [f4] | rw [g5] | rw [g6] | skip))
  all_goals go_ret
  all_goals exact ⟨by first | rfl | exact ret_bool (by simp_all), B1⟩
set_option maxRecDepth 100000 in
set_option maxHeartbeats 4000000 in
theorem rfit_h1 (p : Pkt) (k1 : 1 ≤ p.kind) (k2 : 5 < p.kind) (a : Option Addr) (len cap : Nat) (w : World) (R : RowI w a len cap p.items) : Calls Try.prog 25 #[pkv p a len cap] w fun e w' => e = .returned (.bool false) ∧ Below w.heap.size w w' := by
  have B1 : Below w.heap.size w (w.alloc (pkObj p a len cap)) := (Below.refl _ _).alloc (Nat.le_refl _) _
  clear R
  go_enter Try.func25, Try.ntmps25
  go_wp2_with (first | (go_at_call 48; refine (rnode_any _ _).mono ?_; rintro e w1 ⟨rfl, hw⟩; rw [hw]; clear hw; first | rw [f0] | rw [f1] | skip) | (go_at_call 49; refine (within_any _ _ _ _).mono ?_; rintro e w1 ⟨rfl, hw⟩; rw [hw]; clear hw; first | rw [f3] | rw [f4] | rw [g5] | rw [g6] | skip))
  all_goals go_ret
  all_goals exact ⟨by first | rfl | exact ret_bool (by simp_all), B1⟩
set_option maxRecDepth 100000 in
set_option maxHeartbeats 4000000 in
theorem rfit_h2 (p : Pkt) (k1 : 1 ≤ p.kind) (k2 : p.kind ≤ 5) (f0 : nodeB p.src = false) (a : Option Addr) (len cap : Nat) (w : World) (R : RowI w a len cap p.items) : Calls Try.prog 25 #[pkv p a len cap] w fun e w' => e = .returned (.bool false) ∧ Below w.heap.size w w' := by
  have B1 : Below w.heap.size w (w.alloc (pkObj p a len cap)) := (Below.refl _ _).alloc (Nat.le_refl _) _
  clear R
  go_enter Try.func25, Try.ntmps25
  go_wp2_with (first | (go_at_call 48; refine (rnode_any _ _).mono ?_; rintro e w1 ⟨rfl, hw⟩; rw [hw]; clear hw; first | rw [f0] | rw [f1] | skip) | (go_at_call 49; refine (within_any _ _ _ _).mono ?_; rintro e w1 ⟨rfl, hw⟩; rw [hw]; clear hw; first | rw [f3] | rw [f4] | rw [g5] | rw [g6] | skip))
  all_goals go_ret
  all_goals exact ⟨by first | rfl | exact ret_bool (by simp_all), B1⟩
set_option maxRecDepth 100000 in
set_option maxHeartbeats 4000000 in
theorem rfit_h3 (p : Pkt) (k1 : 1 ≤ p.kind) (k2 : p.kind ≤ 5) (f0 : nodeB p.src = true) (f1 : nodeB p.dst = false) (a : Option Addr) (len cap : Nat) (w : World) (R : RowI w a len cap p.items) : Calls Try.prog 25 #[pkv p a len cap] w fun e w' => e = .returned (.bool false) ∧ Below w.heap.size w w' := by
  have B1 : Below w.heap.size w (w.alloc (pkObj p a len cap)) := (Below.refl _ _).alloc (Nat.le_refl _) _
  clear R
  go_enter Try.func25, Try.ntmps25
  go_wp2_with (first | (go_at_call 48; refine (rnode_any _ _).mono ?_; rintro e w1 ⟨rfl, hw⟩; rw [hw]; clear hw; first | rw [f0] | rw [f1] | skip) | (go_at_call 49; refine (within_any _ _ _ _).mono ?_; rintro e w1 ⟨rfl, hw⟩; rw [hw]; clear hw; first | rw [f3] | rw [f4] | rw [g5] | rw [g6] | skip))
  all_goals go_ret
  all_goals exact ⟨by first | rfl | exact ret_bool (by simp_all), B1⟩
set_option maxRecDepth 100000 in
set_option maxHeartbeats 4000000 in
theorem rfit_h4 (p : Pkt) (k1 : 1 ≤ p.kind) (k2 : p.kind ≤ 5) (f0 : nodeB p.src = true) (f1 : nodeB p.dst = true) (f2 : (p.src == p.dst) = true) (a : Option Addr) (len cap : Nat) (w : World) (R : RowI w a len cap p.items) : Calls Try.prog 25 #[pkv p a len cap] w fun e w' => e = .returned (.bool false) ∧ Below w.heap.size w w' := by
  have B1 : Below w.heap.size w (w.alloc (pkObj p a len cap)) := (Below.refl _ _).alloc (Nat.le_refl _) _
  clear R
  go_enter Try.func25, Try.ntmps25
  go_wp2_with (first | (go_at_call 48; refine (rnode_any _ _).mono ?_; rintro e w1 ⟨rfl, hw⟩; rw [hw]; clear hw; first | rw [f0] | rw [f1] | skip) | (go_at_call 49; refine (within_any _ _ _ _).mono ?_; rintro e w1 ⟨rfl, hw⟩; rw [hw]; clear hw; first | rw [f3] | rw [f4] | rw [g5] | rw [g6] | skip))
  all_goals go_ret
  all_goals exact ⟨by first | rfl | exact ret_bool (by simp_all), B1⟩
set_option maxRecDepth 100000 in
set_option maxHeartbeats 4000000 in
theorem rfit_h5 (p : Pkt) (k1 : 1 ≤ p.kind) (k2 : p.kind ≤ 5) (f0 : nodeB p.src = true) (f1 : nodeB p.dst = true) (f2 : (p.src == p.dst) = false) (f3 : inB p.boot 1 1099511627776 = false) (a : Option Addr) (len cap : Nat) (w : World) (R : RowI w a len cap p.items) : Calls Try.prog 25 #[pkv p a len cap] w fun e w' => e = .returned (.bool false) ∧ Below w.heap.size w w' := by
  have B1 : Below w.heap.size w (w.alloc (pkObj p a len cap)) := (Below.refl _ _).alloc (Nat.le_refl _) _
  clear R
  go_enter Try.func25, Try.ntmps25
  go_wp2_with (first | (go_at_call 48; refine (rnode_any _ _).mono ?_; rintro e w1 ⟨rfl, hw⟩; rw [hw]; clear hw; first | rw [f0] | rw [f1] | skip) | (go_at_call 49; refine (within_any _ _ _ _).mono ?_; rintro e w1 ⟨rfl, hw⟩; rw [hw]; clear hw; first | rw [f3] | rw [f4] | rw [g5] | rw [g6] | skip))
  all_goals go_ret
  all_goals exact ⟨by first | rfl | exact ret_bool (by simp_all), B1⟩
set_option maxRecDepth 100000 in
set_option maxHeartbeats 4000000 in
theorem rfit_h6 (p : Pkt) (k1 : 1 ≤ p.kind) (k2 : p.kind ≤ 5) (f0 : nodeB p.src = true) (f1 : nodeB p.dst = true) (f2 : (p.src == p.dst) = false) (f3 : inB p.boot 1 1099511627776 = true) (f4 : inB p.life 0 1099511627776 = false) (a : Option Addr) (len cap : Nat) (w : World) (R : RowI w a len cap p.items) : Calls Try.prog 25 #[pkv p a len cap] w fun e w' => e = .returned (.bool false) ∧ Below w.heap.size w w' := by
  have B1 : Below w.heap.size w (w.alloc (pkObj p a len cap)) := (Below.refl _ _).alloc (Nat.le_refl _) _
  clear R
  go_enter Try.func25, Try.ntmps25
  go_wp2_with (first | (go_at_call 48; refine (rnode_any _ _).mono ?_; rintro e w1 ⟨rfl, hw⟩; rw [hw]; clear hw; first | rw [f0] | rw [f1] | skip) | (go_at_call 49; refine (within_any _ _ _ _).mono ?_; rintro e w1 ⟨rfl, hw⟩; rw [hw]; clear hw; first | rw [f3] | rw [f4] | rw [g5] | rw [g6] | skip))
  all_goals go_ret
  all_goals exact ⟨by first | rfl | exact ret_bool (by simp_all), B1⟩
set_option maxRecDepth 100000 in
set_option maxHeartbeats 4000000 in
theorem rfit_e0 (p : Pkt) (k1 : 1 ≤ p.kind) (k2 : p.kind ≤ 5) (f0 : nodeB p.src = true) (f1 : nodeB p.dst = true) (f2 : (p.src == p.dst) = false) (f3 : inB p.boot 1 1099511627776 = true) (f4 : inB p.life 0 1099511627776 = true) (e1 : (p.kind == 1) = true) (g1 : (p.echo != 0) = true) (a : Option Addr) (len cap : Nat) (w : World) (R : RowI w a len cap p.items) : Calls Try.prog 25 #[pkv p a len cap] w fun e w' => e = .returned (.bool false) ∧ Below w.heap.size w w' := by
  have B1 : Below w.heap.size w (w.alloc (pkObj p a len cap)) := (Below.refl _ _).alloc (Nat.le_refl _) _
  clear R
  go_enter Try.func25, Try.ntmps25
  go_wp2_with (first | (go_at_call 48; refine (rnode_any _ _).mono ?_; rintro e w1 ⟨rfl, hw⟩; rw [hw]; clear hw; first | rw [f0] | rw [f1] | skip) | (go_at_call 49; refine (within_any _ _ _ _).mono ?_; rintro e w1 ⟨rfl, hw⟩; rw [hw]; clear hw; first | rw [f3] | rw [f4] | rw [g5] | rw [g6] | skip))
  all_goals go_ret
  all_goals exact ⟨by first | rfl | exact ret_bool (by simp_all), B1⟩
set_option maxRecDepth 100000 in
set_option maxHeartbeats 4000000 in
theorem rfit_e1 (p : Pkt) (k1 : 1 ≤ p.kind) (k2 : p.kind ≤ 5) (f0 : nodeB p.src = true) (f1 : nodeB p.dst = true) (f2 : (p.src == p.dst) = false) (f3 : inB p.boot 1 1099511627776 = true) (f4 : inB p.life 0 1099511627776 = true) (e1 : (p.kind == 1) = true) (g1 : (p.echo != 0) = false) (g2 : (p.echoLife != 0) = true) (a : Option Addr) (len cap : Nat) (w : World) (R : RowI w a len cap p.items) : Calls Try.prog 25 #[pkv p a len cap] w fun e w' => e = .returned (.bool false) ∧ Below w.heap.size w w' := by
  have B1 : Below w.heap.size w (w.alloc (pkObj p a len cap)) := (Below.refl _ _).alloc (Nat.le_refl _) _
  clear R
  go_enter Try.func25, Try.ntmps25
  go_wp2_with (first | (go_at_call 48; refine (rnode_any _ _).mono ?_; rintro e w1 ⟨rfl, hw⟩; rw [hw]; clear hw; first | rw [f0] | rw [f1] | skip) | (go_at_call 49; refine (within_any _ _ _ _).mono ?_; rintro e w1 ⟨rfl, hw⟩; rw [hw]; clear hw; first | rw [f3] | rw [f4] | rw [g5] | rw [g6] | skip))
  all_goals go_ret
  all_goals exact ⟨by first | rfl | exact ret_bool (by simp_all), B1⟩
set_option maxRecDepth 100000 in
set_option maxHeartbeats 4000000 in
theorem rfit_e2 (p : Pkt) (k1 : 1 ≤ p.kind) (k2 : p.kind ≤ 5) (f0 : nodeB p.src = true) (f1 : nodeB p.dst = true) (f2 : (p.src == p.dst) = false) (f3 : inB p.boot 1 1099511627776 = true) (f4 : inB p.life 0 1099511627776 = true) (e1 : (p.kind == 1) = false) (g5 : inB p.echo 1 1099511627776 = false) (a : Option Addr) (len cap : Nat) (w : World) (R : RowI w a len cap p.items) : Calls Try.prog 25 #[pkv p a len cap] w fun e w' => e = .returned (.bool false) ∧ Below w.heap.size w w' := by
  have B1 : Below w.heap.size w (w.alloc (pkObj p a len cap)) := (Below.refl _ _).alloc (Nat.le_refl _) _
  clear R
  go_enter Try.func25, Try.ntmps25
  go_wp2_with (first | (go_at_call 48; refine (rnode_any _ _).mono ?_; rintro e w1 ⟨rfl, hw⟩; rw [hw]; clear hw; first | rw [f0] | rw [f1] | skip) | (go_at_call 49; refine (within_any _ _ _ _).mono ?_; rintro e w1 ⟨rfl, hw⟩; rw [hw]; clear hw; first | rw [f3] | rw [f4] | rw [g5] | rw [g6] | skip))
  all_goals go_ret
  all_goals exact ⟨by first | rfl | exact ret_bool (by simp_all), B1⟩
set_option maxRecDepth 100000 in
set_option maxHeartbeats 4000000 in
theorem rfit_e3 (p : Pkt) (k1 : 1 ≤ p.kind) (k2 : p.kind ≤ 5) (f0 : nodeB p.src = true) (f1 : nodeB p.dst = true) (f2 : (p.src == p.dst) = false) (f3 : inB p.boot 1 1099511627776 = true) (f4 : inB p.life 0 1099511627776 = true) (e1 : (p.kind == 1) = false) (g5 : inB p.echo 1 1099511627776 = true) (g6 : inB p.echoLife 0 1099511627776 = false) (a : Option Addr) (len cap : Nat) (w : World) (R : RowI w a len cap p.items) : Calls Try.prog 25 #[pkv p a len cap] w fun e w' => e = .returned (.bool false) ∧ Below w.heap.size w w' := by
  have B1 : Below w.heap.size w (w.alloc (pkObj p a len cap)) := (Below.refl _ _).alloc (Nat.le_refl _) _
  clear R
  go_enter Try.func25, Try.ntmps25
  go_wp2_with (first | (go_at_call 48; refine (rnode_any _ _).mono ?_; rintro e w1 ⟨rfl, hw⟩; rw [hw]; clear hw; first | rw [f0] | rw [f1] | skip) | (go_at_call 49; refine (within_any _ _ _ _).mono ?_; rintro e w1 ⟨rfl, hw⟩; rw [hw]; clear hw; first | rw [f3] | rw [f4] | rw [g5] | rw [g6] | skip))
  all_goals go_ret
  all_goals exact ⟨by first | rfl | exact ret_bool (by simp_all), B1⟩
set_option maxRecDepth 100000 in
set_option maxHeartbeats 4000000 in
theorem rfit_n1 (p : Pkt) (k1 : 1 ≤ p.kind) (k2 : p.kind ≤ 5) (f0 : nodeB p.src = true) (f1 : nodeB p.dst = true) (f2 : (p.src == p.dst) = false) (f3 : inB p.boot 1 1099511627776 = true) (f4 : inB p.life 0 1099511627776 = true) (e1 : (p.kind == 1) = true) (g1 : (p.echo != 0) = false) (g2 : (p.echoLife != 0) = false) (n3 : (p.kind != 3) = true) (n4 : (p.kind != 4) = true) (a : Option Addr) (len cap : Nat) (w : World) (R : RowI w a len cap p.items) : Calls Try.prog 25 #[pkv p a len cap] w fun e w' => e = .returned (.bool ((len : Int) == 0)) ∧ Below w.heap.size w w' := by
  have B1 : Below w.heap.size w (w.alloc (pkObj p a len cap)) := (Below.refl _ _).alloc (Nat.le_refl _) _
  clear R
  go_enter Try.func25, Try.ntmps25
  go_wp2_with (first | (go_at_call 48; refine (rnode_any _ _).mono ?_; rintro e w1 ⟨rfl, hw⟩; rw [hw]; clear hw; first | rw [f0] | rw [f1] | skip) | (go_at_call 49; refine (within_any _ _ _ _).mono ?_; rintro e w1 ⟨rfl, hw⟩; rw [hw]; clear hw; first | rw [f3] | rw [f4] | rw [g5] | rw [g6] | skip))
  all_goals go_ret
  all_goals exact ⟨by first | rfl | exact ret_bool (by simp_all), B1⟩
set_option maxRecDepth 100000 in
set_option maxHeartbeats 4000000 in
theorem rfit_n2 (p : Pkt) (k1 : 1 ≤ p.kind) (k2 : p.kind ≤ 5) (f0 : nodeB p.src = true) (f1 : nodeB p.dst = true) (f2 : (p.src == p.dst) = false) (f3 : inB p.boot 1 1099511627776 = true) (f4 : inB p.life 0 1099511627776 = true) (e1 : (p.kind == 1) = false) (g5 : inB p.echo 1 1099511627776 = true) (g6 : inB p.echoLife 0 1099511627776 = true) (n3 : (p.kind != 3) = true) (n4 : (p.kind != 4) = true) (a : Option Addr) (len cap : Nat) (w : World) (R : RowI w a len cap p.items) : Calls Try.prog 25 #[pkv p a len cap] w fun e w' => e = .returned (.bool ((len : Int) == 0)) ∧ Below w.heap.size w w' := by
  have B1 : Below w.heap.size w (w.alloc (pkObj p a len cap)) := (Below.refl _ _).alloc (Nat.le_refl _) _
  clear R
  go_enter Try.func25, Try.ntmps25
  go_wp2_with (first | (go_at_call 48; refine (rnode_any _ _).mono ?_; rintro e w1 ⟨rfl, hw⟩; rw [hw]; clear hw; first | rw [f0] | rw [f1] | skip) | (go_at_call 49; refine (within_any _ _ _ _).mono ?_; rintro e w1 ⟨rfl, hw⟩; rw [hw]; clear hw; first | rw [f3] | rw [f4] | rw [g5] | rw [g6] | skip))
  all_goals go_ret
  all_goals exact ⟨by first | rfl | exact ret_bool (by simp_all), B1⟩
set_option maxRecDepth 100000 in
set_option maxHeartbeats 4000000 in
theorem rfit_l3 (p : Pkt) (k1 : 1 ≤ p.kind) (k2 : p.kind ≤ 5) (f0 : nodeB p.src = true) (f1 : nodeB p.dst = true) (f2 : (p.src == p.dst) = false) (f3 : inB p.boot 1 1099511627776 = true) (f4 : inB p.life 0 1099511627776 = true) (e1 : (p.kind == 1) = false) (g5 : inB p.echo 1 1099511627776 = true) (g6 : inB p.echoLife 0 1099511627776 = true) (n3 : (p.kind != 3) = false) (a : Option Addr) (len cap : Nat) (w : World) (R : RowI w a len cap p.items) (hl : 8 < len) : Calls Try.prog 25 #[pkv p a len cap] w fun e w' => e = .returned (.bool false) ∧ Below w.heap.size w w' := by
  have B1 : Below w.heap.size w (w.alloc (pkObj p a len cap)) := (Below.refl _ _).alloc (Nat.le_refl _) _
  clear R
  go_enter Try.func25, Try.ntmps25
  go_wp2_with (first | (go_at_call 48; refine (rnode_any _ _).mono ?_; rintro e w1 ⟨rfl, hw⟩; rw [hw]; clear hw; first | rw [f0] | rw [f1] | skip) | (go_at_call 49; refine (within_any _ _ _ _).mono ?_; rintro e w1 ⟨rfl, hw⟩; rw [hw]; clear hw; first | rw [f3] | rw [f4] | rw [g5] | rw [g6] | skip))
  all_goals go_ret
  all_goals exact ⟨by first | rfl | exact ret_bool (by simp_all), B1⟩
set_option maxRecDepth 100000 in
set_option maxHeartbeats 4000000 in
theorem rfit_l4 (p : Pkt) (k1 : 1 ≤ p.kind) (k2 : p.kind ≤ 5) (f0 : nodeB p.src = true) (f1 : nodeB p.dst = true) (f2 : (p.src == p.dst) = false) (f3 : inB p.boot 1 1099511627776 = true) (f4 : inB p.life 0 1099511627776 = true) (e1 : (p.kind == 1) = false) (g5 : inB p.echo 1 1099511627776 = true) (g6 : inB p.echoLife 0 1099511627776 = true) (n3 : (p.kind != 3) = true) (n4 : (p.kind != 4) = false) (a : Option Addr) (len cap : Nat) (w : World) (R : RowI w a len cap p.items) (hl : 8 < len) : Calls Try.prog 25 #[pkv p a len cap] w fun e w' => e = .returned (.bool false) ∧ Below w.heap.size w w' := by
  have B1 : Below w.heap.size w (w.alloc (pkObj p a len cap)) := (Below.refl _ _).alloc (Nat.le_refl _) _
  clear R
  go_enter Try.func25, Try.ntmps25
  go_wp2_with (first | (go_at_call 48; refine (rnode_any _ _).mono ?_; rintro e w1 ⟨rfl, hw⟩; rw [hw]; clear hw; first | rw [f0] | rw [f1] | skip) | (go_at_call 49; refine (within_any _ _ _ _).mono ?_; rintro e w1 ⟨rfl, hw⟩; rw [hw]; clear hw; first | rw [f3] | rw [f4] | rw [g5] | rw [g6] | skip))
  all_goals go_ret
  all_goals exact ⟨by first | rfl | exact ret_bool (by simp_all), B1⟩

end Go.Proofs.Yteoiogjaecpddaa.P

namespace Go.Proofs.Yteoiogjaecpddaa.P
open Go.ChangeShapes Go.WideShapes Go.ChangeAt Go.RowKit
set_option linter.unusedVariables false
set_option linter.unusedSimpArgs false

theorem beq0 (n : Nat) : (n == 0) = ((n : Int) == 0) := by rw [Bool.eq_iff_iff]; simp
theorem rfit_any (p : Pkt) (a : Option Addr) (len cap : Nat) (w : World) (R : RowI w a len cap p.items) : Calls Try.prog 25 #[pkv p a len cap] w fun e w' => e = .returned (.bool (fitP p)) ∧ Below w.heap.size w w' := by
  rw [fitP_eq]
  have hsz := R.size
  by_cases k1 : 1 ≤ p.kind
  case neg => rw [show inB p.kind 1 5 = false by simp [inB]; omega]; exact rfit_h0 p (by omega) a len cap w R
  by_cases k2 : p.kind ≤ 5
  case neg => rw [show inB p.kind 1 5 = false by simp [inB]; omega]; exact rfit_h1 p k1 (by omega) a len cap w R
  rw [show inB p.kind 1 5 = true by simp [inB]; omega]
  cases f0 : nodeB p.src with
  | false => simpa using rfit_h2 p k1 k2 f0 a len cap w R
  | true =>
  cases f1 : nodeB p.dst with
  | false => simpa using rfit_h3 p k1 k2 f0 f1 a len cap w R
  | true =>
  cases f2 : (p.src == p.dst) with
  | true => rw [show (p.src != p.dst) = false by simp [bne, f2]]; simpa using rfit_h4 p k1 k2 f0 f1 f2 a len cap w R
  | false =>
  rw [show (p.src != p.dst) = true by simp [bne, f2]]
  cases f3 : inB p.boot 1 1099511627776 with
  | false => rw [show incB p.boot p.life = false by simp [incB, f3]]; simpa using rfit_h5 p k1 k2 f0 f1 f2 f3 a len cap w R
  | true =>
  cases f4 : inB p.life 0 1099511627776 with
  | false => rw [show incB p.boot p.life = false by simp [incB, f4]]; simpa using rfit_h6 p k1 k2 f0 f1 f2 f3 f4 a len cap w R
  | true =>
  rw [show incB p.boot p.life = true by simp [incB, f3, f4]]
  cases e1 : (p.kind == 1) with
  | true =>
    have hk : p.kind = 1 := by simpa using e1
    have n3 : (p.kind != 3) = true := by rw [hk]; rfl
    have n4 : (p.kind != 4) = true := by rw [hk]; rfl
    have hl : listB p = ((len : Int) == 0) := by rw [listB, n3, n4, hsz]; exact beq0 len
    cases g1 : (p.echo != 0) with
    | true => rw [show echoB p = false by simp only [echoB, e1, if_true]; simp [bne] at g1; simp [g1]]; simpa using rfit_e0 p k1 k2 f0 f1 f2 f3 f4 e1 g1 a len cap w R
    | false =>
    cases g2 : (p.echoLife != 0) with
    | true => rw [show echoB p = false by simp only [echoB, e1, if_true]; simp [bne] at g2; simp [g2]]; simpa using rfit_e1 p k1 k2 f0 f1 f2 f3 f4 e1 g1 g2 a len cap w R
    | false =>
    rw [show echoB p = true by simp only [echoB, e1, if_true]; simp [bne] at g1 g2; simp [g1, g2], hl]
    simpa using rfit_n1 p k1 k2 f0 f1 f2 f3 f4 e1 g1 g2 n3 n4 a len cap w R
  | false =>
    have hE : echoB p = (inB p.echo 1 1099511627776 && inB p.echoLife 0 1099511627776) := by simp only [echoB, e1]; rfl
    cases g5 : inB p.echo 1 1099511627776 with
    | false => rw [hE, g5]; simpa using rfit_e2 p k1 k2 f0 f1 f2 f3 f4 e1 g5 a len cap w R
    | true =>
    cases g6 : inB p.echoLife 0 1099511627776 with
    | false => rw [hE, g5, g6]; simpa using rfit_e3 p k1 k2 f0 f1 f2 f3 f4 e1 g5 g6 a len cap w R
    | true =>
    rw [hE, g5, g6]
    cases n3 : (p.kind != 3) with
    | true =>
      cases n4 : (p.kind != 4) with
      | true =>
        have hl : listB p = ((len : Int) == 0) := by rw [listB, n3, n4, hsz]; exact beq0 len
        rw [hl]
        simpa using rfit_n2 p k1 k2 f0 f1 f2 f3 f4 e1 g5 g6 n3 n4 a len cap w R
      | false =>
        by_cases hl : len ≤ 8
        · have h : listB p = itemsB p.items := by rw [listB, n3, n4, hsz]; simp [hl]
          rw [h]
          simpa using rfit_i4 p k1 k2 f0 f1 f2 f3 f4 e1 g5 g6 n3 n4 a len cap w R hl
        · have h : listB p = false := by rw [listB, n3, n4, hsz]; simp [hl]
          rw [h]
          simpa using rfit_l4 p k1 k2 f0 f1 f2 f3 f4 e1 g5 g6 n3 n4 a len cap w R (by omega)
    | false =>
      by_cases hl : len ≤ 8
      · have h : listB p = itemsB p.items := by rw [listB, n3, hsz]; simp [hl]
        rw [h]
        simpa using rfit_i3 p k1 k2 f0 f1 f2 f3 f4 e1 g5 g6 n3 a len cap w R hl
      · have h : listB p = false := by rw [listB, n3, hsz]; simp [hl]
        rw [h]
        simpa using rfit_l3 p k1 k2 f0 f1 f2 f3 f4 e1 g5 g6 n3 a len cap w R (by omega)

end Go.Proofs.Yteoiogjaecpddaa.P

namespace Go.Proofs.Yteoiogjaecpddaa.P
open Go.ChangeShapes Go.WideShapes Go.ChangeAt Go.RowKit
set_option linter.unusedVariables false

theorem cell_int {P : Program} {w : World} {r : Reach} {b t : Nat} {k : IntKind} {v : Value} (ht : P.underlying t = some (.int k)) (h : Cell.okWide P w r b t v) : ∃ n, v = .int k n ∧ k.has n := by
  simp only [Cell.okWide, Cell.ok, ht] at h
  cases v <;> simp_all
theorem cell_bool {P : Program} {w : World} {r : Reach} {b t : Nat} {v : Value} (ht : P.underlying t = some .bool) (h : Cell.okWide P w r b t v) : ∃ n, v = .bool n := by
  simp only [Cell.okWide, Cell.ok, ht] at h
  cases v <;> simp_all
theorem cell_string {P : Program} {w : World} {r : Reach} {b t : Nat} {v : Value} (ht : P.underlying t = some .string) (h : Cell.okWide P w r b t v) : ∃ n, v = .string n ∧ (n.size : Int) ≤ IntKind.i64.max := by
  simp only [Cell.okWide, Cell.ok, ht] at h
  cases v <;> simp_all
theorem okWide_cell {P : Program} {w : World} {r : Reach} {b t : Nat} {v : Value} (h : Value.okWide P w r b t v) (ht : (match P.underlying t with | some (.struct _) => false | some (.array _ _) => false | _ => true) = true) : Cell.okWide P w r b t v := by
  unfold Value.okWide at h
  split at h <;> simp_all

/-- The numbers of an item are 64 bits wide. -/
structure itWf (x : Itm) : Prop where
  name : (x.name.size : Int) ≤ IntKind.i64.max
  epoch : IntKind.i64.has x.epoch
  maker : IntKind.i64.has x.maker
  kind : IntKind.i64.has x.kind
  scale : IntKind.i64.has x.scale
  ver : IntKind.i64.has x.ver
  writer : IntKind.i64.has x.writer
  flow : IntKind.i64.has x.flow
  rest : IntKind.i64.has x.rest
  mnv : IntKind.i64.has x.mn.value
  mno : IntKind.i64.has x.mn.origin
  mna : IntKind.i64.has x.mn.age
  mxv : IntKind.i64.has x.mx.value
  mxo : IntKind.i64.has x.mx.origin
  mxa : IntKind.i64.has x.mx.age
theorem cells38 : Try.prog.cellsOf 79 = 19 := by kernel_rfl
theorem types38 : Try.prog.cellTypes Try.prog.depth 79 = some [9, 2, 3, 4, 3, 2, 2, 3, 2, 4, 2, 4, 2, 3, 2, 4, 2, 3, 2] := by kernel_rfl
set_option maxRecDepth 100000 in
theorem open_item {w : World} {r : Reach} {b : Nat} {v : Value} (h : Value.okWide Try.prog w r b 79 v) : ∃ x : Itm, v = itv x ∧ itWf x := by
  simp only [Value.okWide, Try.underlying79] at h
  obtain ⟨cs, rfl, hsz, ts, hts, _, hc⟩ := h
  rw [cells38] at hsz
  rw [types38] at hts
  cases hts
  have key : ∀ (i : Nat) (t : Nat), i < 19 → [9, 2, 3, 4, 3, 2, 2, 3, 2, 4, 2, 4, 2, 3, 2, 4, 2, 3, 2][i]? = some t → ∃ v, cs[i]? = some v ∧ Cell.okWide Try.prog w r b t v := by
    intro i t hi ht
    have hlt : i < cs.size := by rw [hsz]; exact hi
    obtain ⟨u, hu, hk⟩ := hc i (cs[i]'hlt) (Array.getElem?_eq_getElem hlt)
    rw [show ([9, 2, 3, 4, 3, 2, 2, 3, 2, 4, 2, 4, 2, 3, 2, 4, 2, 3, 2] : List Nat).length = 19 from rfl, Nat.mod_eq_of_lt hi, ht] at hu
    cases hu
    exact ⟨_, Array.getElem?_eq_getElem hlt, hk⟩
  obtain ⟨v0, c0, k0⟩ := key 0 9 (by omega) rfl
  obtain ⟨v1, c1, k1⟩ := key 1 2 (by omega) rfl
  obtain ⟨v2, c2, k2⟩ := key 2 3 (by omega) rfl
  obtain ⟨v3, c3, k3⟩ := key 3 4 (by omega) rfl
  obtain ⟨v4, c4, k4⟩ := key 4 3 (by omega) rfl
  obtain ⟨v5, c5, k5⟩ := key 5 2 (by omega) rfl
  obtain ⟨v6, c6, k6⟩ := key 6 2 (by omega) rfl
  obtain ⟨v7, c7, k7⟩ := key 7 3 (by omega) rfl
  obtain ⟨v8, c8, k8⟩ := key 8 2 (by omega) rfl
  obtain ⟨v9, c9, k9⟩ := key 9 4 (by omega) rfl
  obtain ⟨v10, c10, k10⟩ := key 10 2 (by omega) rfl
  obtain ⟨v11, c11, k11⟩ := key 11 4 (by omega) rfl
  obtain ⟨v12, c12, k12⟩ := key 12 2 (by omega) rfl
  obtain ⟨v13, c13, k13⟩ := key 13 3 (by omega) rfl
  obtain ⟨v14, c14, k14⟩ := key 14 2 (by omega) rfl
  obtain ⟨v15, c15, k15⟩ := key 15 4 (by omega) rfl
  obtain ⟨v16, c16, k16⟩ := key 16 2 (by omega) rfl
  obtain ⟨v17, c17, k17⟩ := key 17 3 (by omega) rfl
  obtain ⟨v18, c18, k18⟩ := key 18 2 (by omega) rfl
  obtain ⟨x0, rfl, h0⟩ := cell_string Try.underlying9 k0
  obtain ⟨x1, rfl, h1⟩ := cell_int Try.underlying2 k1
  obtain ⟨x2, rfl, h2⟩ := cell_int Try.underlying3 k2
  obtain ⟨x3, rfl⟩ := cell_bool Try.underlying4 k3
  obtain ⟨x4, rfl, h4⟩ := cell_int Try.underlying3 k4
  obtain ⟨x5, rfl, h5⟩ := cell_int Try.underlying2 k5
  obtain ⟨x6, rfl, h6⟩ := cell_int Try.underlying2 k6
  obtain ⟨x7, rfl, h7⟩ := cell_int Try.underlying3 k7
  obtain ⟨x8, rfl, h8⟩ := cell_int Try.underlying2 k8
  obtain ⟨x9, rfl⟩ := cell_bool Try.underlying4 k9
  obtain ⟨x10, rfl, h10⟩ := cell_int Try.underlying2 k10
  obtain ⟨x11, rfl⟩ := cell_bool Try.underlying4 k11
  obtain ⟨x12, rfl, h12⟩ := cell_int Try.underlying2 k12
  obtain ⟨x13, rfl, h13⟩ := cell_int Try.underlying3 k13
  obtain ⟨x14, rfl, h14⟩ := cell_int Try.underlying2 k14
  obtain ⟨x15, rfl⟩ := cell_bool Try.underlying4 k15
  obtain ⟨x16, rfl, h16⟩ := cell_int Try.underlying2 k16
  obtain ⟨x17, rfl, h17⟩ := cell_int Try.underlying3 k17
  obtain ⟨x18, rfl, h18⟩ := cell_int Try.underlying2 k18
  refine ⟨⟨x0, x1, x2, x3, x4, x5, x6, x7, x8, x9, x10, ⟨x11, x12, x13, x14⟩, ⟨x15, x16, x17, x18⟩⟩, ?_, ⟨h0, h1, h2, h4, h5, h6, h7, h8, h10, h12, h13, h14, h16, h17, h18⟩⟩
  have e : cs = (itc ⟨x0, x1, x2, x3, x4, x5, x6, x7, x8, x9, x10, ⟨x11, x12, x13, x14⟩, ⟨x15, x16, x17, x18⟩⟩).toArray := by
    apply Array.ext_getElem?
    intro i
    by_cases hi : i < 19
    · match i, hi with
      | 0, _ => exact c0
      | 1, _ => exact c1
      | 2, _ => exact c2
      | 3, _ => exact c3
      | 4, _ => exact c4
      | 5, _ => exact c5
      | 6, _ => exact c6
      | 7, _ => exact c7
      | 8, _ => exact c8
      | 9, _ => exact c9
      | 10, _ => exact c10
      | 11, _ => exact c11
      | 12, _ => exact c12
      | 13, _ => exact c13
      | 14, _ => exact c14
      | 15, _ => exact c15
      | 16, _ => exact c16
      | 17, _ => exact c17
      | 18, _ => exact c18
      | n + 19, h => exact absurd h (by omega)
    · rw [Array.getElem?_eq_none (by omega), Array.getElem?_eq_none (by simp [itc]; omega)]
  rw [e]
  rfl

end Go.Proofs.Yteoiogjaecpddaa.P

namespace Go.Proofs.Yteoiogjaecpddaa.P
open Go.ChangeShapes Go.WideShapes Go.ChangeAt Go.RowKit Go.Deep
set_option linter.unusedVariables false
set_option linter.unusedSimpArgs false
set_option maxRecDepth 100000

theorem cn2 : Try.prog.cellsOf 2 = 1 := by kernel_rfl
theorem cn3 : Try.prog.cellsOf 3 = 1 := by kernel_rfl
theorem cn4 : Try.prog.cellsOf 4 = 1 := by kernel_rfl
theorem cn9 : Try.prog.cellsOf 9 = 1 := by kernel_rfl
theorem cn32 : Try.prog.cellsOf 73 = 6 := by kernel_rfl
theorem cn34 : Try.prog.cellsOf 75 = 3 := by kernel_rfl
theorem cn36 : Try.prog.cellsOf 77 = 4 := by kernel_rfl
theorem cn38 : Try.prog.cellsOf 79 = 19 := by kernel_rfl
theorem wf_bd {n : Int} (h : (Lit.int .i64 n).wf = true) : -9223372036854775808 ≤ n ∧ n ≤ 9223372036854775807 := by
  have h2 : IntKind.i64.max = 9223372036854775807 := rfl
  have h3 : IntKind.i64.min = -9223372036854775808 := rfl
  simp only [Lit.wf, Bool.and_eq_true, decide_eq_true_eq, h2, h3] at h
  exact h

section
variable {H : Type} {enc : TypeId × Value → H} {W : World} {base n : Nat} {sp : Nat → Bool} {held : Bool} {x : DataW H × List MemPlace}
theorem open_chan {v0 v1 v2 v3 v4 v5 : Value} (h : DataW.trod enc Try.prog W base sp held n 73 [v0, v1, v2, v3, v4, v5] = some x) :
    ∃ (x0 : ByteArray) (x1 : Int) (x2 : Int) (x3 : Bool) (x4 : Int) (x5 : Int), (v0 = .string x0 ∧ v1 = .int .i64 x1 ∧ v2 = .int .i64 x2 ∧ v3 = .bool x3 ∧ v4 = .int .i64 x4 ∧ v5 = .int .i64 x5) ∧ ((-9223372036854775808 ≤ x1 ∧ x1 ≤ 9223372036854775807) ∧ (-9223372036854775808 ≤ x2 ∧ x2 ≤ 9223372036854775807) ∧ (-9223372036854775808 ≤ x4 ∧ x4 ≤ 9223372036854775807) ∧ (-9223372036854775808 ≤ x5 ∧ x5 ≤ 9223372036854775807)) := by
  obtain ⟨xs, k, hk, hxy, _, hxl, hf⟩ := DataW.trod_struct Try.underlying73 h
  match xs, hxl with
  | [y0, y1, y2, y3, y4, y5], _ =>
  have e0 := hf 0 _ rfl
  have e1 := hf 1 _ rfl
  have e2 := hf 2 _ rfl
  have e3 := hf 3 _ rfl
  have e4 := hf 4 _ rfl
  have e5 := hf 5 _ rfl
  simp [cn9] at e0
  simp [cn2] at e1
  simp [cn3] at e2
  simp [cn4] at e3
  simp [cn3] at e4
  simp [cn2] at e5
  obtain ⟨x0, q0, _, w0⟩ := DataW.trod_string Try.underlying9 e0
  obtain ⟨x1, q1, _, w1⟩ := DataW.trod_int Try.underlying2 e1
  obtain ⟨x2, q2, _, w2⟩ := DataW.trod_int Try.underlying3 e2
  obtain ⟨x3, q3, _⟩ := DataW.trod_bool Try.underlying4 e3
  obtain ⟨x4, q4, _, w4⟩ := DataW.trod_int Try.underlying3 e4
  obtain ⟨x5, q5, _, w5⟩ := DataW.trod_int Try.underlying2 e5
  simp at q0 q1 q2 q3 q4 q5
  exact ⟨x0, x1, x2, x3, x4, x5, ⟨q0, q1, q2, q3, q4, q5⟩, wf_bd w1, wf_bd w2, wf_bd w4, wf_bd w5⟩
theorem open_reg {v0 v1 v2 : Value} (h : DataW.trod enc Try.prog W base sp held n 75 [v0, v1, v2] = some x) :
    ∃ (x0 : Int) (x1 : Int) (x2 : Int), (v0 = .int .i64 x0 ∧ v1 = .int .i64 x1 ∧ v2 = .int .i64 x2) ∧ ((-9223372036854775808 ≤ x0 ∧ x0 ≤ 9223372036854775807) ∧ (-9223372036854775808 ≤ x1 ∧ x1 ≤ 9223372036854775807) ∧ (-9223372036854775808 ≤ x2 ∧ x2 ≤ 9223372036854775807)) := by
  obtain ⟨xs, k, hk, hxy, _, hxl, hf⟩ := DataW.trod_struct Try.underlying75 h
  match xs, hxl with
  | [y0, y1, y2], _ =>
  have e0 := hf 0 _ rfl
  have e1 := hf 1 _ rfl
  have e2 := hf 2 _ rfl
  simp [cn2] at e0
  simp [cn3] at e1
  simp [cn2] at e2
  obtain ⟨x0, q0, _, w0⟩ := DataW.trod_int Try.underlying2 e0
  obtain ⟨x1, q1, _, w1⟩ := DataW.trod_int Try.underlying3 e1
  obtain ⟨x2, q2, _, w2⟩ := DataW.trod_int Try.underlying2 e2
  simp at q0 q1 q2
  exact ⟨x0, x1, x2, ⟨q0, q1, q2⟩, wf_bd w0, wf_bd w1, wf_bd w2⟩
theorem open_ext {v0 v1 v2 v3 : Value} (h : DataW.trod enc Try.prog W base sp held n 77 [v0, v1, v2, v3] = some x) :
    ∃ (x0 : Bool) (x1 : Int) (x2 : Int) (x3 : Int), (v0 = .bool x0 ∧ v1 = .int .i64 x1 ∧ v2 = .int .i64 x2 ∧ v3 = .int .i64 x3) ∧ ((-9223372036854775808 ≤ x1 ∧ x1 ≤ 9223372036854775807) ∧ (-9223372036854775808 ≤ x2 ∧ x2 ≤ 9223372036854775807) ∧ (-9223372036854775808 ≤ x3 ∧ x3 ≤ 9223372036854775807)) := by
  obtain ⟨xs, k, hk, hxy, _, hxl, hf⟩ := DataW.trod_struct Try.underlying77 h
  match xs, hxl with
  | [y0, y1, y2, y3], _ =>
  have e0 := hf 0 _ rfl
  have e1 := hf 1 _ rfl
  have e2 := hf 2 _ rfl
  have e3 := hf 3 _ rfl
  simp [cn4] at e0
  simp [cn2] at e1
  simp [cn3] at e2
  simp [cn2] at e3
  obtain ⟨x0, q0, _⟩ := DataW.trod_bool Try.underlying4 e0
  obtain ⟨x1, q1, _, w1⟩ := DataW.trod_int Try.underlying2 e1
  obtain ⟨x2, q2, _, w2⟩ := DataW.trod_int Try.underlying3 e2
  obtain ⟨x3, q3, _, w3⟩ := DataW.trod_int Try.underlying2 e3
  simp at q0 q1 q2 q3
  exact ⟨x0, x1, x2, x3, ⟨q0, q1, q2, q3⟩, wf_bd w1, wf_bd w2, wf_bd w3⟩
theorem open_itm {v0 v1 v2 v3 v4 v5 v6 v7 v8 v9 v10 v11 v12 v13 v14 v15 v16 v17 v18 : Value} (h : DataW.trod enc Try.prog W base sp held n 79 [v0, v1, v2, v3, v4, v5, v6, v7, v8, v9, v10, v11, v12, v13, v14, v15, v16, v17, v18] = some x) : ∃ y : Itm, [v0, v1, v2, v3, v4, v5, v6, v7, v8, v9, v10, v11, v12, v13, v14, v15, v16, v17, v18] = itc y := by
  obtain ⟨xs, k, hk, hxy, _, hxl, hf⟩ := DataW.trod_struct Try.underlying79 h
  match xs, hxl with
  | [y0, y1, y2, y3, y4, y5], _ =>
  have e0 := hf 0 _ rfl
  have e1 := hf 1 _ rfl
  have e2 := hf 2 _ rfl
  have e3 := hf 3 _ rfl
  have e4 := hf 4 _ rfl
  have e5 := hf 5 _ rfl
  simp [cn32] at e0
  simp [cn34] at e1
  simp [cn4] at e2
  simp [cn2] at e3
  simp [cn36] at e4
  simp [cn36] at e5
  obtain ⟨c0, c1, c2, c3, c4, c5, ⟨rfl, rfl, rfl, rfl, rfl, rfl⟩, _⟩ := open_chan e0
  obtain ⟨r0, r1, r2, ⟨rfl, rfl, rfl⟩, _, _, hr2⟩ := open_reg e1
  obtain ⟨hr, q2, _⟩ := DataW.trod_bool Try.underlying4 e2
  obtain ⟨re, q3, _, w3⟩ := DataW.trod_int Try.underlying2 e3
  obtain ⟨m0, m1, m2, m3, ⟨rfl, rfl, rfl, rfl⟩, hm1, _⟩ := open_ext e4
  obtain ⟨k0, k1, k2, k3, ⟨rfl, rfl, rfl, rfl⟩, hk1, _⟩ := open_ext e5
  simp at q2 q3
  subst q2 q3
  exact ⟨⟨c0, c1, c2, c3, c4, c5, r0, r1, r2, hr, re, ⟨m0, m1, m2, m3⟩, ⟨k0, k1, k2, k3⟩⟩, rfl⟩
theorem list19 {α : Type} {l : List α} (h : l.length = 19) : ∃ v0 v1 v2 v3 v4 v5 v6 v7 v8 v9 v10 v11 v12 v13 v14 v15 v16 v17 v18, l = [v0, v1, v2, v3, v4, v5, v6, v7, v8, v9, v10, v11, v12, v13, v14, v15, v16, v17, v18] := by
  match l, h with
  | [v0, v1, v2, v3, v4, v5, v6, v7, v8, v9, v10, v11, v12, v13, v14, v15, v16, v17, v18], _ => exact ⟨v0, v1, v2, v3, v4, v5, v6, v7, v8, v9, v10, v11, v12, v13, v14, v15, v16, v17, v18, rfl⟩
end

/-- The items of a packet that came in; sl: what the bound on all that came in says of them. -/
theorem open_its {H : Type} {enc : TypeId × Value → H} {W : World} {fuel : Nat} {v : Value} {x : DataW H × List MemPlace}
    (hf : DataW.trod enc Try.prog W 0 (fun _ => true) true fuel 38 [v] = some x) : ∃ (a : Option Addr) (len cap : Nat) (its : List Itm), v = .slice a len cap ∧ RowI W a len cap its ∧ (cap = 0 ∨ cap * 160 ∈ x.1.weights Try.prog 38) := by
  rcases open_slice Try.underlying38 hf with ⟨hcs, hx⟩ | ⟨ad, l, c, m, n, D, Pl, hcs, _, hl, hm, hmm, hx, hel⟩
  · simp at hcs
    subst hcs
    exact ⟨none, 0, 0, [], rfl, rowI_nil W, .inl rfl⟩
  · simp at hcs
    subst hcs
    have hmc : m = c := by simpa using hmm
    subst hmc
    rw [cn38] at hel
    have each : ∀ i, i < m → ∃ y : Itm, (∀ j v, (itc y)[j]? = some v → W.cell? ((ad.add (i * 19)).add j) = some v) := by
      intro i hi
      obtain ⟨cs', h1, h2⟩ := hel i hi
      obtain ⟨_, hlen, hcell⟩ := World.cells?_some h1
      obtain ⟨v0, v1, v2, v3, v4, v5, v6, v7, v8, v9, v10, v11, v12, v13, v14, v15, v16, v17, v18, rfl⟩ := list19 hlen
      obtain ⟨y, hy⟩ := open_itm h2
      refine ⟨y, fun j v hj => ?_⟩
      have hjl : j < 19 := (List.getElem?_eq_some_iff.1 hj).1
      have hc := hcell j hjl
      rw [hy] at hc
      rw [hc]
      exact hj
    haveI : Inhabited Itm := ⟨itZ⟩
    obtain ⟨F, hF⟩ := choose_lt each
    refine ⟨some ad, l, m, (List.range l).map F, rfl, ⟨by simp, hl, by unfold maxLen at hm; omega, fun h => (by cases h), ?_⟩, .inr ?_⟩
    · by_cases h0 : l = 0
      · exact .inl h0
      · obtain ⟨b, off, spot⟩ := ad
        have hc := (hF 0 (by omega)) 0 _ rfl
        have hspot : spot = none := by simpa [Addr.add] using World.cell?_spot hc
        subst hspot
        refine .inr ⟨b, off, rfl, World.block_lt_of_cell? _ _ hc, fun j hj => ?_⟩
        have hget : ((List.range l).map F).getD j itZ = F j := by simp [List.getD, hj]
        rw [hget]
        intro i v hv
        have := (hF j (by omega)) i v hv
        rw [add_plain, add_plain] at this
        exact this
    · rw [hx]
      simp only [DataW.weights, Try.underlying38, List.length_map, List.length_range]
      rw [show Try.prog.bytesOf 79 = 160 by kernel_rfl, show l + (m - l) = m by omega]
      exact List.mem_cons_self
theorem list8 {α : Type} {l : List α} (h : l.length = 8) : ∃ v0 v1 v2 v3 v4 v5 v6 v7, l = [v0, v1, v2, v3, v4, v5, v6, v7] := by
  match l, h with
  | [v0, v1, v2, v3, v4, v5, v6, v7], _ => exact ⟨v0, v1, v2, v3, v4, v5, v6, v7, rfl⟩
/-- A packet that came in. -/
theorem open_pkc {H : Type} {enc : TypeId × Value → H} {W : World} {fuel : Nat} {cs : List Value} {x : DataW H × List MemPlace} (hl : cs.length = 8)
    (hf : DataW.trod enc Try.prog W 0 (fun _ => true) true fuel 40 cs = some x) : ∃ (p : Pkt) (a : Option Addr) (len cap : Nat), cs = [.int .i64 p.kind, .int .i64 p.src, .int .i64 p.dst, .int .i64 p.boot, .int .i64 p.life, .int .i64 p.echo, .int .i64 p.echoLife, .slice a len cap] ∧ RowI W a len cap p.items ∧ (cap = 0 ∨ cap * 160 ∈ x.1.weights Try.prog 40) := by
  obtain ⟨v0, v1, v2, v3, v4, v5, v6, v7, rfl⟩ := list8 hl
  obtain ⟨xs, k, hk, hxy, _, hxl, hg⟩ := DataW.trod_struct Try.underlying40 hf
  match xs, hxl with
  | [y0, y1, y2, y3, y4, y5, y6, y7], _ =>
  have e0 := hg 0 _ rfl
  have e1 := hg 1 _ rfl
  have e2 := hg 2 _ rfl
  have e3 := hg 3 _ rfl
  have e4 := hg 4 _ rfl
  have e5 := hg 5 _ rfl
  have e6 := hg 6 _ rfl
  have e7 := hg 7 _ rfl
  simp [cn3] at e0 e1 e2
  simp [cn2] at e3 e4 e5 e6
  simp [show Try.prog.cellsOf 38 = 1 by kernel_rfl] at e7
  obtain ⟨x0, q0, _, _⟩ := DataW.trod_int Try.underlying3 e0
  obtain ⟨x1, q1, _, _⟩ := DataW.trod_int Try.underlying3 e1
  obtain ⟨x2, q2, _, _⟩ := DataW.trod_int Try.underlying3 e2
  obtain ⟨x3, q3, _, _⟩ := DataW.trod_int Try.underlying2 e3
  obtain ⟨x4, q4, _, _⟩ := DataW.trod_int Try.underlying2 e4
  obtain ⟨x5, q5, _, _⟩ := DataW.trod_int Try.underlying2 e5
  obtain ⟨x6, q6, _, _⟩ := DataW.trod_int Try.underlying2 e6
  simp at q0 q1 q2 q3 q4 q5 q6
  subst q0 q1 q2 q3 q4 q5 q6
  obtain ⟨a, len, cap, its, rfl, R, hw⟩ := open_its e7
  refine ⟨⟨x0, x1, x2, x3, x4, x5, x6, its⟩, a, len, cap, rfl, R, hw.imp id fun h => ?_⟩
  rw [hxy]
  simp only [DataW.weights, Try.underlying40, List.map_cons, List.map_nil, DataW.weightsEach, List.mem_append]
  simp only [h, or_true, true_or]
set_option maxRecDepth 100000 in
theorem open_pkt {H : Type} {enc : TypeId × Value → H} {W : World} {r : Reach} {b : Nat} {v : Value} {d : DataW H} {ps : List MemPlace} (hv : Value.okWide Try.prog W r b 40 v) (h : DataW.Trod enc Try.prog W 0 (fun _ => true) true 40 v d ps) :
    ∃ (p : Pkt) (a : Option Addr) (len cap : Nat), v = pkv p a len cap ∧ RowI W a len cap p.items ∧ (cap = 0 ∨ cap * 160 ∈ d.weights Try.prog 40) := by
  simp only [Value.okWide, Try.underlying40] at hv
  obtain ⟨cs, rfl, hsz, _⟩ := hv
  rw [show Try.prog.cellsOf 40 = 8 by kernel_rfl] at hsz
  obtain ⟨fuel, hf⟩ := h
  obtain ⟨p, a, len, cap, hcs, R, hw⟩ := open_pkc (x := (d, ps)) (by simpa [Value.cells] using hsz) hf
  refine ⟨p, a, len, cap, ?_, R, hw⟩
  have : cs = (cs.toList).toArray := by simp
  rw [this, show cs.toList = _ from hcs]

end Go.Proofs.Yteoiogjaecpddaa.P
