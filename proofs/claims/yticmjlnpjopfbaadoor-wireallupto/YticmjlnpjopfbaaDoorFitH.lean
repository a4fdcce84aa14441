/-
  Whether a packet is one (package wire).
-/
import Derived.Test.YticmjlnpjopfbaaDoorFitG
namespace Go.Proofs.YticmjlnpjopfbaaDoor
open Go.ChangeShapes Go.WideShapes Go.ChangeAt Go.RowKit
open C (ret_bool)
set_option linter.unusedVariables false
set_option linter.unusedSimpArgs false

def echoB (p : Pkt) : Bool := if p.kind == 1 then p.echo == 0 && p.echoLife == 0 else inB p.echo 1 1099511627776 && inB p.echoLife 0 1099511627776
def incB (b l : Int) : Bool := inB b 1 1099511627776 && inB l 0 1099511627776
theorem fitP_eq (p : Pkt) : fitP p = (inB p.kind 1 5 && nodeB p.src && nodeB p.dst && p.src != p.dst && incB p.boot p.life && echoB p && listB p) := by
  simp [fitP, headB, incB, echoB, Bool.and_assoc]
theorem incarnation_inc (b l : Int) (w : World) : Calls Tryd.prog 28 #[.int .i64 b, .int .i64 l] w fun e w' => e = .returned (.bool (incB b l)) ∧ w' = w := incarnation_any b l w
theorem echo_ech (p : Pkt) (a : Option Addr) (len cap : Nat) (w : World) : Calls Tryd.prog 29 #[pkv p a len cap] w fun e w' => e = .returned (.bool (echoB p)) ∧ w' = w.alloc (pkObj p a len cap) := echo_any p a len cap w

/-- A packet lies there, as a whole. -/
theorem pk_cells (w : World) (p : Pkt) (a : Option Addr) (len cap : Nat) (W : World) (hb : W.heap[w.heap.size]? = (w.alloc (pkObj p a len cap)).heap[w.heap.size]?) :
    ∀ j v, [Value.int .i64 p.kind, .int .i64 p.src, .int .i64 p.dst, .int .i64 p.boot, .int .i64 p.life, .int .i64 p.echo, .int .i64 p.echoLife, .slice a len cap][j]? = some v → W.cell? ⟨w.heap.size, 0 + j, none⟩ = some v := by
  intro j v hj
  rw [cell_of_row _ _ _ _ 24 _ (hb.trans (World.alloc_heap_new w _)), Nat.zero_add]
  simpa using hj
theorem wpList_load24 {ops : Array Oper} {rest : List Oper} {o : Oper} {a : Act} {W : World} {Q : Exit → Act → World → Prop} (x : Operand) (ho : o.op = .load 24 x)
    (hw : Region.wanted o (yielded ops a.tmps) = true) (w : World) (p : Pkt) (ad : Option Addr) (len cap : Nat) (hx : a.eval x = .pointer (some ⟨w.heap.size, 0, none⟩)) (hb : W.heap[w.heap.size]? = (w.alloc (pkObj p ad len cap)).heap[w.heap.size]?)
    (h : wpList Tryd.prog ops Q rest (a.put o.dst (pkv p ad len cap)) W) : wpList Tryd.prog ops Q (o :: rest) a W :=
  wpList_step fun K hK => by
    rw [if_pos hw]
    exact wp_load_agg 24 x ho w.heap.size 0 hx _ _ (pk_cells w p ad len cap W hb) Tryd.underlying24 rfl (by kernel_rfl) (hK _ _ h)

set_option maxRecDepth 100000 in
set_option maxHeartbeats 2000000 in
theorem fit_k1 (p : Pkt) (k1 : p.kind < 1) (a : Option Addr) (len cap : Nat) (w : World) (R : RowI w a len cap p.items) : Calls Tryd.prog 10 #[pkv p a len cap] w fun e w' => e = .returned (.bool false) ∧ Below w.heap.size w w' := by
  have B1 : Below w.heap.size w (w.alloc (pkObj p a len cap)) := (Below.refl _ _).alloc (Nat.le_refl _) _
  have B2 : Below w.heap.size w ((w.alloc (pkObj p a len cap)).alloc (pkObj p a len cap)) := B1.alloc (by simp) _
  have HR2 : Hid (RowI ((w.alloc (pkObj p a len cap)).alloc (pkObj p a len cap)) a len cap p.items) := (R.alloc _).alloc _
  clear R
  clear HR2
  go_enter Tryd.func10, Tryd.ntmps10
  go_wp2
  all_goals go_ret
  all_goals exact ⟨rfl, B1⟩
set_option maxRecDepth 100000 in
set_option maxHeartbeats 2000000 in
theorem fit_k2 (p : Pkt) (k1 : 1 ≤ p.kind) (k2 : 5 < p.kind) (a : Option Addr) (len cap : Nat) (w : World) (R : RowI w a len cap p.items) : Calls Tryd.prog 10 #[pkv p a len cap] w fun e w' => e = .returned (.bool false) ∧ Below w.heap.size w w' := by
  have B1 : Below w.heap.size w (w.alloc (pkObj p a len cap)) := (Below.refl _ _).alloc (Nat.le_refl _) _
  have B2 : Below w.heap.size w ((w.alloc (pkObj p a len cap)).alloc (pkObj p a len cap)) := B1.alloc (by simp) _
  have HR2 : Hid (RowI ((w.alloc (pkObj p a len cap)).alloc (pkObj p a len cap)) a len cap p.items) := (R.alloc _).alloc _
  clear R
  clear HR2
  go_enter Tryd.func10, Tryd.ntmps10
  go_wp2
  all_goals go_ret
  all_goals exact ⟨rfl, B1⟩
set_option maxRecDepth 100000 in
set_option maxHeartbeats 2000000 in
theorem fit_0 (p : Pkt) (k1 : 1 ≤ p.kind) (k2 : p.kind ≤ 5)  (f0 : nodeB p.src = false) (a : Option Addr) (len cap : Nat) (w : World) (R : RowI w a len cap p.items) : Calls Tryd.prog 10 #[pkv p a len cap] w fun e w' => e = .returned (.bool false) ∧ Below w.heap.size w w' := by
  have B1 : Below w.heap.size w (w.alloc (pkObj p a len cap)) := (Below.refl _ _).alloc (Nat.le_refl _) _
  have B2 : Below w.heap.size w ((w.alloc (pkObj p a len cap)).alloc (pkObj p a len cap)) := B1.alloc (by simp) _
  have HR2 : Hid (RowI ((w.alloc (pkObj p a len cap)).alloc (pkObj p a len cap)) a len cap p.items) := (R.alloc _).alloc _
  clear R
  go_enter Tryd.func10, Tryd.ntmps10
  go_wp2_with (first
    | (go_at_call 27; refine (node_any _ _).mono ?_; rintro e w1 ⟨rfl, hw⟩; rw [hw]; clear hw)
    | ((with_reducible show wpList _ _ _ (Oper.mk _ (Op.load 24 _) _ _ _ _ :: _) _ _); refine wpList_load24 _ rfl ?_ w p a len cap ?_ ?_ ?_; rfl; rfl; (first | rfl | exact Below.heap_alloc _ _ _ (by simp))))
  all_goals go_ret
  all_goals exact ⟨rfl, by first | exact B1 | exact B2 | exact B2.trans (hb1.mono (by simp; omega))⟩
set_option maxRecDepth 100000 in
set_option maxHeartbeats 2000000 in
theorem fit_1 (p : Pkt) (k1 : 1 ≤ p.kind) (k2 : p.kind ≤ 5) (f0 : nodeB p.src = true) (f1 : nodeB p.dst = false) (a : Option Addr) (len cap : Nat) (w : World) (R : RowI w a len cap p.items) : Calls Tryd.prog 10 #[pkv p a len cap] w fun e w' => e = .returned (.bool false) ∧ Below w.heap.size w w' := by
  have B1 : Below w.heap.size w (w.alloc (pkObj p a len cap)) := (Below.refl _ _).alloc (Nat.le_refl _) _
  have B2 : Below w.heap.size w ((w.alloc (pkObj p a len cap)).alloc (pkObj p a len cap)) := B1.alloc (by simp) _
  have HR2 : Hid (RowI ((w.alloc (pkObj p a len cap)).alloc (pkObj p a len cap)) a len cap p.items) := (R.alloc _).alloc _
  clear R
  go_enter Tryd.func10, Tryd.ntmps10
  go_wp2_with (first
    | (go_at_call 27; refine (node_any _ _).mono ?_; rintro e w1 ⟨rfl, hw⟩; rw [hw]; clear hw)
    | ((with_reducible show wpList _ _ _ (Oper.mk _ (Op.load 24 _) _ _ _ _ :: _) _ _); refine wpList_load24 _ rfl ?_ w p a len cap ?_ ?_ ?_; rfl; rfl; (first | rfl | exact Below.heap_alloc _ _ _ (by simp))))
  all_goals go_ret
  all_goals exact ⟨rfl, by first | exact B1 | exact B2 | exact B2.trans (hb1.mono (by simp; omega))⟩
set_option maxRecDepth 100000 in
set_option maxHeartbeats 2000000 in
theorem fit_2 (p : Pkt) (k1 : 1 ≤ p.kind) (k2 : p.kind ≤ 5) (f0 : nodeB p.src = true) (f1 : nodeB p.dst = true) (f2 : (p.src != p.dst) = false) (a : Option Addr) (len cap : Nat) (w : World) (R : RowI w a len cap p.items) : Calls Tryd.prog 10 #[pkv p a len cap] w fun e w' => e = .returned (.bool false) ∧ Below w.heap.size w w' := by
  have B1 : Below w.heap.size w (w.alloc (pkObj p a len cap)) := (Below.refl _ _).alloc (Nat.le_refl _) _
  have B2 : Below w.heap.size w ((w.alloc (pkObj p a len cap)).alloc (pkObj p a len cap)) := B1.alloc (by simp) _
  have HR2 : Hid (RowI ((w.alloc (pkObj p a len cap)).alloc (pkObj p a len cap)) a len cap p.items) := (R.alloc _).alloc _
  clear R
  go_enter Tryd.func10, Tryd.ntmps10
  go_wp2_with (first
    | (go_at_call 27; refine (node_any _ _).mono ?_; rintro e w1 ⟨rfl, hw⟩; rw [hw]; clear hw)
    | ((with_reducible show wpList _ _ _ (Oper.mk _ (Op.load 24 _) _ _ _ _ :: _) _ _); refine wpList_load24 _ rfl ?_ w p a len cap ?_ ?_ ?_; rfl; rfl; (first | rfl | exact Below.heap_alloc _ _ _ (by simp))))
  all_goals go_ret
  all_goals exact ⟨rfl, by first | exact B1 | exact B2 | exact B2.trans (hb1.mono (by simp; omega))⟩
set_option maxRecDepth 100000 in
set_option maxHeartbeats 2000000 in
theorem fit_3 (p : Pkt) (k1 : 1 ≤ p.kind) (k2 : p.kind ≤ 5) (f0 : nodeB p.src = true) (f1 : nodeB p.dst = true) (f2 : (p.src != p.dst) = true) (f3 : incB p.boot p.life = false) (a : Option Addr) (len cap : Nat) (w : World) (R : RowI w a len cap p.items) : Calls Tryd.prog 10 #[pkv p a len cap] w fun e w' => e = .returned (.bool false) ∧ Below w.heap.size w w' := by
  have B1 : Below w.heap.size w (w.alloc (pkObj p a len cap)) := (Below.refl _ _).alloc (Nat.le_refl _) _
  have B2 : Below w.heap.size w ((w.alloc (pkObj p a len cap)).alloc (pkObj p a len cap)) := B1.alloc (by simp) _
  have HR2 : Hid (RowI ((w.alloc (pkObj p a len cap)).alloc (pkObj p a len cap)) a len cap p.items) := (R.alloc _).alloc _
  clear R
  go_enter Tryd.func10, Tryd.ntmps10
  go_wp2_with (first
    | (go_at_call 27; refine (node_any _ _).mono ?_; rintro e w1 ⟨rfl, hw⟩; rw [hw]; clear hw)
    | ((with_reducible show wpList _ _ _ (Oper.mk _ (Op.load 24 _) _ _ _ _ :: _) _ _); refine wpList_load24 _ rfl ?_ w p a len cap ?_ ?_ ?_; rfl; rfl; (first | rfl | exact Below.heap_alloc _ _ _ (by simp)))
    | (go_at_call 28; refine (incarnation_inc _ _ _).mono ?_; rintro e w1 ⟨rfl, hw⟩; rw [hw, f3]; clear hw))
  all_goals go_ret
  all_goals exact ⟨rfl, by first | exact B1 | exact B2 | exact B2.trans (hb1.mono (by simp; omega))⟩
set_option maxRecDepth 100000 in
set_option maxHeartbeats 2000000 in
theorem fit_4 (p : Pkt) (k1 : 1 ≤ p.kind) (k2 : p.kind ≤ 5) (f0 : nodeB p.src = true) (f1 : nodeB p.dst = true) (f2 : (p.src != p.dst) = true) (f3 : incB p.boot p.life = true) (f4 : echoB p = false) (a : Option Addr) (len cap : Nat) (w : World) (R : RowI w a len cap p.items) : Calls Tryd.prog 10 #[pkv p a len cap] w fun e w' => e = .returned (.bool false) ∧ Below w.heap.size w w' := by
  have B1 : Below w.heap.size w (w.alloc (pkObj p a len cap)) := (Below.refl _ _).alloc (Nat.le_refl _) _
  have B2 : Below w.heap.size w ((w.alloc (pkObj p a len cap)).alloc (pkObj p a len cap)) := B1.alloc (by simp) _
  have HR2 : Hid (RowI ((w.alloc (pkObj p a len cap)).alloc (pkObj p a len cap)) a len cap p.items) := (R.alloc _).alloc _
  clear R
  go_enter Tryd.func10, Tryd.ntmps10
  go_wp2_with (first
    | (go_at_call 27; refine (node_any _ _).mono ?_; rintro e w1 ⟨rfl, hw⟩; rw [hw]; clear hw)
    | ((with_reducible show wpList _ _ _ (Oper.mk _ (Op.load 24 _) _ _ _ _ :: _) _ _); refine wpList_load24 _ rfl ?_ w p a len cap ?_ ?_ ?_; rfl; rfl; (first | rfl | exact Below.heap_alloc _ _ _ (by simp)))
    | (go_at_call 28; refine (incarnation_inc _ _ _).mono ?_; rintro e w1 ⟨rfl, hw⟩; rw [hw, f3]; clear hw)
    | (go_at_call 29; refine (echo_ech p a len cap _).mono ?_; rintro e w1 ⟨rfl, hw⟩; rw [hw, f4]; clear hw))
  all_goals go_ret
  all_goals exact ⟨rfl, by first | exact B1 | exact B2 | exact B2.trans (hb1.mono (by simp; omega))⟩
set_option maxRecDepth 100000 in
set_option maxHeartbeats 2000000 in
theorem fit_5 (p : Pkt) (k1 : 1 ≤ p.kind) (k2 : p.kind ≤ 5) (f0 : nodeB p.src = true) (f1 : nodeB p.dst = true) (f2 : (p.src != p.dst) = true) (f3 : incB p.boot p.life = true) (f4 : echoB p = true) (f5 : listB p = false) (a : Option Addr) (len cap : Nat) (w : World) (R : RowI w a len cap p.items) : Calls Tryd.prog 10 #[pkv p a len cap] w fun e w' => e = .returned (.bool false) ∧ Below w.heap.size w w' := by
  have B1 : Below w.heap.size w (w.alloc (pkObj p a len cap)) := (Below.refl _ _).alloc (Nat.le_refl _) _
  have B2 : Below w.heap.size w ((w.alloc (pkObj p a len cap)).alloc (pkObj p a len cap)) := B1.alloc (by simp) _
  have HR2 : Hid (RowI ((w.alloc (pkObj p a len cap)).alloc (pkObj p a len cap)) a len cap p.items) := (R.alloc _).alloc _
  clear R
  go_enter Tryd.func10, Tryd.ntmps10
  go_wp2_with (first
    | (go_at_call 27; refine (node_any _ _).mono ?_; rintro e w1 ⟨rfl, hw⟩; rw [hw]; clear hw)
    | ((with_reducible show wpList _ _ _ (Oper.mk _ (Op.load 24 _) _ _ _ _ :: _) _ _); refine wpList_load24 _ rfl ?_ w p a len cap ?_ ?_ ?_; rfl; rfl; (first | rfl | exact Below.heap_alloc _ _ _ (by simp)))
    | (go_at_call 28; refine (incarnation_inc _ _ _).mono ?_; rintro e w1 ⟨rfl, hw⟩; rw [hw, f3]; clear hw)
    | (go_at_call 29; refine (echo_ech p a len cap _).mono ?_; rintro e w1 ⟨rfl, hw⟩; rw [hw, f4]; clear hw)
    | (go_at_call 30; refine (items_any p a len cap _ HR2.out).mono ?_; rintro e w1 ⟨rfl, hb1⟩; rw [f5]))
  all_goals go_ret
  all_goals exact ⟨rfl, by first | exact B1 | exact B2 | exact B2.trans (hb1.mono (by simp; omega))⟩
set_option maxRecDepth 100000 in
set_option maxHeartbeats 2000000 in
theorem fit_6 (p : Pkt) (k1 : 1 ≤ p.kind) (k2 : p.kind ≤ 5) (f0 : nodeB p.src = true) (f1 : nodeB p.dst = true) (f2 : (p.src != p.dst) = true) (f3 : incB p.boot p.life = true) (f4 : echoB p = true) (f5 : listB p = true) (a : Option Addr) (len cap : Nat) (w : World) (R : RowI w a len cap p.items) : Calls Tryd.prog 10 #[pkv p a len cap] w fun e w' => e = .returned (.bool true) ∧ Below w.heap.size w w' := by
  have B1 : Below w.heap.size w (w.alloc (pkObj p a len cap)) := (Below.refl _ _).alloc (Nat.le_refl _) _
  have B2 : Below w.heap.size w ((w.alloc (pkObj p a len cap)).alloc (pkObj p a len cap)) := B1.alloc (by simp) _
  have HR2 : Hid (RowI ((w.alloc (pkObj p a len cap)).alloc (pkObj p a len cap)) a len cap p.items) := (R.alloc _).alloc _
  clear R
  go_enter Tryd.func10, Tryd.ntmps10
  go_wp2_with (first
    | (go_at_call 27; refine (node_any _ _).mono ?_; rintro e w1 ⟨rfl, hw⟩; rw [hw]; clear hw)
    | ((with_reducible show wpList _ _ _ (Oper.mk _ (Op.load 24 _) _ _ _ _ :: _) _ _); refine wpList_load24 _ rfl ?_ w p a len cap ?_ ?_ ?_; rfl; rfl; (first | rfl | exact Below.heap_alloc _ _ _ (by simp)))
    | (go_at_call 28; refine (incarnation_inc _ _ _).mono ?_; rintro e w1 ⟨rfl, hw⟩; rw [hw, f3]; clear hw)
    | (go_at_call 29; refine (echo_ech p a len cap _).mono ?_; rintro e w1 ⟨rfl, hw⟩; rw [hw, f4]; clear hw)
    | (go_at_call 30; refine (items_any p a len cap _ HR2.out).mono ?_; rintro e w1 ⟨rfl, hb1⟩; rw [f5]))
  all_goals go_ret
  all_goals exact ⟨rfl, by first | exact B1 | exact B2 | exact B2.trans (hb1.mono (by simp; omega))⟩
theorem fit_any (p : Pkt) (a : Option Addr) (len cap : Nat) (w : World) (R : RowI w a len cap p.items) : Calls Tryd.prog 10 #[pkv p a len cap] w fun e w' => e = .returned (.bool (fitP p)) ∧ Below w.heap.size w w' := by
  rw [fitP_eq]
  by_cases k1 : 1 ≤ p.kind
  case neg => rw [show inB p.kind 1 5 = false by simp [inB]; omega]; exact fit_k1 p (by omega) a len cap w R
  by_cases k2 : p.kind ≤ 5
  case neg => rw [show inB p.kind 1 5 = false by simp [inB]; omega]; exact fit_k2 p k1 (by omega) a len cap w R
  rw [show inB p.kind 1 5 = true by simp [inB]; omega]
  cases f0 : nodeB p.src with
  | false => simpa using fit_0 p k1 k2 f0 a len cap w R
  | true =>
  cases f1 : nodeB p.dst with
  | false => simpa using fit_1 p k1 k2 f0 f1 a len cap w R
  | true =>
  cases f2 : (p.src != p.dst) with
  | false => simpa using fit_2 p k1 k2 f0 f1 f2 a len cap w R
  | true =>
  cases f3 : incB p.boot p.life with
  | false => simpa using fit_3 p k1 k2 f0 f1 f2 f3 a len cap w R
  | true =>
  cases f4 : echoB p with
  | false => simpa using fit_4 p k1 k2 f0 f1 f2 f3 f4 a len cap w R
  | true =>
  cases f5 : listB p with
  | false => simpa using fit_5 p k1 k2 f0 f1 f2 f3 f4 f5 a len cap w R
  | true =>
  exact fit_6 p k1 k2 f0 f1 f2 f3 f4 f5 a len cap w R

end Go.Proofs.YticmjlnpjopfbaaDoor
