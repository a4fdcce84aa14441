/-
  What catches at the face of Read (package code, read.go): caught, and the deferred closure.
-/
import Derived.Test.YticmjlnpjopfbaaDoorCField
import Derived.Defers
import Derived.Recover
namespace Go.Proofs.YticmjlnpjopfbaaDoor.C
open Go.ChangeShapes Go.WideShapes Go.ChangeAt Go.RowKit
set_option linter.unusedVariables false

theorem caught_any (c : Int) (w : World) : Calls Tryd.prog 84 #[.iface 43 (.int .i64 c)] w fun e w' => e = .returned (.int .i64 c) ∧ w' = w := by
  have hta : ∀ w, (Instr.typeAssert (.iface 43 (.int .i64 c)) 20 43 true).run Tryd.prog w = .ok (.tuple #[.int .i64 c, .bool true]) w := fun _ => by kernel_rfl
  go_enter Tryd.func84, Tryd.ntmps84
  go_wp2
  go_ret
  exact ⟨rfl, rfl⟩

/-- Block k holds one cell, v, that may be written. -/
def One (W : World) (k : Nat) (v : Value) : Prop := W.cell? ⟨k, 0, none⟩ = some v ∧ W.frozen? ⟨k, 0, none⟩ = false ∧ k < W.heap.size
theorem One.new (W : World) (v : Value) (t : TypeId) : One (W.alloc (.cells #[v] t)) W.heap.size v := ⟨by simp, by simp, by simp⟩
theorem One.of_block {W W' : World} {k : Nat} {v : Value} (h : One W k v) (hb : W'.heap[k]? = W.heap[k]?) (hs : W.heap.size ≤ W'.heap.size) : One W' k v :=
  ⟨(World.cell?_of_block (a := ⟨k, 0, none⟩) hb).trans h.1, (World.frozen?_of_block (a := ⟨k, 0, none⟩) hb).trans h.2.1, by have := h.2.2; omega⟩
theorem One.alloc {W : World} {k : Nat} {v : Value} (h : One W k v) (o : Obj) : One (W.alloc o) k v := h.of_block (Below.heap_alloc _ _ _ h.2.2) (by simp)
theorem One.at {W : World} {k k' : Nat} {v : Value} (h : One W k v) (e : k = k') : One W k' v := e ▸ h
theorem One.drew {W : World} {k : Nat} {v : Value} (h : One W k v) : One W.drew k v := h
theorem One.kp {W W' : World} {p k : Nat} {v : Value} (h : One W k v) (hk : Kp p W W') (hne : k ≠ p) : One W' k v := h.of_block (hk.block k h.2.2 (by simpa using hne)) hk.size
theorem One.grown {W W' : World} {row : Option Nat} {k : Nat} {v : Value} (h : One W k v) (hg : W.grownBy W' row) (hne : row ≠ some k) : One W' k v := h.of_block (hg.block k h.2.2 (fun e => hne e.symm)) hg.size
theorem One.set {W : World} {k : Nat} {v : Value} (h : One W k v) (u : Value) : One (W.setCell ⟨k, 0, none⟩ u) k u := ⟨World.cell?_setCell_same _ _ _ h.1, by simpa using h.2.1, by simpa using h.2.2⟩
theorem One.far {W : World} {k : Nat} {v : Value} (h : One W k v) {j : Nat} (i : Nat) (hne : k ≠ j) (u : Value) : One (W.setCell ⟨j, i, none⟩ u) k v := h.of_block (Below.heap_setCell _ _ _ _ hne) (by simp)

set_option maxHeartbeats 1000000 in
theorem catch_panicking (pl pn pe : Nat) (vl vn ve : Value) (c : Int) (older : List PanicEntry) (w : World) (hl : One w pl vl) (hn : One w pn vn) (he : One w pe ve) (h1 : pl ≠ pn) (h2 : pl ≠ pe) (h3 : pn ≠ pe) :
    CallsD Tryd.prog 83 #[.pointer (some ⟨pl, 0, none⟩), .pointer (some ⟨pn, 0, none⟩), .pointer (some ⟨pe, 0, none⟩)] (.panicking ({ v := .iface 43 (.int .i64 c), recovered := false } :: older)) w fun e u' w' =>
      e = .returned (.tuple #[]) ∧ u' = .panicking ({ v := .iface 43 (.int .i64 c), recovered := true } :: older) ∧ w' = ((w.setCell ⟨pl, 0, none⟩ (.slice none 0 0)).setCell ⟨pn, 0, none⟩ (.int .i64 0)).setCell ⟨pe, 0, none⟩ (.int .i64 c) := by
  obtain ⟨l0, l1, l2⟩ := hl
  obtain ⟨n0, n1, n2⟩ := hn
  obtain ⟨e0, e1, e2⟩ := he
  refine callsD_of_wpS Tryd.func83 rfl fun c₀ cs hu => ?_
  apply wpS_seq
  apply wpS_region
  simp [wpOpsS, go_sem, recoverD, hu, Tryd.ntmps83, Exit.thenS]
  refine wpS_of_wp ?_
  go_wp2_with (go_at_call 84; refine (caught_any _ _).mono ?_; rintro e w' ⟨rfl, hw⟩; rw [hw]; clear hw)
  simp [bodyPostS, results, Tryd.results83]

set_option maxHeartbeats 1000000 in
theorem catch_idle (pl pn pe : Nat) (w : World) :
    CallsD Tryd.prog 83 #[.pointer (some ⟨pl, 0, none⟩), .pointer (some ⟨pn, 0, none⟩), .pointer (some ⟨pe, 0, none⟩)] .returning w fun e u' w' => e = .returned (.tuple #[]) ∧ u' = .returning ∧ w' = w := by
  refine callsD_of_wpS Tryd.func83 rfl fun c₀ cs hu => ?_
  apply wpS_seq
  apply wpS_region
  simp [wpOpsS, go_sem, recoverD, hu, Tryd.ntmps83, Exit.thenS]
  refine wpS_of_wp ?_
  go_wp2
  cases c₀
  simp_all [bodyPostS, results, Tryd.results83]

end Go.Proofs.YticmjlnpjopfbaaDoor.C
