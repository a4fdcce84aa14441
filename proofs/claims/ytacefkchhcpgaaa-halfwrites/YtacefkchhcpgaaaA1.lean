/-
  Package reg: what Fit, Newer, Merge, Agree and Out return, and the document's own answers for them.
-/
import Derived.Test.YtacefkchhcpgaaaA0
namespace Go.Proofs.Ytacefkchhcpgaaa
open Go.ChangeShapes Go.WideShapes Go.ChangeAt Go.RowKit
set_option linter.unusedVariables false
set_option linter.unusedSimpArgs false

abbrev rg (v p f : Int) : Value := .agg #[.int .i64 v, .int .i64 p, .int .i64 f]
def lineB (v p f a b : Int) : Bool := decide (1 ≤ v) && decide (v ≤ 1099511627776) && endB p a b && rngB f
def zeroB (v p f : Int) : Bool := decide (v = 0 ∧ p = 0 ∧ f = 0)
def fitB (v p f a b : Int) : Bool := edgeB a b && (zeroB v p f || lineB v p f a b)
def newB (v p u q : Int) : Bool := aboveB v u q p
/-- Block k holds three cells that may be written. -/
structure Tri (W : World) (k : Nat) (v0 v1 v2 : Value) : Prop where
  c0 : W.cell? ⟨k, 0, none⟩ = some v0
  c1 : W.cell? ⟨k, 1, none⟩ = some v1
  c2 : W.cell? ⟨k, 2, none⟩ = some v2
  f0 : W.frozen? ⟨k, 0, none⟩ = false
  f1 : W.frozen? ⟨k, 1, none⟩ = false
  f2 : W.frozen? ⟨k, 2, none⟩ = false
  lt : k < W.heap.size
theorem Tri.new (W : World) (v0 v1 v2 : Value) (t : TypeId) : Tri (W.alloc (.cells #[v0, v1, v2] t)) W.heap.size v0 v1 v2 :=
  ⟨by simp, by simp, by simp, by simp, by simp, by simp, by simp⟩
theorem Tri.alloc {W : World} {k : Nat} {v0 v1 v2 : Value} (h : Tri W k v0 v1 v2) (o : Obj) : Tri (W.alloc o) k v0 v1 v2 :=
  ⟨(World.cell?_alloc_past _ _ _ h.lt).trans h.c0, (World.cell?_alloc_past _ _ _ h.lt).trans h.c1, (World.cell?_alloc_past _ _ _ h.lt).trans h.c2, (World.frozen?_alloc_past _ _ _ h.lt).trans h.f0, (World.frozen?_alloc_past _ _ _ h.lt).trans h.f1, (World.frozen?_alloc_past _ _ _ h.lt).trans h.f2, by have := h.lt; simp; omega⟩
theorem Tri.below {W w1 : World} {k : Nat} {v0 v1 v2 : Value} (h : Tri W k v0 v1 v2) (hb : Below W.heap.size W w1) : Tri w1 k v0 v1 v2 :=
  ⟨(hb.cell (p := ⟨k, 0, none⟩) h.lt).trans h.c0, (hb.cell (p := ⟨k, 1, none⟩) h.lt).trans h.c1, (hb.cell (p := ⟨k, 2, none⟩) h.lt).trans h.c2, (hb.frozen (p := ⟨k, 0, none⟩) h.lt).trans h.f0, (hb.frozen (p := ⟨k, 1, none⟩) h.lt).trans h.f1, (hb.frozen (p := ⟨k, 2, none⟩) h.lt).trans h.f2, Nat.lt_of_lt_of_le h.lt hb.size⟩
theorem Tri.at {W : World} {k k' : Nat} {v0 v1 v2 : Value} (h : Tri W k v0 v1 v2) (e : k = k') : Tri W k' v0 v1 v2 := e ▸ h
theorem Tri.drew {W : World} {k : Nat} {v0 v1 v2 : Value} (h : Tri W k v0 v1 v2) : Tri W.drew k v0 v1 v2 := ⟨h.c0, h.c1, h.c2, h.f0, h.f1, h.f2, h.lt⟩

set_option maxRecDepth 100000 in
set_option maxHeartbeats 1000000 in
theorem newer_any (v p f u q g : Int) (w : World) : Calls Try.prog 58 #[rg v p f, rg u q g] w fun e w' => e = .returned (.bool (newB v p u q)) ∧ Below w.heap.size w w' := by
  go_enter Try.func58, Try.ntmps58
  go_wp2_with (go_at_call 76; refine (above_any v u q p _).mono ?_; rintro e wx ⟨rfl, hw⟩; rw [hw]; clear hw wx)
  go_ret
  exact ⟨rfl, by go_grown⟩
set_option maxRecDepth 100000 in
set_option maxHeartbeats 1000000 in
theorem rnewer_any (v p f u q g : Int) (w : World) : Calls Try.prog 39 #[rg v p f, rg u q g] w fun e w' => e = .returned (.bool (newB v p u q)) ∧ Below w.heap.size w w' := by
  by_cases h : v = u
  · subst h
    go_enter Try.func39, Try.ntmps39
    go_wp2
    go_ret
    exact ⟨ret_bool (by simp [newB, aboveB]), by go_grown⟩
  · go_enter Try.func39, Try.ntmps39
    go_wp2
    go_ret
    exact ⟨ret_bool (by simp [newB, aboveB, h]), by go_grown⟩
set_option maxRecDepth 100000 in
set_option maxHeartbeats 1000000 in
theorem rmerge_any (v p f u q g : Int) (w : World) : Calls Try.prog 60 #[rg v p f, rg u q g] w fun e w' => e = .returned (if newB u q v p then rg u q g else rg v p f) ∧ Below w.heap.size w w' := by
  cases hn : newB u q v p with
  | true =>
    go_enter Try.func60, Try.ntmps60
    go_wp2_with (go_at_call 39; refine (rnewer_any _ _ _ _ _ _ _).mono ?_; rintro e w1 ⟨rfl, hb⟩; rw [hn]; obtain ⟨a0, a1, a2, b0, b1, b2, z0⟩ := (((Tri.new w (.int .i64 v) (.int .i64 p) (.int .i64 f) 42).alloc (.cells #[.int .i64 u, .int .i64 q, .int .i64 g] 42)).alloc (.cells #[.int .i64 0, .int .i64 0, .int .i64 0] 42)).below hb; obtain ⟨c0, c1, c2, d0, d1, d2, z1⟩ := (((Tri.new (w.alloc (.cells #[.int .i64 v, .int .i64 p, .int .i64 f] 42)) (.int .i64 u) (.int .i64 q) (.int .i64 g) 42).alloc (.cells #[.int .i64 0, .int .i64 0, .int .i64 0] 42)).below hb).at (k' := w.heap.size + 1) (by simp); obtain ⟨e0, e1, e2, f0, f1, f2, z2⟩ := ((Tri.new _ _ _ _ _).below hb).at (k' := w.heap.size + 1 + 1) (by simp); have hB : Below w.heap.size w w1 := Below.trans (by go_grown) (hb.mono (by simp; omega)); clear hb)
    exact bodyPost_ret (v := rg u q g) (by simp [results, Try.results60, go_sem, e0, e1, e2, f0, f1, f2, z2]) rfl ⟨rfl, by go_grown⟩
  | false =>
    go_enter Try.func60, Try.ntmps60
    go_wp2_with (go_at_call 39; refine (rnewer_any _ _ _ _ _ _ _).mono ?_; rintro e w1 ⟨rfl, hb⟩; rw [hn]; obtain ⟨a0, a1, a2, b0, b1, b2, z0⟩ := (((Tri.new w (.int .i64 v) (.int .i64 p) (.int .i64 f) 42).alloc (.cells #[.int .i64 u, .int .i64 q, .int .i64 g] 42)).alloc (.cells #[.int .i64 0, .int .i64 0, .int .i64 0] 42)).below hb; obtain ⟨c0, c1, c2, d0, d1, d2, z1⟩ := (((Tri.new (w.alloc (.cells #[.int .i64 v, .int .i64 p, .int .i64 f] 42)) (.int .i64 u) (.int .i64 q) (.int .i64 g) 42).alloc (.cells #[.int .i64 0, .int .i64 0, .int .i64 0] 42)).below hb).at (k' := w.heap.size + 1) (by simp); obtain ⟨e0, e1, e2, f0, f1, f2, z2⟩ := ((Tri.new _ _ _ _ _).below hb).at (k' := w.heap.size + 1 + 1) (by simp); have hB : Below w.heap.size w w1 := Below.trans (by go_grown) (hb.mono (by simp; omega)); clear hb)
    exact bodyPost_ret (v := rg v p f) (by simp [results, Try.results60, go_sem, e0, e1, e2, f0, f1, f2, z2]) rfl ⟨rfl, by go_grown⟩
end Go.Proofs.Ytacefkchhcpgaaa
