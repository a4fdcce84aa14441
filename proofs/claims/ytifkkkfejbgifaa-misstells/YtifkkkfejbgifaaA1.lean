/-
  Package reg: what Fit, Newer, Merge, Agree and Out return, and the document's own answers for them.
-/
import Derived.Test.YtifkkkfejbgifaaA0
namespace Go.Proofs.Ytifkkkfejbgifaa
open Go.ChangeShapes Go.WideShapes Go.ChangeAt Go.RowKit
set_option linter.unusedVariables false
set_option linter.unusedSimpArgs false

abbrev rg (v p f : Int) : Value := .agg #[.int .i64 v, .int .i64 p, .int .i64 f]
def lineB (v p f a b : Int) : Bool := decide (1 ≤ v) && decide (v ≤ 1099511627776) && endB p a b && rngB f
def zeroB (v p f : Int) : Bool := decide (v = 0 ∧ p = 0 ∧ f = 0)
def fitB (v p f a b : Int) : Bool := edgeB a b && (zeroB v p f || lineB v p f a b)
def newB (v p u q : Int) : Bool := aboveB v u q p
/-- Block k holds three cells that may be written. -/
structure Tri (W : World) (k : Nat) (v0 v1 v2 : Value) : Prop where
  c0 : W.cell? ⟨k, 0, none⟩ = some v0
  c1 : W.cell? ⟨k, 1, none⟩ = some v1
  c2 : W.cell? ⟨k, 2, none⟩ = some v2
  f0 : W.frozen? ⟨k, 0, none⟩ = false
  f1 : W.frozen? ⟨k, 1, none⟩ = false
  f2 : W.frozen? ⟨k, 2, none⟩ = false
  lt : k < W.heap.size
theorem Tri.new (W : World) (v0 v1 v2 : Value) (t : TypeId) : Tri (W.alloc (.cells #[v0, v1, v2] t)) W.heap.size v0 v1 v2 :=
  ⟨by simp, by simp, by simp, by simp, by simp, by simp, by simp⟩
theorem Tri.alloc {W : World} {k : Nat} {v0 v1 v2 : Value} (h : Tri W k v0 v1 v2) (o : Obj) : Tri (W.alloc o) k v0 v1 v2 :=
  ⟨(World.cell?_alloc_past _ _ _ h.lt).trans h.c0, (World.cell?_alloc_past _ _ _ h.lt).trans h.c1, (World.cell?_alloc_past _ _ _ h.lt).trans h.c2, (World.frozen?_alloc_past _ _ _ h.lt).trans h.f0, (World.frozen?_alloc_past _ _ _ h.lt).trans h.f1, (World.frozen?_alloc_past _ _ _ h.lt).trans h.f2, by have := h.lt; simp; omega⟩
theorem Tri.below {W w1 : World} {k : Nat} {v0 v1 v2 : Value} (h : Tri W k v0 v1 v2) (hb : Below W.heap.size W w1) : Tri w1 k v0 v1 v2 :=
  ⟨(hb.cell (p := ⟨k, 0, none⟩) h.lt).trans h.c0, (hb.cell (p := ⟨k, 1, none⟩) h.lt).trans h.c1, (hb.cell (p := ⟨k, 2, none⟩) h.lt).trans h.c2, (hb.frozen (p := ⟨k, 0, none⟩) h.lt).trans h.f0, (hb.frozen (p := ⟨k, 1, none⟩) h.lt).trans h.f1, (hb.frozen (p := ⟨k, 2, none⟩) h.lt).trans h.f2, Nat.lt_of_lt_of_le h.lt hb.size⟩
theorem Tri.at {W : World} {k k' : Nat} {v0 v1 v2 : Value} (h : Tri W k v0 v1 v2) (e : k = k') : Tri W k' v0 v1 v2 := e ▸ h
theorem Tri.drew {W : World} {k : Nat} {v0 v1 v2 : Value} (h : Tri W k v0 v1 v2) : Tri W.drew k v0 v1 v2 := ⟨h.c0, h.c1, h.c2, h.f0, h.f1, h.f2, h.lt⟩

end Go.Proofs.Ytifkkkfejbgifaa
