/-
  What the calls of package frac on numbers and fractions return (size, divisor, negative), and the document's own answers for them.
-/
import Derived.Test.YtiigmohnmkgfoaaDoorProg
import Derived.WalkKit
import Derived.ProofKit
import Derived.OpenShut
import Derived.Handy
import Derived.Below
import Derived.BigQuiet
import Derived.Deep.LoopGhost
namespace Go.Proofs.YtiigmohnmkgfoaaDoor
open Go.ChangeShapes Go.WideShapes Go.ChangeAt Go.RowKit
set_option linter.unusedVariables false

/-- A number without its sign. -/
def sz (x : Int) : Nat := x.natAbs
theorem sz_neg {x : Int} (h : x < 0) : ((sz x : Nat) : Int) = -x := by unfold sz; omega
theorem sz_pos {x : Int} (h : ¬ x < 0) : ((sz x : Nat) : Int) = x := by unfold sz; omega
theorem ret_u64 {a b : Int} (h : a = b) : Ending.returned (.int .u64 a) = .returned (.int .u64 b) := by rw [h]
abbrev fr (n d : Int) : Value := .agg #[.int .i64 n, .int .i64 d]

/-- Block k holds two cells, v0 and v1, that may be written. -/
def Two (W : World) (k : Nat) (v0 v1 : Value) : Prop :=
  W.cell? ⟨k, 0, none⟩ = some v0 ∧ W.cell? ⟨k, 1, none⟩ = some v1 ∧ W.frozen? ⟨k, 0, none⟩ = false ∧ W.frozen? ⟨k, 1, none⟩ = false ∧ k < W.heap.size
theorem Two.new (W : World) (v0 v1 : Value) (t : TypeId) : Two (W.alloc (.cells #[v0, v1] t)) W.heap.size v0 v1 :=
  ⟨by simp, by simp, by simp, by simp, by simp⟩
theorem Two.alloc {W : World} {k : Nat} {v0 v1 : Value} (h : Two W k v0 v1) (o : Obj) : Two (W.alloc o) k v0 v1 :=
  ⟨(World.cell?_alloc_past _ _ _ h.2.2.2.2).trans h.1, (World.cell?_alloc_past _ _ _ h.2.2.2.2).trans h.2.1, (World.frozen?_alloc_past _ _ _ h.2.2.2.2).trans h.2.2.1, (World.frozen?_alloc_past _ _ _ h.2.2.2.2).trans h.2.2.2.1, by have := h.2.2.2.2; simp; omega⟩
theorem Two.below {W w1 : World} {k : Nat} {v0 v1 : Value} (h : Two W k v0 v1) (hb : Below W.heap.size W w1) : Two w1 k v0 v1 :=
  have hk := h.2.2.2.2
  ⟨(hb.cell (p := ⟨k, 0, none⟩) hk).trans h.1, (hb.cell (p := ⟨k, 1, none⟩) hk).trans h.2.1, (hb.frozen (p := ⟨k, 0, none⟩) hk).trans h.2.2.1, (hb.frozen (p := ⟨k, 1, none⟩) hk).trans h.2.2.2.1, Nat.lt_of_lt_of_le hk hb.size⟩
theorem Two.at {W : World} {k k' : Nat} {v0 v1 : Value} (h : Two W k v0 v1) (e : k = k') : Two W k' v0 v1 := e ▸ h
theorem Two.drewN {W : World} {k : Nat} {v0 v1 : Value} (h : Two W k v0 v1) (n : Nat) : Two (W.drewN n) k v0 v1 := h
theorem Below.drewn {B : Nat} {a w : World} (h : Below B a w) (n : Nat) : Below B a (w.drewN n) := ⟨h.os, h.tape, h.output, h.size, h.block⟩

theorem size_any (x : Int) (w : World) (hx : -9223372036854775808 ≤ x) (hx' : x ≤ 9223372036854775807) :
    Calls Tryd.prog 42 #[.int .i64 x] w fun e w' => e = .returned (.int .u64 (sz x)) ∧ w' = w := by
  by_cases c : x < 0
  · have E : Hid (IntKind.u64.wrap (-IntKind.u64.wrap x) = sz x) := by show IntKind.u64.wrap (-IntKind.u64.wrap x) = sz x; rw [sz_neg c]; simp only [IntKind.wrap_u64]; omega
    go_enter Tryd.func42, Tryd.ntmps42
    go_wp2
    go_ret
    exact ⟨ret_u64 (by first | exact E.out | exact (sz_neg c).symm | rfl), rfl⟩
  · have E : Hid (IntKind.u64.wrap x = sz x) := by show IntKind.u64.wrap x = sz x; rw [sz_pos c]; simp only [IntKind.wrap_u64]; omega
    go_enter Tryd.func42, Tryd.ntmps42
    go_wp2
    go_ret
    exact ⟨ret_u64 (by unfold sz; omega), rfl⟩

theorem abs_any (x : Int) (w : World) (hx : -9223372036854775808 ≤ x) (hx' : x ≤ 9223372036854775807) :
    Calls Tryd.prog 41 #[.int .i64 x] w fun e w' => e = .returned (.int .u64 (sz x)) ∧ w' = w := by
  by_cases c : x < 0
  · have E : Hid (-(x + 1) + 1 = (sz x : Int)) := by show -(x + 1) + 1 = (sz x : Int); rw [sz_neg c]; omega
    go_enter Tryd.func41, Tryd.ntmps41
    go_wp2
    go_ret
    exact ⟨ret_u64 E.out, rfl⟩
  · go_enter Tryd.func41, Tryd.ntmps41
    go_wp2
    go_ret
    exact ⟨ret_u64 (by unfold sz; omega), rfl⟩

theorem gcd_step {a b : Nat} : Nat.gcd b (a % b) = Nat.gcd a b := by rw [Nat.gcd_comm a b, Nat.gcd_rec b a, Nat.gcd_comm]
theorem tmod_nat (a b : Nat) : (a : Int).tmod b = ((a % b : Nat) : Int) := rfl
theorem tdiv_nat (a b : Nat) : (a : Int).tdiv b = ((a / b : Nat) : Int) := rfl

set_option maxRecDepth 100000 in
theorem rgcd_any (a b : Nat) (w : World) (ha : a ≤ 18446744073709551615) (hb : b ≤ 18446744073709551615) :
    Calls Tryd.prog 40 #[.int .u64 a, .int .u64 b] w fun e w' => e = .returned (.int .u64 (Nat.gcd a b)) ∧ w' = w := by
  go_enter Tryd.func40, Tryd.ntmps40
  go_wp2
  go_loopg [0, 1] b (fun g x y wr => ∃ p q : Nat, x = .int .u64 p ∧ y = .int .u64 q ∧ q ≤ g ∧ p ≤ 18446744073709551615 ∧ q ≤ 18446744073709551615 ∧ Hid (Nat.gcd p q = Nat.gcd a b) ∧ wr = w)
  case atStart => exact ⟨a, b, rfl, rfl, Nat.le_refl _, ha, hb, rfl, rfl⟩
  case round =>
    obtain ⟨p, q, rfl, rfl, hg, hp, hq, HG, rfl⟩ := hrel
    by_cases hz : q = 0
    · subst hz
      go_wp2
      go_ret
      exact ⟨ret_u64 (by have := HG.out; rw [Nat.gcd_zero_right] at this; rw [this]), rfl⟩
    · have hp' : (p : Int) ≤ 18446744073709551615 := by omega
      have hq' : (0 : Int) < q := by omega
      have hq2 : ¬ (q : Int) = 0 := by omega
      have M : Hid ((p : Int) % q = ((p % q : Nat) : Int)) := (Int.natCast_emod p q).symm
      have hm : p % q < q := Nat.mod_lt _ (by omega)
      have hG : Hid (Nat.gcd q (p % q) = Nat.gcd a b) := gcd_step.trans HG.out
      go_wp2
      go_roundg (q - 1)
      case measure => omega
      case rel => exact ⟨q, p % q, rfl, by rw [← M.out], by omega, hq, by omega, hG, rfl⟩

set_option maxRecDepth 100000 in
theorem divisor_any (a b : Nat) (w : World) (ha : a ≤ 18446744073709551615) (hb : b ≤ 18446744073709551615) :
    Calls Tryd.prog 43 #[.int .u64 a, .int .u64 b] w fun e w' => e = .returned (.int .u64 (Nat.gcd a b)) ∧ Below w.heap.size w w' := by
  go_enter Tryd.func43, Tryd.ntmps43
  go_wp2
  go_loopg [0, 1] b (fun g x y wr => ∃ p q : Nat, x = .int .u64 p ∧ y = .int .u64 q ∧ q ≤ g ∧ p ≤ 18446744073709551615 ∧ q ≤ 18446744073709551615 ∧ Hid (Nat.gcd p q = Nat.gcd a b) ∧ Below w.heap.size w wr)
  case atStart => exact ⟨a, b, rfl, rfl, Nat.le_refl _, ha, hb, rfl, Below.refl _ _⟩
  case round =>
    obtain ⟨p, q, rfl, rfl, hg, hp, hq, HG, hB⟩ := hrel
    by_cases hz : q = 0
    · subst hz
      go_wp2
      go_ret
      exact ⟨ret_u64 (by have := HG.out; rw [Nat.gcd_zero_right] at this; rw [this]), hB⟩
    · have hp' : (p : Int) ≤ 18446744073709551615 := by omega
      have hq' : (0 : Int) < q := by omega
      have hq2 : ¬ (q : Int) = 0 := by omega
      have M : Hid ((p : Int) % q = ((p % q : Nat) : Int)) := (Int.natCast_emod p q).symm
      have hm : p % q < q := Nat.mod_lt _ (by omega)
      have hG : Hid (Nat.gcd q (p % q) = Nat.gcd a b) := gcd_step.trans HG.out
      go_wp2
      go_quiet (fail)
      go_wp2
      go_roundg (q - 1)
      case measure => omega
      case rel => exact ⟨q, p % q, rfl, by rw [← M.out], by omega, hq, by omega, hG, ⟨hB.os, hB.tape, hB.output, hB.size, hB.block⟩⟩

theorem negative_any (n d : Int) (w : World) (hn : -9223372036854775807 ≤ n) (hn' : n ≤ 9223372036854775807) :
    Calls Tryd.prog 44 #[fr n d] w fun e w' => e = .returned (fr (-n) d) ∧ Below w.heap.size w w' := by
  go_enter Tryd.func44, Tryd.ntmps44
  go_wp2
  go_returns
  exact ⟨rfl, by go_grown⟩

end Go.Proofs.YtiigmohnmkgfoaaDoor
