/-
  What the law MissTells comes to: what its walk keeps.
-/
import Derived.Test.YtifkkkfejbgifaaW2
import Derived.Test.YtifkkkfejbgifaaHeld
namespace Go.Proofs.Ytifkkkfejbgifaa
open Go.ChangeShapes Go.WideShapes Go.ChangeAt Go.RowKit
set_option linter.unusedVariables false
set_option linter.unusedSimpArgs false

/-- A half-edge in block tb whose lines are being spoilt: all below base stays. -/
structure Spo (base : Nat) (W0 : World) (tb : Nat) (y : HS) (a : Option Addr) (c : Nat) (W : World) : Prop where
  below : Below base W0 W
  tb_ : W.heap[tb]? = some (.cells (y.on a c).cells.toArray 24 (0, 0))
  ls : y.ls.length = 0 ∨ ∃ g off cur, a = some ⟨g, off, none⟩ ∧ base ≤ g ∧ W.heap[g]? = some (.cells cur 35 (0, 0)) ∧ off + 4 * y.ls.length ≤ cur.size
theorem Spo.start {base : Nat} {W0 W : World} {tb : Nat} {y : HS} {a : Option Addr} {c : Nat} (b : Below base W0 W) (t : W.heap[tb]? = some (.cells (y.on a c).cells.toArray 24 (0, 0))) (O : Own base W y a c) : Spo base W0 tb y a c W := by
  refine ⟨b, t, ?_⟩
  rcases O.lst.mem with ⟨e1, e2⟩ | ⟨g, off, cur, e1, hh, hc, _⟩
  · have := O.lst.le
    exact .inl (by omega)
  · have := O.lst.le
    exact .inr ⟨g, off, cur, e1, O.new g off e1, hh, by omega⟩
theorem Spo.set {base : Nat} {W0 W : World} {tb : Nat} {y : HS} {a : Option Addr} {c : Nat} (S : Spo base W0 tb y a c W) {g : Nat} {cur : Array Value} (hg : base ≤ g) (hh : W.heap[g]? = some (.cells cur 35 (0, 0))) (k : Nat) (v : Value) : Spo base W0 tb y a c (W.setCell ⟨g, k, none⟩ v) := by
  refine ⟨S.below.setCell (p := ⟨g, k, none⟩) hg v, set_far S.tb_ ?_ _ _, ?_⟩
  · rintro rfl
    have := S.tb_
    rw [hh] at this
    cases this
  · rcases S.ls with h | ⟨q, off, cur', e1, e2, e3, e4⟩
    · exact .inl h
    · by_cases e : q = g
      · subst e
        rw [hh] at e3
        cases e3
        exact .inr ⟨q, off, _, e1, e2, set_row hh k v, by rw [Array.size_setIfInBounds]; exact e4⟩
      · exact .inr ⟨q, off, cur', e1, e2, set_far e3 e _ _, e4⟩

/-- A variable that holds a half-edge. -/
structure Vr (W : World) (g : Nat) (x : HS) (a : Option Addr) (c : Nat) : Prop where
  at_ : W.heap[g]? = some (.cells (x.on a c).cells.toArray 24 (0, 0))
  rd : RdO W x a c
theorem Vr.later {W W' : World} {g : Nat} {x : HS} {a : Option Addr} {c : Nat} (v : Vr W g x a c) (b : Below W.heap.size W W') : Vr W' g x a c := ⟨(b.block _ (row_lt v.at_)).trans v.at_, RdL.below v.rd b⟩
theorem Vr.lt {W : World} {g : Nat} {x : HS} {a : Option Addr} {c : Nat} (v : Vr W g x a c) : g < W.heap.size := row_lt v.at_
theorem same_self (x : HS) (a b : Option Addr) (c d : Nat) (w : World) (R : RdO w x a c) (Q : RdO w x b d) : Calls Try.prog 11 #[(x.on a c).val, (x.on b d).val] w fun e w' => e = .returned (.bool true) ∧ Below w.heap.size w w' := by
  have h := same_any x x a b c d w R Q
  rw [eq1_self] at h
  exact h
set_option maxRecDepth 100000 in
set_option maxHeartbeats 4000000 in
theorem tells_unfit (id : Int) (h : HS) (a : Option Addr) (c : Nat) (w : World) (R : RdO w h a c) (hf : h.fit id = false) : Calls Try.prog 3 #[.int .i64 id, (h.on a c).val] w fun e w' => e = .returned (.bool true) ∧ Below w.heap.size w w' := by
  obtain ⟨peer, boot, life, ls, pend, miss⟩ := h
  have C0 := (Bx.nil w).add rfl (.cells #[.int .i64 peer, .int .i64 boot, .int .i64 life, .slice a ls.length c, .bool pend, .int .i64 miss] 24)
  have R1 : RdO _ (HS.mk peer boot life ls pend miss) a c := R.below C0.below
  have K1 := lfit_any id (HS.mk peer boot life ls pend miss) a c _ R1
  rw [hf] at K1
  clear hf R R1
  dsimp only [HS.on, HR.val] at K1 ⊢
  go_enter Try.func3, Try.ntmps3
  go_wp2_with (first
    | (go_at_call 7; refine K1.mono ?_; clear K1; rintro e w1 ⟨rfl, b1⟩)
    | (go_at_call 8; refine (awake_any _).mono ?_; rintro e w2 ⟨rfl, b2⟩))
  go_ret
  have B1 := C0.below.trans (b1.mono C0.below.size)
  exact ⟨rfl, B1.trans (b2.mono B1.size)⟩
end Go.Proofs.Ytifkkkfejbgifaa
