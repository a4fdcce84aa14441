/-
  Both disks side by side: what a draw leaves.
-/
import Derived.Test.YtoecgldpmmclgaaWr
namespace Go.Proofs.Ytoecgldpmmclgaa
open Go.ChangeShapes Go.WideShapes Go.ChangeAt Go.RowKit
set_option linter.unusedVariables false
theorem Bth.drewn {w wd : World} {d l r m : Nat} {S T : DS} (h : Bth w d l r m S T) (e : World.drew w = wd) : Bth wd d l r m S T := by rw [← e]; exact ⟨h.p.of_blocks rfl rfl, h.q.of_blocks rfl rfl, h.sim, h.dr, h.dm, h.lr, h.lm⟩
theorem Only.drewn {C : Nat → Prop} {w0 w wd : World} (h : Only C w0 w) (e : World.drew w = wd) : Only C w0 wd := by rw [← e]; exact h.drew
/-- The call, as the law hands it on. -/
def actO (kd nn : Int) (a : Option Addr) (len cap : Nat) : Obj := .cells #[.int .i64 kd, .int .i64 nn, .slice a len cap] 30
theorem act_at {w w' : World} {kd nn : Int} {a : Option Addr} {len cap : Nat} (h : w'.heap[w.heap.size]? = some (actO kd nn a len cap)) : w'.cell? ⟨w.heap.size, 0, none⟩ = some (.int .i64 kd) ∧ w'.cell? ⟨w.heap.size, 1, none⟩ = some (.int .i64 nn) ∧ w'.cell? ⟨w.heap.size, 2, none⟩ = some (.slice a len cap) :=
  ⟨row_cell h 0 _ rfl, row_cell h 1 _ rfl, row_cell h 2 _ rfl⟩
theorem Bth.lt {w : World} {d l r m : Nat} {S T : DS} (h : Bth w d l r m S T) : ∀ q, in4 d l r m q → q < w.heap.size := by
  rintro q (e | e | e | e)
  · rw [e]; exact row_lt h.p.obj
  · rw [e]; exact row_lt h.p.lst
  · rw [e]; exact row_lt h.q.obj
  · rw [e]; exact row_lt h.q.byt
theorem Bth.only {w w' : World} {C : Nat → Prop} {d l r m : Nat} {S T : DS} (h : Bth w d l r m S T) (o : Only C w w') (hC : ∀ q, in4 d l r m q → ¬ C q) : Bth w' d l r m S T :=
  ⟨h.p.only o (hC d (.inl rfl)) (hC l (.inr (.inl rfl))), h.q.only o (hC r (.inr (.inr (.inl rfl)))) (hC m (.inr (.inr (.inr rfl)))), h.sim, h.dr, h.dm, h.lr, h.lm⟩
theorem Bth.setNew {w : World} {d l r m : Nat} {S T : DS} (h : Bth w d l r m S T) {g : Nat} (hg : ∀ q, in4 d l r m q → q < g) (i : Nat) (v : Value) : Bth (w.setCell ⟨g, i, none⟩ v) d l r m S T :=
  h.only (C := at1 g) ((Only.refl _ _).set _ _) (fun q hq e => by have e' : q = g := e; have := hg q hq; omega)
theorem Only.setNew {C : Nat → Prop} {a b : World} (h : Only C a b) {g : Nat} (hg : a.heap.size ≤ g) (i : Nat) (v : Value) : Only C a (b.setCell ⟨g, i, none⟩ v) := h.setCell (fun hl => by omega) i v
abbrev bothArgs (d r : Nat) (kd nn : Int) (a : Option Addr) (len cap : Nat) : Array Value := #[.pointer (some ⟨d, 0, none⟩), .pointer (some ⟨r, 0, none⟩), .agg #[.int .i64 kd, .int .i64 nn, .slice a len cap]]
/-- Bytes of one's own may be written. -/
theorem own_obj {base : Nat} {w : World} {g n c : Nat} {zs : List Int} (h : Own base w (.slice (some ⟨g, 0, none⟩) n c) zs) : ∃ cs, w.heap[g]? = some (.cells cs 5 (0, 0)) ∧ n ≤ cs.size ∧ base ≤ g := by
  have h0 : w.ownsRow base 5 1 (.slice (some ⟨g, 0, none⟩) n c) zs.length (zs.map bv) := h
  rcases h0.2 with ⟨e, _⟩ | ⟨g', cap, cur, e, hg, hh, hn, hc, hcs, ht⟩
  · cases e
  · cases e
    exact ⟨cur, hh, by omega, hg⟩
end Go.Proofs.Ytoecgldpmmclgaa
