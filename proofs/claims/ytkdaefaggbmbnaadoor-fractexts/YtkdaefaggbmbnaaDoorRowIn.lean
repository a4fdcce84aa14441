/-
  A list of int64 that came in, or that the call made by append, as the walks are told of it.
-/
import Derived.Test.YtkdaefaggbmbnaaDoorBase
import Derived.OwnWalk
namespace Go.Proofs.YtkdaefaggbmbnaaDoor
open Go.ChangeShapes Go.WideShapes Go.ChangeAt Go.RowKit
set_option linter.unusedVariables false

/-- The list of int64 that a slice value leads to in a world. -/
structure Row (w : World) (a : Option Addr) (len : Nat) (zs : List Int) : Prop where
  size : zs.length = len
  max : len ≤ maxLen
  bd : ∀ k : Nat, -9223372036854775808 ≤ zs.getD k 0 ∧ zs.getD k 0 ≤ 9223372036854775807
  mem : len = 0 ∨ ∃ b off, a = some ⟨b, off, none⟩ ∧ b < w.heap.size ∧ ∀ k, k < len → w.cell? ⟨b, off + k, none⟩ = some (.int .i64 (zs.getD k 0))

theorem row_nil (w : World) : Row w none 0 [] where
  size := rfl
  max := by unfold maxLen; omega
  bd := fun k => by simp
  mem := .inl rfl

theorem wf_bd {n : Int} (h : (Lit.int .i64 n).wf = true) : -9223372036854775808 ≤ n ∧ n ≤ 9223372036854775807 := by
  have h1 : IntKind.i64.min = -9223372036854775808 := rfl
  have h2 : IntKind.i64.max = 9223372036854775807 := rfl
  simp only [Lit.wf, Bool.and_eq_true, decide_eq_true_eq] at h
  omega

theorem bd_all {zs : List Int} (h : ∀ n ∈ zs, -9223372036854775808 ≤ n ∧ n ≤ 9223372036854775807) (k : Nat) : -9223372036854775808 ≤ zs.getD k 0 ∧ zs.getD k 0 ≤ 9223372036854775807 := by
  rw [List.getD_eq_getElem?_getD]
  cases e : zs[k]? with
  | none => simp
  | some x => exact h x (List.mem_of_getElem? e)

theorem row_mk {w : World} {x : Addr} {len cap : Nat} {zs : List Int} (hl : len ≤ cap) (hm : cap ≤ maxLen) (hz : zs.length = cap)
    (hcell : ∀ i, i < zs.length → w.cell? (x.add i) = some (.int .i64 (zs.getD i 0))) (hwz : ∀ n ∈ zs, (Lit.int .i64 n).wf = true) : Row w (some x) len (zs.take len) where
  size := by simp; omega
  max := by omega
  bd := bd_all fun n hn => wf_bd (hwz n (List.mem_of_mem_take hn))
  mem := by
    by_cases h0 : len = 0
    · exact .inl h0
    · obtain ⟨b, off, spot⟩ := x
      have hc := hcell 0 (by omega)
      have hspot : spot = none := by simpa [Addr.add] using World.cell?_spot hc
      subst hspot
      refine .inr ⟨b, off, rfl, World.block_lt_of_cell? _ _ hc, fun k hk => ?_⟩
      have := hcell k (by omega)
      rw [← add_plain, this, List.getD_eq_getElem?_getD, List.getD_eq_getElem?_getD, List.getElem?_take, if_pos hk]

theorem Row.below {w w' : World} {a : Option Addr} {len : Nat} {zs : List Int} (R : Row w a len zs) (hb : Below w.heap.size w w') : Row w' a len zs where
  size := R.size
  max := R.max
  bd := R.bd
  mem := R.mem.imp id fun ⟨b, off, e, h, c⟩ => ⟨b, off, e, Nat.lt_of_lt_of_le h hb.size, fun k hk => (hb.cell (p := ⟨b, off + k, none⟩) h).trans (c k hk)⟩

/-- What append made out of nothing. -/
theorem row_own {w : World} {base len : Nat} {v : Value} {zs : List Int} (h : w.ownsRow base 2 1 v len (zs.map (Value.int .i64))) (hm : len ≤ maxLen)
    (hbd : ∀ k : Nat, -9223372036854775808 ≤ zs.getD k 0 ∧ zs.getD k 0 ≤ 9223372036854775807) : ∃ a c, v = .slice a len c ∧ Row w a len zs := by
  have hsz : zs.length = len := by simpa using h.1
  have h0 := h
  rcases h.2 with ⟨rfl, rfl⟩ | ⟨g, cap, cur, rfl, hg, hh, hn, hc, hcs, ht⟩
  · exact ⟨none, 0, rfl, ⟨hsz, hm, hbd, .inl rfl⟩⟩
  · refine ⟨_, _, rfl, ⟨hsz, hm, hbd, .inr ⟨g, 0, rfl, ?_, fun k hk => ?_⟩⟩⟩
    · exact (Array.getElem?_eq_some_iff.1 hh).1
    · rw [Nat.zero_add, h0.cellAt k (by omega)]
      simp [List.getD, List.getElem?_eq_getElem (show k < zs.length by omega)]

end Go.Proofs.YtkdaefaggbmbnaaDoor
