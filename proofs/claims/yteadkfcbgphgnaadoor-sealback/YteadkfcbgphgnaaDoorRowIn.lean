/-
  A list of numbers as it came in, and what the bound on all that came in says of it.
-/
import Derived.Test.YteadkfcbgphgnaaDoorRows
import Derived.Test.YteadkfcbgphgnaaDoorAwake
import Derived.Deep.Slices
import Derived.ChangeSame
import Derived.ProofKit
import Derived.OpenShut
namespace Go.Proofs.YteadkfcbgphgnaaDoor
open Go.ChangeShapes Go.WideShapes Go.ChangeAt Go.RowKit Go.Deep
set_option linter.unusedVariables false

theorem bulk_one {H : Type} (d : DataW H) : 1 ≤ Rows.uptoBulk d := by
  cases d with
  | lit l => cases l <;> simp [Rows.uptoBulk]
  | _ => simp [Rows.uptoBulk]
theorem bulk_len {H : Type} (l : List (DataW H)) : l.length ≤ Rows.uptoBulkAll l := by
  induction l with
  | nil => simp [Rows.uptoBulkAll]
  | cons x r ih => have := bulk_one x; simp only [Rows.uptoBulkAll, List.length_cons]; omega
/-- How long a list of numbers is, out of its bulk. -/
theorem bulk_lits {H : Type} (k : IntKind) (zs : List Int) (len : Nat) : zs.length + 1 ≤ Rows.uptoBulk (DataW.slice (H := H) (lits k (zs.take len)) (lits k (zs.drop len))) := by
  have h1 := bulk_len (H := H) (lits k (zs.take len))
  have h2 := bulk_len (H := H) (lits k (zs.drop len))
  simp only [lits, List.length_map, List.length_take, List.length_drop] at h1 h2
  simp only [Rows.uptoBulk, lits]
  omega

theorem row_mk {kd : IntKind} {w : World} {x : Addr} {len cap : Nat} {zs : List Int} (hl : len ≤ cap) (hz : zs.length = cap)
    (hcell : ∀ i, i < zs.length → w.cell? (x.add i) = some (.int kd (zs.getD i 0))) (hwz : ∀ n ∈ zs, (Lit.int kd n).wf = true) : Row kd w (some x) len cap (zs.take len) where
  size := by simp; omega
  le := hl
  nil := fun h => by cases h
  wf := fun n hn => hwz n (List.mem_of_mem_take hn)
  mem := by
    by_cases h0 : len = 0
    · exact .inl h0
    · obtain ⟨b, off, spot⟩ := x
      have hc := hcell 0 (by omega)
      have hspot : spot = none := by simpa [Addr.add] using World.cell?_spot hc
      subst hspot
      refine .inr ⟨b, off, rfl, World.block_lt_of_cell? _ _ hc, fun k hk => ?_⟩
      have hc2 := hcell k (by omega)
      have hplain : (⟨b, off, none⟩ : Addr).add k = ⟨b, off + k, none⟩ := by unfold Addr.add; split <;> simp_all
      rw [← hplain, hc2, List.getD_eq_getElem?_getD, List.getD_eq_getElem?_getD, List.getElem?_take, if_pos hk]

/-- A list of numbers that came in: what the walk is told, and its length. -/
theorem open_row {H : Type} {enc : TypeId × Value → H} {W : World} {t e : TypeId} {k : IntKind} {a : Option Addr} {len cap : Nat} {d : DataW H} {ps : List MemPlace} (ht : Tryd.prog.underlying t = some (.slice e)) (he : Tryd.prog.underlying e = some (.int k)) (hc : Tryd.prog.cellsOf e = 1)
    (h : DataW.Trod enc Tryd.prog W 0 (fun _ => true) true t (.slice a len cap) d ps) : ∃ zs, Row k W a len cap zs ∧ cap + 1 ≤ Rows.uptoBulk d ∧ cap ≤ maxLen := by
  obtain ⟨fuel, hf⟩ := h
  rcases open_ints ht he hc hf with ⟨hcs, hx⟩ | ⟨x, l, c, zs, hcs, _, hl, hm, hz, hx, hcell, hwz⟩
  · simp [Value.cells] at hcs
    obtain ⟨rfl, rfl, rfl⟩ := hcs
    exact ⟨[], row_nil k W, by have := bulk_one d; omega, Nat.zero_le _⟩
  · simp [Value.cells] at hcs
    obtain ⟨rfl, rfl, rfl⟩ := hcs
    simp only [Prod.mk.injEq] at hx
    obtain ⟨hd, _⟩ := hx
    subst hd
    have hz' : zs.length = cap := by simpa using hz
    exact ⟨zs.take len, row_mk hl hz' hcell hwz, by have := bulk_lits (H := H) k zs len; omega, hm⟩

theorem wf_u64 {n : Int} (h : (Lit.int .u64 n).wf = true) : 0 ≤ n ∧ n ≤ 18446744073709551615 := by
  have h1 : IntKind.u64.min = 0 := rfl
  have h2 : IntKind.u64.max = 18446744073709551615 := rfl
  simp only [Lit.wf, Bool.and_eq_true, decide_eq_true_eq] at h
  omega
theorem bulk_str {H : Type} (s : ByteArray) : Rows.uptoBulk (DataW.lit (H := H) (.string s.data.toList)) = s.size + 1 := by simp [Rows.uptoBulk]

theorem wf_i64 {n : Int} (h : (Lit.int .i64 n).wf = true) : -9223372036854775808 ≤ n ∧ n ≤ 9223372036854775807 := by
  have h1 : IntKind.i64.min = -9223372036854775808 := rfl
  have h2 : IntKind.i64.max = 9223372036854775807 := rfl
  simp only [Lit.wf, Bool.and_eq_true, decide_eq_true_eq] at h
  omega
theorem wf_u32 {n : Int} (h : (Lit.int .u32 n).wf = true) : 0 ≤ n ∧ n < 4294967296 := by
  have h1 : IntKind.u32.min = 0 := rfl
  have h2 : IntKind.u32.max = 4294967295 := rfl
  simp only [Lit.wf, Bool.and_eq_true, decide_eq_true_eq] at h
  omega

/-- How much a list of byte lists weighs. -/
def bsum (bs : List (List Int)) : Nat := (bs.map fun b => b.length + 1).sum
theorem add_none (a : Addr) : a.add 0 = a := by unfold Addr.add; split <;> simp_all
theorem cells5 : Tryd.prog.cellsOf 5 = 1 := by kernel_rfl
theorem cells22 : Tryd.prog.cellsOf 22 = 1 := by kernel_rfl

theorem open_row_cells {H : Type} {enc : TypeId × Value → H} {W : World} {fuel base : Nat} {held : Bool} {cs : List Value} {x : DataW H × List MemPlace}
    (h : DataW.trod enc Tryd.prog W base (fun _ => true) held fuel 22 cs = some x) : ∃ a len cap zs, cs = [.slice a len cap] ∧ Row .u8 W a len cap zs ∧ cap + 1 ≤ Rows.uptoBulk x.1 ∧ cap ≤ maxLen := by
  rcases open_ints Tryd.underlying22 Tryd.underlying5 cells5 h with ⟨hcs, hx⟩ | ⟨x', l, c, zs, hcs, _, hl, hm, hz, hx, hcell, hwz⟩
  · exact ⟨none, 0, 0, [], hcs, row_nil _ _, by have := bulk_one x.1; omega, Nat.zero_le _⟩
  · have hz' : zs.length = c := by simpa using hz
    refine ⟨_, l, c, zs.take l, hcs, row_mk hl hz' hcell hwz, ?_, hm⟩
    rw [hx]
    have := bulk_lits (H := H) .u8 zs l
    simp only
    omega
theorem bsum_len (bs : List (List Int)) : bs.length ≤ bsum bs := by
  induction bs with
  | nil => simp [bsum]
  | cons x r ih => simp only [bsum, List.map_cons, List.sum_cons, List.length_cons] at *; omega
theorem bsum_mem {bs : List (List Int)} {b : List Int} (h : b ∈ bs) : b.length + 1 ≤ bsum bs := by
  induction bs with
  | nil => cases h
  | cons x r ih =>
    simp only [bsum, List.map_cons, List.sum_cons]
    rcases List.mem_cons.1 h with rfl | h
    · omega
    · have := ih h; simp only [bsum] at this; omega
theorem bulk_some {H : Type} (D : Nat → DataW H) (F : Nat → List Int) : ∀ (n k : Nat), (∀ i, i < n → (F (k + i)).length + 1 ≤ Rows.uptoBulk (D (k + i))) → bsum ((List.range' k n).map F) ≤ Rows.uptoBulkAll ((List.range' k n).map D)
  | 0, k, _ => by simp [bsum]
  | n + 1, k, h => by
    rw [List.range'_succ]
    simp only [List.map_cons, Rows.uptoBulkAll, bsum, List.sum_cons]
    have h0 := h 0 (by omega)
    simp only [Nat.add_zero] at h0
    have := bulk_some D F n (k + 1) (fun i hi => by have := h (i + 1) (by omega); rw [show k + 1 + i = k + (i + 1) by omega]; exact this)
    simp only [bsum] at this
    omega

/-- A list of byte lists that came in: what the walk is told, and how much it weighs. -/
theorem open_rows {H : Type} {enc : TypeId × Value → H} {W : World} {a : Option Addr} {len cap : Nat} {d : DataW H} {ps : List MemPlace}
    (h : DataW.Trod enc Tryd.prog W 0 (fun _ => true) true 33 (.slice a len cap) d ps) : ∃ bs, RowsB W a len cap bs ∧ bsum bs + 1 ≤ Rows.uptoBulk d ∧ cap ≤ maxLen ∧ (∀ b ∈ bs, Byt b) := by
  obtain ⟨fuel, hf⟩ := h
  rcases open_slice Tryd.underlying33 hf with ⟨hcs, hx⟩ | ⟨x, l, c, m, n, D, Pl, hcs, _, hl, hm, hmm, hx, hel⟩
  · simp [Value.cells] at hcs
    obtain ⟨rfl, rfl, rfl⟩ := hcs
    exact ⟨[], rowsB_nil W, by have := bulk_one d; simp [bsum]; omega, Nat.zero_le _, fun b hb => by cases hb⟩
  · simp [Value.cells] at hcs
    obtain ⟨rfl, rfl, rfl⟩ := hcs
    simp only [Prod.mk.injEq] at hx
    obtain ⟨hd, _⟩ := hx
    have hmc : m = cap := by simpa using hmm
    subst hmc
    rw [cells22] at hel
    have each : ∀ i, i < m → ∃ zs : List Int, (∃ a' n' c', W.cell? (x.add i) = some (.slice a' n' c') ∧ c' ≤ 9223372036854775807 ∧ Row .u8 W a' n' c' zs) ∧ zs.length + 1 ≤ Rows.uptoBulk (D i) := by
      intro i hi
      obtain ⟨cs', h1, h2⟩ := hel i hi
      obtain ⟨a', n', c', zs, rfl, hR, hb, hmx⟩ := open_row_cells h2
      obtain ⟨_, hlen, hcell⟩ := World.cells?_some h1
      have hc0 := hcell 0 (by omega)
      unfold maxLen at hmx
      refine ⟨zs, ⟨a', n', c', by rw [add_none] at hc0; simpa using hc0, by omega, hR⟩, ?_⟩
      have h3 := hR.size
      have h4 := hR.le
      simp only at hb
      omega
    obtain ⟨F, hF⟩ := choose_lt each
    have hbulk : bsum ((List.range len).map F) + 1 ≤ Rows.uptoBulk d := by
      rw [hd]
      simp only [Rows.uptoBulk]
      have := bulk_some D F len 0 (fun i hi => by rw [Nat.zero_add]; exact (hF i (by omega)).2)
      rw [← List.range_eq_range'] at this
      omega
    have hget : ∀ j, j < len → ((List.range len).map F).getD j [] = F j := by
      intro j hj
      simp [List.getD, hj]
    refine ⟨(List.range len).map F, ⟨by simp, hl, fun h => (by cases h), ?_⟩, hbulk, hm, ?_⟩
    · by_cases h0 : len = 0
      · exact .inl h0
      · obtain ⟨b, off, spot⟩ := x
        obtain ⟨⟨a', n', c', hc, _, _⟩, _⟩ := hF 0 (by omega)
        have hspot : spot = none := by simpa [Addr.add] using World.cell?_spot hc
        subst hspot
        refine .inr ⟨b, off, rfl, World.block_lt_of_cell? _ _ hc, fun j hj => ?_⟩
        rw [hget j hj]
        obtain ⟨⟨a', n', c', hc', h2, h3⟩, _⟩ := hF j (by omega)
        rw [add_plain] at hc'
        exact ⟨a', n', c', hc', h2, h3⟩
    · intro b hb
      obtain ⟨i, hi, rfl⟩ := List.mem_map.1 hb
      have hi' := List.mem_range.1 hi
      obtain ⟨⟨a', n', c', _, _, h3⟩, _⟩ := hF i (by omega)
      exact h3.byte

end Go.Proofs.YteadkfcbgphgnaaDoor
