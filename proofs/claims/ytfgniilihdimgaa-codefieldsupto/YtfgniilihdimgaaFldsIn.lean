/-
  A row of fields as it came in, and what the bound on all that came in says of it.
-/
import Derived.Test.YtfgniilihdimgaaRowIn
import Derived.Test.YtfgniilihdimgaaFields
import Derived.Deep.Slices
import Derived.ChangeSame
namespace Go.Proofs.Ytfgniilihdimgaa
open Go.ChangeShapes Go.WideShapes Go.ChangeAt Go.RowKit Go.Deep
set_option linter.unusedVariables false

theorem str50 : (Try.prog.underlying 50).map (fun d => match d with | .struct fs => (fs.toList.map fun f => (f.offset, f.type)) | _ => []) = some [(0, 3), (1, 2), (2, 9), (3, 4)] := by kernel_rfl
theorem cells50 : Try.prog.cellsOf 50 = 4 := by kernel_rfl
theorem cell3 : Try.prog.cellsOf 3 = 1 := by kernel_rfl
theorem cell2 : Try.prog.cellsOf 2 = 1 := by kernel_rfl
theorem cell9 : Try.prog.cellsOf 9 = 1 := by kernel_rfl
theorem cell4 : Try.prog.cellsOf 4 = 1 := by kernel_rfl

theorem plain_add (b off k : Nat) : (⟨b, off, none⟩ : Addr).add k = ⟨b, off + k, none⟩ := by unfold Addr.add; split <;> simp_all

/-- A field as a datum. -/
def fdat {H : Type} (f : Fld) : DataW H := .agg [.lit (.int .i64 f.kind), .lit (.int .i64 f.num), .lit (.string f.text.data.toList), .lit (.bool f.is)]

theorem open_fld {H : Type} {enc : TypeId × Value → H} {W : World} {base n : Nat} {sp : Nat → Bool} {held : Bool} {ad : Addr} {cs : List Value} {x : DataW H × List MemPlace}
    (h1 : W.cells? base ad 4 = some cs) (h2 : DataW.trod enc Try.prog W base sp held n 50 cs = some x) :
    ∃ f : Fld, x.1 = fdat f ∧ W.cell? (ad.add 0) = some (.int .i64 f.kind) ∧ W.cell? (ad.add 1) = some (.int .i64 f.num) ∧ W.cell? (ad.add 2) = some (.string f.text) ∧ W.cell? (ad.add 3) = some (.bool f.is) ∧
      (Lit.int .i64 f.kind).wf = true ∧ (Lit.int .i64 f.num).wf = true := by
  obtain ⟨_, hlen, hcell⟩ := World.cells?_some h1
  have hu : ∃ fs, Try.prog.underlying 50 = some (.struct fs) ∧ fs.toList.map (fun f => (f.offset, f.type)) = [(0, 3), (1, 2), (2, 9), (3, 4)] := by
    have h := str50
    cases hd : Try.prog.underlying 50 with
    | none => rw [hd] at h; simp at h
    | some d =>
      rw [hd] at h
      cases d <;> simp at h
      exact ⟨_, rfl, by simpa using h⟩
  obtain ⟨fs, hu, hfs⟩ := hu
  obtain ⟨xs, k, hk, hxy, _, hxl, hf⟩ := DataW.trod_struct hu h2
  have hl : fs.toList.length = 4 := by have := congrArg List.length hfs; simpa using this
  obtain ⟨g0, g1, g2, g3, hg⟩ : ∃ g0 g1 g2 g3, fs.toList = [g0, g1, g2, g3] := by
    match fs.toList, hl with
    | [g0, g1, g2, g3], _ => exact ⟨g0, g1, g2, g3, rfl⟩
  have hfs' : fs = #[g0, g1, g2, g3] := by apply Array.ext'; simpa using hg
  subst hfs'
  simp only [List.map_cons, List.map_nil, List.cons.injEq, Prod.mk.injEq] at hfs
  obtain ⟨⟨o0, t0⟩, ⟨o1, t1⟩, ⟨o2, t2⟩, ⟨o3, t3⟩, _⟩ := hfs
  match xs, hxl, cs, hlen with
  | [y0, y1, y2, y3], _, [v0, v1, v2, v3], _ =>
    have e0 := hf 0 g0 rfl
    have e1 := hf 1 g1 rfl
    have e2 := hf 2 g2 rfl
    have e3 := hf 3 g3 rfl
    simp [o0, t0, cell3] at e0
    simp [o1, t1, cell2] at e1
    simp [o2, t2, cell9] at e2
    simp [o3, t3, cell4] at e3
    obtain ⟨a0, q0, r0, w0⟩ := DataW.trod_int Try.underlying3 e0
    obtain ⟨a1, q1, r1, w1⟩ := DataW.trod_int Try.underlying2 e1
    obtain ⟨a2, q2, r2, w2⟩ := DataW.trod_string Try.underlying9 e2
    obtain ⟨a3, q3, r3⟩ := DataW.trod_bool Try.underlying4 e3
    simp at q0 q1 q2 q3
    subst q0 q1 q2 q3
    have c0 := hcell 0 (by omega)
    have c1 := hcell 1 (by omega)
    have c2 := hcell 2 (by omega)
    have c3 := hcell 3 (by omega)
    refine ⟨⟨a0, a1, a2, a3⟩, ?_, by simpa using c0, by simpa using c1, by simpa using c2, by simpa using c3, w0, w1⟩
    rw [hxy]
    simp [fdat, r0, r1, r2, r3]

/-- How much a row of fields weighs. -/
def fsum (fs : List Fld) : Nat := (fs.map fun f => f.text.size + 5).sum
theorem fsum_mem {fs : List Fld} {f : Fld} (h : f ∈ fs) : f.text.size + 5 ≤ fsum fs := by
  induction fs with
  | nil => cases h
  | cons x r ih =>
    simp only [fsum, List.map_cons, List.sum_cons]
    rcases List.mem_cons.1 h with rfl | h
    · omega
    · have := ih h; simp only [fsum] at this; omega
theorem fsum_len (fs : List Fld) : 5 * fs.length ≤ fsum fs := by
  induction fs with
  | nil => simp [fsum]
  | cons x r ih => simp only [fsum, List.map_cons, List.sum_cons, List.length_cons] at *; omega
theorem bulk_fdat {H : Type} (f : Fld) : Rows.uptoBulk (fdat (H := H) f) = f.text.size + 5 := by
  simp [fdat, Rows.uptoBulk, Rows.uptoBulkAll]
  omega
theorem bulk_flds {H : Type} (fs : List Fld) : Rows.uptoBulkAll (fs.map (fdat (H := H))) = fsum fs := by
  induction fs with
  | nil => rfl
  | cons x r ih => simp only [List.map_cons, Rows.uptoBulkAll, bulk_fdat, ih, fsum, List.sum_cons]
theorem encF1_len (f : Fld) : (encF1 f).length ≤ f.text.size + 10 := by
  unfold encF1 encFld
  split
  · have := (enc_length f.num).2; omega
  · split
    · have := (enc_length (sg f.num)).2; omega
    · split
      · have := (enc_length (f.text.size : Int)).2
        simp only [txt, List.length_append, bytesL_length]; omega
      · simp [flg]
theorem flds_len (fs : List Fld) : (flds fs).length ≤ 2 * fsum fs := by
  induction fs with
  | nil => simp [flds, fsum]
  | cons x r ih =>
    have := encF1_len x
    simp only [flds, List.flatMap_cons, List.length_append, fsum, List.map_cons, List.sum_cons] at *
    omega

theorem open_flds {H : Type} {enc : TypeId × Value → H} {W : World} {a : Option Addr} {len cap : Nat} {d : DataW H} {ps : List MemPlace}
    (h : DataW.Trod enc Try.prog W 0 (fun _ => true) true 31 (.slice a len cap) d ps) (hbd : Rows.uptoBulk d ≤ 1048576) : ∃ fs, RowF W a len cap fs ∧ cap + 1 ≤ Rows.uptoBulk d ∧ fsum fs + 1 ≤ Rows.uptoBulk d ∧ cap ≤ maxLen := by
  obtain ⟨fuel, hf⟩ := h
  rcases open_slice Try.underlying31 hf with ⟨hcs, hx⟩ | ⟨x, l, c, m, n, D, Pl, hcs, _, hl, hm, hmm, hx, hel⟩
  · simp [Value.cells] at hcs
    obtain ⟨rfl, rfl, rfl⟩ := hcs
    refine ⟨[], ⟨rfl, Nat.le_refl _, fun _ => ⟨rfl, rfl⟩, fun f hf => (by cases hf), .inl rfl⟩, ?_, ?_, Nat.zero_le _⟩
    · have := bulk_one d; omega
    · have := bulk_one d; simp [fsum]; omega
  · simp [Value.cells] at hcs
    obtain ⟨rfl, rfl, rfl⟩ := hcs
    simp only [Prod.mk.injEq] at hx
    obtain ⟨hd, _⟩ := hx
    have hmc : m = cap := by simpa using hmm
    subst hmc
    rw [cells50] at hel
    have each : ∀ i, i < m → ∃ f : Fld, D i = fdat f ∧ W.cell? ((x.add (i * 4)).add 0) = some (.int .i64 f.kind) ∧ W.cell? ((x.add (i * 4)).add 1) = some (.int .i64 f.num) ∧ W.cell? ((x.add (i * 4)).add 2) = some (.string f.text) ∧ W.cell? ((x.add (i * 4)).add 3) = some (.bool f.is) ∧
        (Lit.int .i64 f.kind).wf = true ∧ (Lit.int .i64 f.num).wf = true := by
      intro i hi
      obtain ⟨cs', h1, h2⟩ := hel i hi
      obtain ⟨f, q⟩ := open_fld h1 h2
      exact ⟨f, q⟩
    have inh : Inhabited Fld := ⟨fldZ⟩
    obtain ⟨F, hF⟩ := choose_lt each
    have e1 : (List.range len).map D = ((List.range len).map F).map fdat := by
      rw [List.map_map]
      exact List.map_congr_left fun i hi => (hF i (by have := List.mem_range.1 hi; omega)).1
    have hbulk : fsum ((List.range len).map F) + (m - len) + 1 ≤ Rows.uptoBulk d := by
      rw [hd]
      simp only [Rows.uptoBulk, e1, bulk_flds]
      have := bulk_len (H := H) ((List.range (m - len)).map fun j => D (len + j))
      simp only [List.length_map, List.length_range] at this
      omega
    have hlen := fsum_len ((List.range len).map F)
    simp only [List.length_map, List.length_range] at hlen
    have hget : ∀ j, j < len → ((List.range len).map F).getD j fldZ = F j := by
      intro j hj
      simp [List.getD, hj]
    refine ⟨(List.range len).map F, ⟨by simp, hl, fun h => (by cases h), ?_, ?_⟩, by omega, by omega, hm⟩
    · intro f hf'
      have h5 := fsum_mem hf'
      obtain ⟨i, hi, rfl⟩ := List.mem_map.1 hf'
      have hi' := List.mem_range.1 hi
      obtain ⟨_, _, _, _, _, w0, w1⟩ := hF i (by omega)
      exact ⟨wf_i64 w0, wf_i64 w1, by omega⟩
    · by_cases h0 : len = 0
      · exact .inl h0
      · obtain ⟨b, off, spot⟩ := x
        have hc := (hF 0 (by omega)).2.1
        have hspot : spot = none := by simpa [Addr.add] using World.cell?_spot hc
        subst hspot
        refine .inr ⟨b, off, rfl, World.block_lt_of_cell? _ _ hc, fun j hj => ?_⟩
        rw [hget j hj]
        obtain ⟨_, k0, k1, k2, k3, _, _⟩ := hF j (by omega)
        simp only [plain_add, Nat.add_zero] at k0 k1 k2 k3
        exact ⟨k0, k1, k2, k3⟩

end Go.Proofs.Ytfgniilihdimgaa
