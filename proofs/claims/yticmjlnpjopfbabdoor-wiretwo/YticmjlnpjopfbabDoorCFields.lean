/-
  Writing a row of fields (Fields), and the document's own.
-/
import Derived.Test.YticmjlnpjopfbabDoorCPutField
import Derived.Test.YticmjlnpjopfbabDoorCRefWrite
namespace Go.Proofs.YticmjlnpjopfbabDoor.C
open Go.ChangeShapes Go.WideShapes Go.ChangeAt Go.RowKit
set_option linter.unusedVariables false

def fldZ : Fld := ⟨0, 0, ⟨#[]⟩, false⟩
def fitF (f : Fld) : Bool := fitB f.kind f.num f.text f.is
def encF1 (f : Fld) : List Int := encFld f.kind f.num f.text f.is
/-- A row of fields as bytes. -/
def flds (fs : List Fld) : List Int := fs.flatMap encF1
/-- What is written for a row of fields. -/
def fldsOut (fs : List Fld) : List Int := if fs.all fitF then flds fs else []

/-- The fields that a slice value leads to in a world. -/
structure RowF (w : World) (a : Option Addr) (len cap : Nat) (fs : List Fld) : Prop where
  size : fs.length = len
  le : len ≤ cap
  nil : a = none → len = 0 ∧ cap = 0
  wf : ∀ f ∈ fs, (-9223372036854775808 ≤ f.kind ∧ f.kind ≤ 9223372036854775807) ∧ (-9223372036854775808 ≤ f.num ∧ f.num ≤ 9223372036854775807) ∧ f.text.size ≤ 1048576
  mem : len = 0 ∨ ∃ b off, a = some ⟨b, off, none⟩ ∧ b < w.heap.size ∧ ∀ j, j < len →
    w.cell? ⟨b, off + j * 4, none⟩ = some (.int .i64 (fs.getD j fldZ).kind) ∧ w.cell? ⟨b, off + j * 4 + 1, none⟩ = some (.int .i64 (fs.getD j fldZ).num) ∧
    w.cell? ⟨b, off + j * 4 + 2, none⟩ = some (.string (fs.getD j fldZ).text) ∧ w.cell? ⟨b, off + j * 4 + 3, none⟩ = some (.bool (fs.getD j fldZ).is)
theorem RowF.below {w w' : World} {a : Option Addr} {len cap : Nat} {fs : List Fld} (R : RowF w a len cap fs) (hb : Below w.heap.size w w') : RowF w' a len cap fs where
  size := R.size
  le := R.le
  nil := R.nil
  wf := R.wf
  mem := R.mem.imp id fun ⟨b, off, e, h, c⟩ => ⟨b, off, e, Nat.lt_of_lt_of_le h hb.size, fun k hk =>
    ⟨(hb.cell (p := ⟨b, off + k * 4, none⟩) h).trans (c k hk).1, (hb.cell (p := ⟨b, off + k * 4 + 1, none⟩) h).trans (c k hk).2.1, (hb.cell (p := ⟨b, off + k * 4 + 2, none⟩) h).trans (c k hk).2.2.1, (hb.cell (p := ⟨b, off + k * 4 + 3, none⟩) h).trans (c k hk).2.2.2⟩⟩

theorem take_snocF (fs : List Fld) (j : Nat) (h : j < fs.length) : fs.take (j + 1) = fs.take j ++ [fs.getD j fldZ] := by
  rw [List.take_succ_eq_append_getElem h]
  simp [List.getD, List.getElem?_eq_getElem h]
theorem flds_snoc (fs : List Fld) (f : Fld) : flds (fs ++ [f]) = flds fs ++ encF1 f := by simp [flds]
theorem flds_take_le (fs : List Fld) (j : Nat) : (flds (fs.take j)).length ≤ (flds fs).length := by
  have : flds fs = flds (fs.take j) ++ flds (fs.drop j) := by
    unfold flds
    rw [← List.flatMap_append, List.take_append_drop]
  rw [this, List.length_append]
  omega
theorem all_at {fs : List Fld} {j : Nat} (h : j < fs.length) (hn : fitF (fs.getD j fldZ) = false) : fs.all fitF = false := by
  rw [List.all_eq_false]
  refine ⟨fs.getD j fldZ, ?_, by rw [hn]; simp⟩
  simp [List.getD, List.getElem?_eq_getElem h]
theorem Four.below {W W' : World} {k : Nat} {v0 v1 v2 v3 : Value} (h : Four W k v0 v1 v2 v3) (hb : Below W.heap.size W W') : Four W' k v0 v1 v2 v3 := h.of_block (hb.block k h.lt) hb.size
theorem getD_mem {fs : List Fld} {j : Nat} (h : j < fs.length) : fs.getD j fldZ ∈ fs := by simp [List.getD, List.getElem?_eq_getElem h]

set_option maxHeartbeats 2000000 in
theorem fields_any (a : Option Addr) (len cap : Nat) (fs : List Fld) (w : World) (R : RowF w a len cap fs) (hl : len ≤ 70368744170000) (hT : (flds fs).length ≤ 70368740000000) :
    Calls Tryd.prog 20 #[.slice a len cap] w fun e w' => ∃ v, e = .returned v ∧ Own w.heap.size w' v (fldsOut fs) ∧ Below w.heap.size w w' := by
  have HL : Hid (fs.length = len) := R.size
  have HR : Hid (RowF w a len cap fs) := R
  clear R
  go_enter Tryd.func20, Tryd.ntmps20
  go_wp2
  go_loopg [3, 8] len (fun g b c wr => ∃ (j : Nat), c = .int .i64 j ∧ j + g = len ∧ Own w.heap.size wr b (flds (fs.take j)) ∧ Hid ((fs.take j).all fitF = true) ∧ Below w.heap.size w wr)
  case atStart => exact ⟨0, rfl, by omega, Own.nil _ _, rfl, Below.refl _ _⟩
  case round =>
    obtain ⟨j, rfl, hg, hown, HA, hB⟩ := hrel
    have HG : Hid (j + gk = len) := hg
    have hj : j ≤ len := by omega
    clear hg
    have hbs := hB.size
    by_cases hlt : j < len
    · obtain ⟨b, off, rfl, hb, hc⟩ := HR.out.mem.resolve_left (by omega)
      have hI : (j : Int) < (len : Int) := by omega
      obtain ⟨d0, d1, d2, d3⟩ := hc j hlt
      have hm := HR.out.wf _ (getD_mem (fs := fs) (j := j) (by have := HL.out; omega))
      obtain ⟨f, hf⟩ : ∃ f, fs.getD j fldZ = f := ⟨_, rfl⟩
      rw [hf] at d0 d1 d2 d3 hm
      have c0 := (hB.cell (p := ⟨b, off + j * 4, none⟩) hb).trans d0
      have c1 := (hB.cell (p := ⟨b, off + j * 4 + 1, none⟩) hb).trans d1
      have c2 := (hB.cell (p := ⟨b, off + j * 4 + 2, none⟩) hb).trans d2
      have c3 := (hB.cell (p := ⟨b, off + j * 4 + 3, none⟩) hb).trans d3
      clear d0 d1 d2 d3 hc
      have HF : Hid (fs.getD j fldZ = f) := hf
      clear hf
      have hTj := flds_take_le fs j
      by_cases hfit : fitB f.kind f.num f.text f.is = true
      · go_wp2_with (first
          | (go_at_call 34; refine (fit_any _ _ _ _ _).mono ?_; rintro e w1 ⟨rfl, hb1⟩; rw [hfit]; have F1 := Four.below (Four.new wr (.int .i64 f.kind) (.int .i64 f.num) (.string f.text) (.bool f.is) 60) hb1; obtain ⟨q0, q1, q2, q3, g0, g1, g2, g3, gz⟩ := id F1; have O1 := Own.below (hown.alloc _) hb1; have B1 : Below w.heap.size w w1 := (hB.alloc hbs _).trans (hb1.mono (by simp; omega)); have z1 := B1.size)
          | (go_at_call 35; refine (putField_any w.heap.size _ _ _ _ _ _ _ O1 z1 (by omega) hm.2.1.1 hm.2.1.2 hfit).mono ?_; rintro e w2 ⟨v2, rfl, ho2, hb2⟩))
        go_roundg (gk - 1)
        case measure => have := HG.out; omega
        case rel =>
          have E : fs.take (j + 1) = fs.take j ++ [f] := by rw [take_snocF fs j (by have := HL.out; omega), HF.out]
          refine ⟨j + 1, by go_num, by have := HG.out; omega, ?_, ?_, B1.trans hb2⟩
          · rw [E, flds_snoc]; exact ho2
          · show _ = _
            rw [E, List.all_append, HA.out]
            simp [fitF, hfit]
      · have hfit : fitB f.kind f.num f.text f.is = false := by simpa using hfit
        have HE : Hid (fldsOut fs = []) := by
          show _ = _
          unfold fldsOut
          rw [all_at (j := j) (by have := HL.out; omega) (by rw [HF.out]; exact hfit)]
          rfl
        go_wp2_with (go_at_call 34; refine (fit_any _ _ _ _ _).mono ?_; rintro e w1 ⟨rfl, hb1⟩; rw [hfit])
        go_ret
        rw [HE.out]
        exact ⟨_, rfl, Own.nil _ _, (hB.alloc hbs _).trans (hb1.mono (by simp; omega))⟩
    · have HE : Hid (fldsOut fs = flds (fs.take j)) := by
        show _ = _
        have e : fs.take j = fs := List.take_of_length_le (by have := HL.out; omega)
        unfold fldsOut
        have h := HA.out
        rw [e] at h
        rw [h, e]
        rfl
      go_wp2
      go_ret
      rw [HE.out]
      exact ⟨_, rfl, hown, hB⟩


theorem flds_byte_take {fs : List Fld} (hw : ∀ f ∈ fs, (-9223372036854775808 ≤ f.kind ∧ f.kind ≤ 9223372036854775807) ∧ (-9223372036854775808 ≤ f.num ∧ f.num ≤ 9223372036854775807) ∧ f.text.size ≤ 1048576) (hf : fs.all fitF = true) : ∀ c ∈ flds fs, 0 ≤ c ∧ c < 256 := by
  intro c hc
  simp only [flds, List.mem_flatMap] at hc
  obtain ⟨f, hm, hc⟩ := hc
  have h1 := hw f hm
  have h2 : fitF f = true := List.all_eq_true.1 hf f hm
  unfold encF1 encFld at hc
  split at hc
  · rename_i hk
    have : 0 ≤ f.num := by
      unfold fitF at h2
      rw [hk] at h2
      exact fit_pos h2
    exact enc_byte this (by omega) c hc
  · split at hc
    · exact enc_byte (sg_bd h1.2.1.1 h1.2.1.2).1 (sg_bd h1.2.1.1 h1.2.1.2).2 c hc
    · split at hc
      · unfold txt at hc
        rcases List.mem_append.1 hc with hc | hc
        · exact enc_byte (by omega) (by omega) c hc
        · exact bytesL_byte _ c hc
      · cases hb : f.is <;> simp [flg, hb] at hc <;> omega

end Go.Proofs.YticmjlnpjopfbabDoor.C
