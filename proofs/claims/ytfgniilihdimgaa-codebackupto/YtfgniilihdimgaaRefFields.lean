/-
  The document's own writing of a row of fields.
-/
import Derived.Test.YtfgniilihdimgaaFields
namespace Go.Proofs.Ytfgniilihdimgaa
open Go.ChangeShapes Go.WideShapes Go.ChangeAt Go.RowKit
set_option linter.unusedVariables false
set_option linter.unusedSimpArgs false

theorem all_take {fs : List Fld} {j : Nat} {f : Fld} (h : (fs.take j).all fitF = true) (e : fs.take (j + 1) = fs.take j ++ [f]) (hf : fitF f = true) : (fs.take (j + 1)).all fitF = true := by
  rw [e, List.all_append, h]
  simp [hf]
theorem Own.rowN {base : Nat} {w : World} {v : Value} {zs : List Int} (h : Own base w v zs) (hb : ∀ c ∈ zs, 0 ≤ c ∧ c < 256) : ∃ a n cap, v = .slice a n cap ∧ Row .u8 w a n cap zs :=
  let ⟨a, c, h1, h2⟩ := h.row hb
  ⟨a, _, c, h1, h2⟩

set_option maxHeartbeats 4000000 in
theorem rfields_any (a : Option Addr) (len cap : Nat) (fs : List Fld) (w : World) (R : RowF w a len cap fs) (hl : len ≤ 70368744170000) (hT : (flds fs).length ≤ 70368740000000) :
    Calls Try.prog 21 #[.slice a len cap] w fun e w' => ∃ v, e = .returned v ∧ Own w.heap.size w' v (fldsOut fs) ∧ Below w.heap.size w w' := by
  have HL : Hid (fs.length = len) := R.size
  have HR : Hid (RowF w a len cap fs) := R
  clear R
  go_enter Try.func21, Try.ntmps21
  go_wp2
  go_loopg [3, 4] len (fun g b c wr => ∃ (j : Nat), c = .int .i64 j ∧ j + g = len ∧ Own w.heap.size wr b (flds (fs.take j)) ∧ Hid ((fs.take j).all fitF = true) ∧ Below w.heap.size w wr)
  case atStart => exact ⟨0, rfl, by omega, Own.nil _ _, rfl, Below.refl _ _⟩
  case round =>
    obtain ⟨j, rfl, hg, hown, HA, hB⟩ := hrel
    have HG : Hid (j + gk = len) := hg
    have hj : j ≤ len := by omega
    clear hg
    have hbs := hB.size
    by_cases hlt : j < len
    · obtain ⟨b, off, rfl, hb, hc⟩ := HR.out.mem.resolve_left (by omega)
      have hI : (j : Int) < (len : Int) := by omega
      obtain ⟨d0, d1, d2, d3⟩ := hc j hlt
      have hm := HR.out.wf _ (getD_mem (fs := fs) (j := j) (by have := HL.out; omega))
      obtain ⟨f, hf⟩ : ∃ f, fs.getD j fldZ = f := ⟨_, rfl⟩
      rw [hf] at d0 d1 d2 d3 hm
      have c0 := (hB.cell (p := ⟨b, off + j * 4, none⟩) hb).trans d0
      have c1 := (hB.cell (p := ⟨b, off + j * 4 + 1, none⟩) hb).trans d1
      have c2 := (hB.cell (p := ⟨b, off + j * 4 + 2, none⟩) hb).trans d2
      have c3 := (hB.cell (p := ⟨b, off + j * 4 + 3, none⟩) hb).trans d3
      clear d0 d1 d2 d3 hc
      have HF : Hid (fs.getD j fldZ = f) := hf
      clear hf
      have hTj := flds_take_le fs j
      obtain ⟨a0, n0, p0, hv0, R0⟩ := hown.rowN (flds_byte_take (fun f hf => HR.out.wf f (List.mem_of_mem_take hf)) HA.out)
      subst hv0
      have hn0 := R0.size
      have hn1 : n0 ≤ 70368740000000 := by omega
      clear hn0
      by_cases hfit : fitB f.kind f.num f.text f.is = true
      · have E : Hid (fs.take (j + 1) = fs.take j ++ [f]) := by show _ = _; rw [take_snocF fs j (by have := HL.out; omega), HF.out]
        have HA' : Hid ((fs.take (j + 1)).all fitF = true) := all_take HA.out E.out hfit
        by_cases k1 : f.kind = 1
        · have e1 : (f.kind == 1) = true := by simpa using k1
          have hpos : 0 ≤ f.num := by have h := hfit; rw [k1] at h; exact fit_pos h
          have HX : Hid (encF1 f = enc f.num) := by show _ = _; simp [encF1, encFld, k1]
          clear k1
          go_wp2_with (first
            | (go_at_call 34; refine (right_any _ _ _ _ _).mono ?_; rintro e w1 ⟨rfl, hb1⟩; rw [hfit]; have F1 := Four.below (Four.new wr (.int .i64 f.kind) (.int .i64 f.num) (.string f.text) (.bool f.is) 50) hb1; obtain ⟨q0, q1, q2, q3, g0, g1, g2, g3, gz⟩ := id F1; have R1 := Row.below (R0.alloc _) hb1; have B1 : Below w.heap.size w w1 := (hB.alloc hbs _).trans (hb1.mono (by simp; omega)); have z1 := B1.size)
            | (go_at_call 10; refine (rnumber_any _ _ _ _ f.num _ R1 (by omega) (by omega) (by omega)).mono ?_; rintro e w2 ⟨v2, rfl, ho2, hb2⟩))
          go_roundg (gk - 1)
          case measure => have := HG.out; omega
          case rel => exact ⟨j + 1, by go_num, by have := HG.out; omega, by rw [E.out, flds_snoc, HX.out]; exact ho2.at z1, HA', B1.trans (hb2.mono z1)⟩
        · by_cases k2 : f.kind = 2
          · have e2 : (f.kind == 2) = true := by simpa using k2
            have e1 : (f.kind == 1) = false := by simpa using k1
            have HX : Hid (encF1 f = enc (sg f.num)) := by show _ = _; simp [encF1, encFld, k1, k2]
            clear k2
            go_wp2_with (first
              | (go_at_call 34; refine (right_any _ _ _ _ _).mono ?_; rintro e w1 ⟨rfl, hb1⟩; rw [hfit]; have F1 := Four.below (Four.new wr (.int .i64 f.kind) (.int .i64 f.num) (.string f.text) (.bool f.is) 50) hb1; obtain ⟨q0, q1, q2, q3, g0, g1, g2, g3, gz⟩ := id F1; have R1 := Row.below (R0.alloc _) hb1; have B1 : Below w.heap.size w w1 := (hB.alloc hbs _).trans (hb1.mono (by simp; omega)); have z1 := B1.size)
              | (go_at_call 12; refine (rsigned_any _ _ _ _ f.num _ R1 (by omega) hm.2.1.1 hm.2.1.2).mono ?_; rintro e w2 ⟨v2, rfl, ho2, hb2⟩))
            go_roundg (gk - 1)
            case measure => have := HG.out; omega
            case rel => exact ⟨j + 1, by go_num, by have := HG.out; omega, by rw [E.out, flds_snoc, HX.out]; exact ho2.at z1, HA', B1.trans (hb2.mono z1)⟩
          · by_cases k3 : f.kind = 3
            · have e3 : (f.kind == 3) = true := by simpa using k3
              have e1 : (f.kind == 1) = false := by simpa using k1
              have e2 : (f.kind == 2) = false := by simpa using k2
              have HX : Hid (encF1 f = txt f.text) := by show _ = _; simp [encF1, encFld, k1, k2, k3]
              clear k3
              go_wp2_with (first
                | (go_at_call 34; refine (right_any _ _ _ _ _).mono ?_; rintro e w1 ⟨rfl, hb1⟩; rw [hfit]; have F1 := Four.below (Four.new wr (.int .i64 f.kind) (.int .i64 f.num) (.string f.text) (.bool f.is) 50) hb1; obtain ⟨q0, q1, q2, q3, g0, g1, g2, g3, gz⟩ := id F1; have R1 := Row.below (R0.alloc _) hb1; have B1 : Below w.heap.size w w1 := (hB.alloc hbs _).trans (hb1.mono (by simp; omega)); have z1 := B1.size)
                | (go_at_call 14; refine (rtext_any _ _ _ _ f.text _ R1 (by omega)).mono ?_; rintro e w2 ⟨v2, rfl, ho2, hb2⟩))
              go_roundg (gk - 1)
              case measure => have := HG.out; omega
              case rel => exact ⟨j + 1, by go_num, by have := HG.out; omega, by rw [E.out, flds_snoc, HX.out]; exact ho2.at z1, HA', B1.trans (hb2.mono z1)⟩
            · have k4 : f.kind = 4 := by rcases fit_kind hfit with h | h | h | h <;> simp_all
              have e4 : (f.kind == 4) = true := by simpa using k4
              have e1 : (f.kind == 1) = false := by simpa using k1
              have e2 : (f.kind == 2) = false := by simpa using k2
              have e3 : (f.kind == 3) = false := by simpa using k3
              have HX : Hid (encF1 f = flg f.is) := by show _ = _; simp [encF1, encFld, k1, k2, k3]
              clear k4
              go_wp2_with (first
                | (go_at_call 34; refine (right_any _ _ _ _ _).mono ?_; rintro e w1 ⟨rfl, hb1⟩; rw [hfit]; have F1 := Four.below (Four.new wr (.int .i64 f.kind) (.int .i64 f.num) (.string f.text) (.bool f.is) 50) hb1; obtain ⟨q0, q1, q2, q3, g0, g1, g2, g3, gz⟩ := id F1; have R1 := Row.below (R0.alloc _) hb1; have B1 : Below w.heap.size w w1 := (hB.alloc hbs _).trans (hb1.mono (by simp; omega)); have z1 := B1.size)
                | (go_at_call 16; refine (rflag_any _ _ _ _ f.is _ R1 (by omega)).mono ?_; rintro e w2 ⟨v2, rfl, ho2, hb2⟩))
              go_roundg (gk - 1)
              case measure => have := HG.out; omega
              case rel => exact ⟨j + 1, by go_num, by have := HG.out; omega, by rw [E.out, flds_snoc, HX.out]; exact ho2.at z1, HA', B1.trans (hb2.mono z1)⟩
      · have hfit : fitB f.kind f.num f.text f.is = false := by simpa using hfit
        have HE : Hid (fldsOut fs = []) := by
          show _ = _
          unfold fldsOut
          rw [all_at (j := j) (by have := HL.out; omega) (by rw [HF.out]; exact hfit)]
          rfl
        go_wp2_with (go_at_call 34; refine (right_any _ _ _ _ _).mono ?_; rintro e w1 ⟨rfl, hb1⟩; rw [hfit])
        go_ret
        rw [HE.out]
        exact ⟨_, rfl, Own.nil _ _, (hB.alloc hbs _).trans (hb1.mono (by simp; omega))⟩
    · have HE : Hid (fldsOut fs = flds (fs.take j)) := by
        show _ = _
        have e : fs.take j = fs := List.take_of_length_le (by have := HL.out; omega)
        unfold fldsOut
        have h := HA.out
        rw [e] at h
        rw [h, e]
        rfl
      go_wp2
      go_ret
      rw [HE.out]
      exact ⟨_, rfl, hown, hB⟩

end Go.Proofs.Ytfgniilihdimgaa
