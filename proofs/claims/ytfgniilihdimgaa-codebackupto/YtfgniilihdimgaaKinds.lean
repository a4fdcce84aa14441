/-
  The kinds of a row of fields, if each is as its kind has it (the law's own 'kindsOf').
-/
import Derived.Test.YtfgniilihdimgaaRefFields
import Derived.Test.YtfgniilihdimgaaBackMath
namespace Go.Proofs.Ytfgniilihdimgaa
open Go.ChangeShapes Go.WideShapes Go.ChangeAt Go.RowKit
set_option linter.unusedVariables false

theorem info3 : (Try.prog.info? 3).map (fun i => (i.zero, i.size, i.bytes)) = some (some (.int .i64 0), 1, 8) := by kernel_rfl
abbrev iv (n : Int) : Value := .int .i64 n

theorem row_ints {base : Nat} {w : World} {v : Value} {zs : List Int} (h : w.ownsRow base 3 1 v zs.length (zs.map iv)) (hb : ∀ z ∈ zs, (Lit.int .i64 z).wf = true) : ∃ a n cap, v = .slice a n cap ∧ Row .i64 w a n cap zs := by
  rcases h.2 with ⟨rfl, hn⟩ | ⟨g, cap, cur, rfl, hg, hh, hn, hc, hcs, ht⟩
  · have e : zs = [] := by simpa using hn
    subst e
    exact ⟨none, 0, 0, rfl, row_nil _ _⟩
  · refine ⟨_, _, _, rfl, ⟨rfl, hn, fun h => (by cases h), hb, .inr ⟨g, 0, rfl, (Array.getElem?_eq_some_iff.1 hh).1, fun k hk => ?_⟩⟩⟩
    rw [Nat.zero_add, World.ownsRow.cellAt h k (by omega)]
    simp [List.getD, List.getElem?_eq_getElem (show k < zs.length by omega)]
theorem RowF.one {w : World} {b off len cap : Nat} {fs : List Fld} (R : RowF w (some ⟨b, off, none⟩) len cap fs) {j : Nat} (hj : j < len) {f : Fld} (hf : fs.getD j fldZ = f) : RowF w (some ⟨b, off + j * 4, none⟩) 1 (cap - j) [f] where
  size := rfl
  le := by have := R.le; omega
  nil := fun h => by cases h
  wf := by
    intro g hg
    simp at hg
    subst hg
    rw [← hf]
    exact R.wf _ (getD_mem (by rw [R.size]; exact hj))
  mem := by
    obtain ⟨b', off', e, hb, hc⟩ := R.mem.resolve_left (by omega)
    simp at e
    obtain ⟨rfl, rfl⟩ := e
    refine .inr ⟨b, off + j * 4, rfl, hb, fun k hk => ?_⟩
    have : k = 0 := by omega
    subst this
    have := hc j hj
    rw [hf] at this
    simpa using this
theorem out_one {f : Fld} (h : fitF f = true) : fldsOut [f] = encF1 f := by simp [fldsOut, h, flds]
theorem out_none {f : Fld} (h : fitF f = false) : fldsOut [f] = [] := by simp [fldsOut, h]
theorem encF1_len' (f : Fld) : (encF1 f).length ≤ f.text.size + 10 := by
  unfold encF1 encFld
  split
  · have := (enc_length f.num).2; omega
  · split
    · have := (enc_length (sg f.num)).2; omega
    · split
      · have := (enc_length (f.text.size : Int)).2
        simp only [txt, List.length_append, bytesL_length]; omega
      · simp [flg]

theorem owns_up {W W' : World} {base : Nat} {e : TypeId} {size : Nat} {v : Value} {n : Nat} {xs : List Value} (h : W.ownsRow base e size v n xs) (hb : Below W.heap.size W W') : W'.ownsRow base e size v n xs := by
  refine ⟨h.1, ?_⟩
  rcases h.2 with hn | ⟨g, cap, cur, rfl, hg, hh, r⟩
  · exact .inl hn
  · exact .inr ⟨g, cap, cur, rfl, hg, (hb.block g (World.ownsRow.lt h g rfl).2).trans hh, r⟩

def KindsOut (w : World) (fs : List Fld) (e : Ending) (w' : World) : Prop :=
  Below w.heap.size w w' ∧ ((fs.all fitF = true ∧ ∃ a n c, e = .returned (.tuple #[.slice a n c, .bool true]) ∧ Row .i64 w' a n c (fs.map Fld.kind)) ∨
    (fs.all fitF = false ∧ e = .returned (.tuple #[.slice none 0 0, .bool false])))

set_option maxHeartbeats 4000000 in
theorem kinds_any (a : Option Addr) (len cap : Nat) (fs : List Fld) (w : World) (R : RowF w a len cap fs) (hl : len ≤ 1048576) (hcm : cap ≤ 9223372036854775807) :
    Calls Try.prog 25 #[.slice a len cap] w (KindsOut w fs) := by
  obtain ⟨i0, hi, hz0, hz1, hz2⟩ := info_parts info3
  have HL : Hid (fs.length = len) := R.size
  have HR : Hid (RowF w a len cap fs) := R
  have hlc := R.le
  clear R
  go_enter Try.func25, Try.ntmps25
  go_wp2
  go_loopg [4, 5] len (fun g v c wr => ∃ (j : Nat), c = .int .i64 j ∧ j + g = len ∧ wr.ownsRow w.heap.size 3 1 v j ((fs.take j).map fun f => iv f.kind) ∧ Hid ((fs.take j).all fitF = true) ∧ Below w.heap.size w wr)
  case atStart => exact ⟨0, rfl, by omega, World.ownsRow_nil _ _ _ _, rfl, Below.refl _ _⟩
  case round =>
    obtain ⟨j, rfl, hg, hown, HA, hB⟩ := hrel
    have HG : Hid (j + gk = len) := hg
    have hj : j ≤ len := by omega
    clear hg
    have hbs := hB.size
    by_cases hlt : j < len
    · obtain ⟨b, off, rfl, hb, hc⟩ := HR.out.mem.resolve_left (by omega)
      have hI : (j : Int) < (len : Int) := by omega
      obtain ⟨d0, d1, d2, d3⟩ := hc j hlt
      have hm := HR.out.wf _ (getD_mem (fs := fs) (j := j) (by have := HL.out; omega))
      obtain ⟨f, hf⟩ : ∃ f, fs.getD j fldZ = f := ⟨_, rfl⟩
      have R1 := (HR.out.below hB).one hlt hf
      rw [hf] at d0 hm
      clear d1 d2 d3 hc
      have HF : Hid (fs.getD j fldZ = f) := hf
      clear hf
      have hcj : ¬ cap = j := by omega
      have s1 : (0 : Int) ≤ (j : Int) := by omega
      have s2 : (j : Int) ≤ (j : Int) + 1 := by omega
      have s3 : (j : Int) + 1 ≤ (cap : Int) := by omega
      have hel := encF1_len' f
      have hT1 : (flds [f]).length ≤ 70368740000000 := by simp [flds]; omega
      by_cases hfit : fitF f = true
      · have hpos := enc1_pos hfit
        have HO : Hid (fldsOut [f] = encF1 f) := out_one hfit
        have hne : (((encF1 f).length : Int) == 0) = false := by simp only [beq_eq_false_iff_ne, ne_eq]; omega
        have E : Hid (fs.take (j + 1) = fs.take j ++ [f]) := by show _ = _; rw [take_snocF fs j (by have := HL.out; omega), HF.out]
        have HA' : Hid ((fs.take (j + 1)).all fitF = true) := all_take HA.out E.out hfit
        go_wp2_with (first
          | (go_at_call 21; refine (rfields_any _ _ _ [f] _ R1 (by omega) hT1).mono ?_; rintro e w1 ⟨v1, rfl, o1, b1⟩; rw [HO.out] at o1; obtain ⟨a1, c1, hv1⟩ := own_len o1; subst hv1; have B1 : Below w.heap.size w w1 := hB.trans (b1.mono hbs); have z1 := B1.size; have c0 := (B1.cell (p := ⟨b, off + j * 4, none⟩) hb).trans d0; have own1 := owns_up hown b1)
          | (at_builtin; refine wpList_append_own _ rfl _ _ 34 rfl w.heap.size 3 i0 (.int .i64 0) 1 8 Try.underlying34 hi hz0 hz1 hz2 rfl (by decide) _ _ _ rfl (own1.alloc _) ⟨w1.heap.size, 0, none⟩ 1 1 [.int .i64 f.kind] rfl rfl (cell_one_new _ _ _) (by simp [Value.oneCell']) (by unfold maxLen; omega) (by omega) (by simp; omega) ?_))
        intro v' w2 own2 hg2 _
        have B2 : Below w.heap.size w w2 := (B1.alloc z1 _).grown hg2 (by simp; omega) (fun k hk => (World.ownsRow.lt hown k hk).1)
        clear own1 hg2 hown o1 b1
        go_wp2
        go_roundg (gk - 1)
        case measure => have := HG.out; omega
        case rel => exact ⟨j + 1, by go_num, by have := HG.out; omega, by rw [E.out, List.map_append]; simpa [List.map_take] using own2, HA', B2⟩
      · have hfit : fitF f = false := by simpa using hfit
        have HO : Hid (fldsOut [f] = []) := out_none hfit
        have HN : Hid (fs.all fitF = false) := all_at (j := j) (by have := HL.out; omega) (by rw [HF.out]; exact hfit)
        go_wp2_with (go_at_call 21; refine (rfields_any _ _ _ [f] _ R1 (by omega) hT1).mono ?_; rintro e w1 ⟨v1, rfl, o1, b1⟩; rw [HO.out] at o1; obtain ⟨a1, c1, hv1⟩ := own_len o1; replace hv1 : v1 = .slice a1 0 c1 := hv1; subst hv1)
        go_ret2
        exact ⟨hB.trans (b1.mono hbs), .inr ⟨HN.out, rfl⟩⟩
    · have e : fs.take j = fs := List.take_of_length_le (by have := HL.out; omega)
      have h2 := HA.out
      rw [e] at h2 hown
      have hlen : j = (fs.map Fld.kind).length := by have := HL.out; simp; omega
      have own2 : wr.ownsRow w.heap.size 3 1 u4 (fs.map Fld.kind).length ((fs.map Fld.kind).map iv) := by
        rw [← hlen, List.map_map]; exact hown
      obtain ⟨a', n', c', hv, R'⟩ := row_ints own2 (by
        intro z hz
        obtain ⟨f, hf, rfl⟩ := List.mem_map.1 hz
        exact WalkArith.wf_i64 (HR.out.wf f hf).1)
      subst hv
      have HX : Hid (fs.all fitF = true) := h2
      have HRR : Hid (Row .i64 wr a' n' c' (fs.map Fld.kind)) := R'
      clear h2 e hlen own2 hown R'
      go_wp2
      go_ret2
      exact ⟨hB, .inl ⟨HX.out, _, _, _, rfl, HRR.out⟩⟩

end Go.Proofs.Ytfgniilihdimgaa
