/-
  Two rows of the same fields are the same (the law's own 'same').
-/
import Derived.Test.YtfgniilihdimgaaRead
import Derived.Test.YtfgniilihdimgaaFields
import Derived.Laws.StructEq
namespace Go.Proofs.Ytfgniilihdimgaa
open Go.ChangeShapes Go.WideShapes Go.ChangeAt Go.RowKit
set_option linter.unusedVariables false

/-- The fields that a slice value leads to in a world, whatever they are. -/
structure FsAt (w : World) (a : Option Addr) (len : Nat) (fs : List Fld) : Prop where
  size : fs.length = len
  mem : len = 0 ∨ ∃ b off, a = some ⟨b, off, none⟩ ∧ b < w.heap.size ∧ ∀ j, j < len →
    w.cell? ⟨b, off + j * 4, none⟩ = some (.int .i64 (fs.getD j fldZ).kind) ∧ w.cell? ⟨b, off + j * 4 + 1, none⟩ = some (.int .i64 (fs.getD j fldZ).num) ∧
    w.cell? ⟨b, off + j * 4 + 2, none⟩ = some (.string (fs.getD j fldZ).text) ∧ w.cell? ⟨b, off + j * 4 + 3, none⟩ = some (.bool (fs.getD j fldZ).is)
theorem RowF.at {w : World} {a : Option Addr} {len cap : Nat} {fs : List Fld} (R : RowF w a len cap fs) : FsAt w a len fs := ⟨R.size, R.mem⟩
theorem FsAt.below {w w' : World} {a : Option Addr} {len : Nat} {fs : List Fld} (R : FsAt w a len fs) (hb : Below w.heap.size w w') : FsAt w' a len fs where
  size := R.size
  mem := R.mem.imp id fun ⟨b, off, e, h, c⟩ => ⟨b, off, e, Nat.lt_of_lt_of_le h hb.size, fun k hk =>
    ⟨(hb.cell (p := ⟨b, off + k * 4, none⟩) h).trans (c k hk).1, (hb.cell (p := ⟨b, off + k * 4 + 1, none⟩) h).trans (c k hk).2.1, (hb.cell (p := ⟨b, off + k * 4 + 2, none⟩) h).trans (c k hk).2.2.1, (hb.cell (p := ⟨b, off + k * 4 + 3, none⟩) h).trans (c k hk).2.2.2⟩⟩

theorem flat_get (fs : List Fld) (j c : Nat) (hj : j < fs.length) (hc : c < 4) : (fs.flatMap fcells)[j * 4 + c]? = (fcells (fs.getD j fldZ))[c]? := by
  induction fs generalizing j with
  | nil => simp at hj
  | cons f r ih =>
    cases j with
    | zero =>
      rw [List.flatMap_cons, List.getElem?_append_left (by simp [fcells]; omega)]
      simp
    | succ j =>
      rw [List.flatMap_cons, List.getElem?_append_right (by simp [fcells]; omega)]
      have := ih j (by simpa using hj)
      rw [show (j + 1) * 4 + c - (fcells f).length = j * 4 + c by simp [fcells]; omega, this]
      simp
theorem OwnF.fs {base : Nat} {w : World} {v : Value} {fs : List Fld} (h : OwnF base w v fs) : ∃ a cap, v = .slice a fs.length cap ∧ FsAt w a fs.length fs := by
  have h0 : w.ownsRow base 50 4 v fs.length (fs.flatMap fcells) := h
  rcases h0.2 with ⟨rfl, hn⟩ | ⟨g, cap, cur, rfl, hg, hh, hn, hc, hcs, ht⟩
  · have e : fs = [] := by
      cases fs with
      | nil => rfl
      | cons f r => exact absurd hn (by simp)
    subst e
    exact ⟨none, 0, rfl, rfl, .inl rfl⟩
  · refine ⟨_, _, rfl, rfl, .inr ⟨g, 0, rfl, (Array.getElem?_eq_some_iff.1 hh).1, fun j hj => ?_⟩⟩
    have k : ∀ c, c < 4 → w.cell? ⟨g, j * 4 + c, none⟩ = (fcells (fs.getD j fldZ))[c]? := fun c hc => by
      rw [World.ownsRow.cellAt h0 (j * 4 + c) (by omega), flat_get fs j c hj hc]
    have k0 := k 0 (by omega)
    have k1 := k 1 (by omega)
    have k2 := k 2 (by omega)
    have k3 := k 3 (by omega)
    rw [Nat.zero_add]
    exact ⟨k0, k1, k2, k3⟩

set_option maxHeartbeats 2000000 in
theorem same_true (a1 a2 : Option Addr) (len c1 c2 : Nat) (fs : List Fld) (w : World) (R1 : FsAt w a1 len fs) (R2 : FsAt w a2 len fs) (hl : len ≤ 9223372036854775806) :
    Calls Try.prog 24 #[.slice a1 len c1, .slice a2 len c2] w fun e w' => e = .returned (.bool true) ∧ Below w.heap.size w w' := by
  have H1 : Hid (FsAt w a1 len fs) := R1
  have H2 : Hid (FsAt w a2 len fs) := R2
  clear R1 R2
  go_enter Try.func24, Try.ntmps24
  go_wp2
  go_loopg [5] len (fun g c wr => ∃ (j q : Nat), c = .int .i64 j ∧ j + g = len ∧ wr = w.drewN q)
  case atStart => exact ⟨0, 0, rfl, by omega, rfl⟩
  case round =>
    obtain ⟨j, q, rfl, hg, rfl⟩ := hrel
    have HG : Hid (j + gk = len) := hg
    have hj : j ≤ len := by omega
    clear hg
    by_cases hlt : j < len
    · obtain ⟨b, off, rfl, hb, hc⟩ := H1.out.mem.resolve_left (by omega)
      obtain ⟨b', off', rfl, hb', hc'⟩ := H2.out.mem.resolve_left (by omega)
      obtain ⟨d0, d1, d2, d3⟩ := hc j hlt
      obtain ⟨d0', d1', d2', d3'⟩ := hc' j hlt
      obtain ⟨f, hf⟩ : ∃ f, fs.getD j fldZ = f := ⟨_, rfl⟩
      rw [hf] at d0 d1 d2 d3 d0' d1' d2' d3'
      clear hf hc hc'
      have hI : (j : Int) < (len : Int) := by omega
      go_wp2
      go_quiet (fail)
      go_wp2
      go_roundg (gk - 1)
      case measure => have := HG.out; omega
      case rel => exact ⟨j + 1, _, by go_num, by have := HG.out; omega, rfl⟩
    · go_wp2
      go_ret
      exact ⟨rfl, ⟨rfl, rfl, rfl, Nat.le_refl _, fun _ _ => rfl⟩⟩

end Go.Proofs.Ytfgniilihdimgaa
