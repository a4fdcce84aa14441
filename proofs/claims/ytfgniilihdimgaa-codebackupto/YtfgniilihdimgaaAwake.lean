/-
  Chapter 3's examples, which every law calls at its end: awake returns true.
-/
import Derived.Test.YtfgniilihdimgaaRead
import Derived.Laws.StructEq
namespace Go.Proofs.Ytfgniilihdimgaa
open Go.ChangeShapes Go.WideShapes Go.ChangeAt Go.RowKit
set_option linter.unusedVariables false

theorem read_error (a : Option Addr) (len cap : Nat) (zs : List Int) (a2 : Option Addr) (len2 cap2 : Nat) (ks : List Int) (w : World) (R : Row .u8 w a len cap zs) (K : Row .i64 w a2 len2 cap2 ks)
    (hl : len ≤ 70368744170000) (hc : cap ≤ 9223372036854775807) (hl2 : len2 ≤ 1099511627776) (c : Int) (h : rd ks zs = .error c) :
    Calls Try.prog 22 #[.slice a len cap, .slice a2 len2 cap2] w fun e w' => e = .returned (.tuple #[.slice none 0 0, .int .i64 0, .int .i64 c]) ∧ Below w.heap.size w w' :=
  (read_out a len cap zs a2 len2 cap2 ks w R K hl hc hl2 _ h).mono fun e w' h => ⟨h.2, h.1⟩
theorem read_fields (a : Option Addr) (len cap : Nat) (zs : List Int) (a2 : Option Addr) (len2 cap2 : Nat) (ks : List Int) (w : World) (R : Row .u8 w a len cap zs) (K : Row .i64 w a2 len2 cap2 ks)
    (hl : len ≤ 70368744170000) (hc : cap ≤ 9223372036854775807) (hl2 : len2 ≤ 1099511627776) (fs : List Fld) (n : Nat) (h : rd ks zs = .ok (fs, n)) :
    Calls Try.prog 22 #[.slice a len cap, .slice a2 len2 cap2] w fun e w' => ∃ v, e = .returned (.tuple #[v, .int .i64 n, .int .i64 0]) ∧ OwnF w.heap.size w' v fs ∧ Below w.heap.size w w' :=
  (read_out a len cap zs a2 len2 cap2 ks w R K hl hc hl2 _ h).mono fun e w' h => let ⟨v, h1, h2⟩ := h.2; ⟨v, h1, h2, h.1⟩

theorem row_lit2 (w : World) (x y : Int) (hx : 0 ≤ x ∧ x < 256) (hy : 0 ≤ y ∧ y < 256) : Row .u8 (w.alloc (.cells #[bv x, bv y] 5)) (some ⟨w.heap.size, 0, none⟩) 2 2 [x, y] where
  size := rfl
  le := Nat.le_refl _
  nil := fun h => by cases h
  wf := by
    intro z hz
    simp at hz
    rcases hz with rfl | rfl
    · exact u8_wf hx.1 hx.2
    · exact u8_wf hy.1 hy.2
  mem := by
    refine .inr ⟨_, 0, rfl, by simp, fun k hk => ?_⟩
    match k with
    | 0 => simp
    | 1 => simp
    | _ + 2 => omega
theorem row_lit3 (w : World) (x y z : Int) (hx : 0 ≤ x ∧ x < 256) (hy : 0 ≤ y ∧ y < 256) (hz : 0 ≤ z ∧ z < 256) : Row .u8 (w.alloc (.cells #[bv x, bv y, bv z] 5)) (some ⟨w.heap.size, 0, none⟩) 3 3 [x, y, z] where
  size := rfl
  le := Nat.le_refl _
  nil := fun h => by cases h
  wf := by
    intro u hu
    simp at hu
    rcases hu with rfl | rfl | rfl
    · exact u8_wf hx.1 hx.2
    · exact u8_wf hy.1 hy.2
    · exact u8_wf hz.1 hz.2
  mem := by
    refine .inr ⟨_, 0, rfl, by simp, fun k hk => ?_⟩
    match k with
    | 0 => simp
    | 1 => simp
    | 2 => simp
    | _ + 3 => omega
theorem row_kind (w : World) (x : Int) (hx : -9223372036854775808 ≤ x ∧ x ≤ 9223372036854775807) (t : TypeId) : Row .i64 (w.alloc (.cells #[.int .i64 x] t)) (some ⟨w.heap.size, 0, none⟩) 1 1 [x] where
  size := rfl
  le := Nat.le_refl _
  nil := fun h => by cases h
  wf := by
    intro u hu
    simp at hu
    subst hu
    exact WalkArith.wf_i64 hx
  mem := by
    refine .inr ⟨_, 0, rfl, by simp, fun k hk => ?_⟩
    match k with
    | 0 => simp
    | _ + 1 => omega

theorem ex1 : rd [1] [128, 0] = .error 20 := by rfl
theorem ex2 : rd [1] [172, 2, 7] = .ok ([⟨1, 300, ⟨#[]⟩, false⟩], 2) := by rfl
theorem ex3 : enc (sg (-64)) = [127] := by decide
theorem ex4 : (enc 18446744073709551615).length = 10 := by decide

theorem OwnF.one {base : Nat} {w : World} {v : Value} {f : Fld} (h : OwnF base w v [f]) : ∃ g cap, v = .slice (some ⟨g, 0, none⟩) 1 cap ∧ w.cell? ⟨g, 0, none⟩ = some (.int .i64 f.kind) ∧ w.cell? ⟨g, 1, none⟩ = some (.int .i64 f.num) ∧ w.cell? ⟨g, 2, none⟩ = some (.string f.text) ∧ w.cell? ⟨g, 3, none⟩ = some (.bool f.is) := by
  have h0 : w.ownsRow base 50 4 v 1 (fcells f) := by simpa [OwnF] using h
  obtain ⟨g, cap, rfl⟩ := owns_some h0 (by omega)
  exact ⟨g, cap, rfl, World.ownsRow.cellAt h0 0 (by omega), World.ownsRow.cellAt h0 1 (by omega), World.ownsRow.cellAt h0 2 (by omega), World.ownsRow.cellAt h0 3 (by omega)⟩

theorem rows2 (w : World) : Row .u8 ((w.alloc (.cells #[.int .u8 128, .int .u8 0] 5)).alloc (.cells #[.int .i64 1] 3)) (some ⟨w.heap.size, 0, none⟩) 2 2 [128, 0] ∧
    Row .i64 ((w.alloc (.cells #[.int .u8 128, .int .u8 0] 5)).alloc (.cells #[.int .i64 1] 3)) (some ⟨w.heap.size + 1, 0, none⟩) 1 1 [1] :=
  ⟨(row_lit2 w 128 0 (by omega) (by omega)).alloc _, by simpa using row_kind (w.alloc (.cells #[.int .u8 128, .int .u8 0] 5)) 1 (by omega) 3⟩
theorem rows3 (w : World) : Row .u8 ((w.alloc (.cells #[.int .u8 172, .int .u8 2, .int .u8 7] 5)).alloc (.cells #[.int .i64 1] 3)) (some ⟨w.heap.size, 0, none⟩) 3 3 [172, 2, 7] ∧
    Row .i64 ((w.alloc (.cells #[.int .u8 172, .int .u8 2, .int .u8 7] 5)).alloc (.cells #[.int .i64 1] 3)) (some ⟨w.heap.size + 1, 0, none⟩) 1 1 [1] :=
  ⟨(row_lit3 w 172 2 7 (by omega) (by omega) (by omega)).alloc _, by simpa using row_kind (w.alloc (.cells #[.int .u8 172, .int .u8 2, .int .u8 7] 5)) 1 (by omega) 3⟩

set_option maxHeartbeats 1000000 in
theorem awake_any (w : World) : Calls Try.prog 19 #[] w fun e w' => e = .returned (.bool true) ∧ Below w.heap.size w w' := by
  go_enter Try.func19, Try.ntmps19
  go_wp2_with fail
  refine (read_error _ _ _ _ _ _ _ _ _ (rows2 w).1 (rows2 w).2 (by omega) (by omega) (by omega) 20 ex1).mono ?_
  rintro e w1 ⟨rfl, hb1⟩
  have B1 : Below w.heap.size w w1 := (((Below.refl _ _).alloc (Nat.le_refl _) _).alloc (by simp) _).trans (hb1.mono (by simp; omega))
  clear hb1
  go_wp2_with fail
  refine (read_fields _ _ _ _ _ _ _ _ _ (rows3 w1).1 (rows3 w1).2 (by omega) (by omega) (by omega) _ _ ex2).mono ?_
  rintro e w2 ⟨v, rfl, ho, hb2⟩
  obtain ⟨g, cap, rfl, q0, q1, q2, q3⟩ := ho.one
  have B2 : Below w.heap.size w w2 := (((B1).alloc B1.size _).alloc (by have := B1.size; simp; omega) _).trans (hb2.mono (by have := B1.size; simp; omega))
  clear hb2 ho B1
  go_wp2_with (first
    | (go_at_call 11; refine (signed_any _ _ _ [] _ _ (row_nil _ _) (by omega) (by omega) (by omega)).mono ?_; rintro e w3 ⟨v3, rfl, ho3, hb3⟩; rw [ex3] at ho3; obtain ⟨a3, c3, hv3, hr3⟩ := ho3.row (by simp); replace hv3 : v3 = .slice a3 1 c3 := hv3; subst hv3; have hcv : (convert 22 9 (.slice a3 1 c3)).run Try.prog w3 = .ok (.string ⟨#[127]⟩) w3 := conv_row hr3; clear hr3 ho3)
    | (go_at_call 17; refine (size_any _ _ (by omega) (by omega)).mono ?_; rintro e w4 ⟨rfl, hw⟩; rw [hw, ex4]; clear hw))
  go_ret
  exact ⟨rfl, B2.trans (hb3.mono B2.size)⟩

end Go.Proofs.Ytfgniilihdimgaa
