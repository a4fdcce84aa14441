/-
  What strconv.ParseInt tells of any text, as the walks are told of it.
-/
import Derived.Test.YtkdaefaggbmbnaaDoorTxtMath
import Derived.Test.YtkdaefaggbmbnaaDoorValid
import Derived.Lib.ParseIntBTie
import Derived.Lib.AtoiErrMem
import Derived.Lib.SmallJoins
import Derived.Lib.SlicesS
namespace Go.Proofs.YtkdaefaggbmbnaaDoor
open Go.ChangeShapes Go.WideShapes Go.ChangeAt Go.RowKit
set_option linter.unusedVariables false
set_option linter.unusedSimpArgs false

/-- The library's two errors lie as they were laid. -/
def Sent (w : World) : Prop := (∃ tp p, w.var? Tryd.prog "strconv.ErrSyntax" = some #[.iface tp p]) ∧ (∃ tp p, w.var? Tryd.prog "strconv.ErrRange" = some #[.iface tp p])
theorem globalSyn : ∃ g, Tryd.prog.globalNamed "strconv.ErrSyntax" = some g := ⟨_, rfl⟩
theorem globalRan : ∃ g, Tryd.prog.globalNamed "strconv.ErrRange" = some g := ⟨_, rfl⟩
theorem Sent.below {w w' : World} (h : Sent w) (hb : Below w.heap.size w w') : Sent w' := by
  obtain ⟨⟨t1, p1, h1⟩, ⟨t2, p2, h2⟩⟩ := h
  obtain ⟨g1, hg1⟩ := globalSyn
  obtain ⟨g2, hg2⟩ := globalRan
  exact ⟨⟨t1, p1, Joins.var_stays hg1 h1 hb (Nat.le_refl _)⟩, ⟨t2, p2, Joins.var_stays hg2 h2 hb (Nat.le_refl _)⟩⟩
theorem pint_ok (s : ByteArray) (v : Int) (w : World) (hs : s.size ≤ 281474976710656) (h : Lib.parseIntB 64 s.data.toList = .ok v) :
    Calls Tryd.prog 18 #[.string s, .int .i64 10, .int .i64 64] w fun e w' => e = .returned (.tuple #[.int .i64 v, .nilIface]) ∧ Below w.heap.size w w' :=
  (Tryd.strconv_ParseInt_10_at64_ok s (by omega) v h w).mono fun e w' hh => by
    obtain ⟨he, rfl | ⟨t, rfl⟩⟩ := hh
    · exact ⟨he, Below.refl _ _⟩
    · exact ⟨he, Lib.bytesWorld_below w 5 t⟩
theorem pint_no (s : ByteArray) (w : World) (hs : s.size ≤ 281474976710656) (h : ∀ v, Lib.parseIntB 64 s.data.toList ≠ .ok v) (H : Sent w) :
    Calls Tryd.prog 18 #[.string s, .int .i64 10, .int .i64 64] w fun e w' => ∃ v k, e = .returned (.tuple #[.int .i64 v, .iface 65 (.pointer (some ⟨k, 0, none⟩))]) ∧ Below w.heap.size w w' := by
  obtain ⟨⟨t1, p1, h1⟩, ⟨t2, p2, h2⟩⟩ := H
  cases hp : Lib.parseIntB 64 s.data.toList with
  | ok v => exact absurd hp (h v)
  | «syntax» => exact (Tryd.strconv_ParseInt_10_at64_syntax_var s hs hp t1 p1 w h1).mono fun e w' ⟨k, he, _, _, hb⟩ => ⟨_, k, he, hb⟩
  | range => exact (Tryd.strconv_ParseInt_10_at64_range_var s hs hp t2 p2 w h2).mono fun e w' ⟨k, he, _, _, hb⟩ => ⟨_, k, he, hb⟩
theorem str_ne {x s : ByteArray} (h : ¬ x = s) : (x.toList == s.toList) = false := (Lib.bytes_beq_false_iff x s).2 h
theorem str_ne' {x s : ByteArray} (h : ¬ x = s) : (!x.toList == s.toList) = true := by rw [str_ne h]; rfl
theorem pint_bd {s : ByteArray} {v : Int} (h : Lib.parseIntB 64 s.data.toList = .ok v) : I64 v := by
  have := Lib.parseIntB_bounds h
  unfold I64
  have e : ((2 ^ (64 - 1) : Nat) : Int) = 9223372036854775808 := by decide
  rw [e] at this
  omega

end Go.Proofs.YtkdaefaggbmbnaaDoor
