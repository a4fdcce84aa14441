/-
  A place in bytes (package code, read.go): take and one.
-/
import Derived.Test.YticmjlnpjopfbaaDoorCRow
import Derived.BigQuiet
import Derived.Deep.QuietTactic
import Derived.WalkLawsBesides
namespace Go.Proofs.YticmjlnpjopfbaaDoor.C
open Go.ChangeShapes Go.WideShapes Go.ChangeAt Go.RowKit
set_option linter.unusedVariables false

/-- Block k holds two cells, v0 and v1, that may be written. -/
def Two (W : World) (k : Nat) (v0 v1 : Value) : Prop :=
  W.cell? ⟨k, 0, none⟩ = some v0 ∧ W.cell? ⟨k, 1, none⟩ = some v1 ∧ W.frozen? ⟨k, 0, none⟩ = false ∧ W.frozen? ⟨k, 1, none⟩ = false ∧ k < W.heap.size
theorem Two.new (W : World) (v0 v1 : Value) (t : TypeId) : Two (W.alloc (.cells #[v0, v1] t)) W.heap.size v0 v1 :=
  ⟨by simp, by simp, by simp, by simp, by simp⟩
theorem Two.of_block {W W' : World} {k : Nat} {v0 v1 : Value} (h : Two W k v0 v1) (hb : W'.heap[k]? = W.heap[k]?) (hs : W.heap.size ≤ W'.heap.size) : Two W' k v0 v1 :=
  ⟨(World.cell?_of_block (a := ⟨k, 0, none⟩) hb).trans h.1, (World.cell?_of_block (a := ⟨k, 1, none⟩) hb).trans h.2.1, (World.frozen?_of_block (a := ⟨k, 0, none⟩) hb).trans h.2.2.1, (World.frozen?_of_block (a := ⟨k, 1, none⟩) hb).trans h.2.2.2.1, by have := h.2.2.2.2; omega⟩
theorem Two.alloc {W : World} {k : Nat} {v0 v1 : Value} (h : Two W k v0 v1) (o : Obj) : Two (W.alloc o) k v0 v1 := h.of_block (Below.heap_alloc _ _ _ h.2.2.2.2) (by simp)
theorem Two.drewN {W : World} {k : Nat} {v0 v1 : Value} (h : Two W k v0 v1) (n : Nat) : Two (W.drewN n) k v0 v1 := h
theorem Two.drew {W : World} {k : Nat} {v0 v1 : Value} (h : Two W k v0 v1) : Two W.drew k v0 v1 := h
theorem Two.set1 {W : World} {k : Nat} {v0 v1 : Value} (h : Two W k v0 v1) (v : Value) : Two (W.setCell ⟨k, 1, none⟩ v) k v0 v := by
  obtain ⟨h0, h1, f0, f1, hk⟩ := h
  refine ⟨?_, ?_, by simpa using f0, by simpa using f1, by simpa using hk⟩
  · rw [World.cell?_setCell_other _ _ _ _ (by simp)]; exact h0
  · exact World.cell?_setCell_same _ _ _ h1

/-- Nothing but block p has changed. -/
abbrev Kp (p : Nat) (w w' : World) : Prop := w.grownBy w' (some p)
theorem Kp.refl (p : Nat) (w : World) : Kp p w w := World.grownBy.refl w _
theorem Kp.trans {p : Nat} {a b c : World} (h : Kp p a b) (k : Kp p b c) : Kp p a c :=
  ⟨k.os.trans h.os, k.tape.trans h.tape, k.output.trans h.output, Nat.le_trans h.size k.size, fun q hq hne => (k.block q (Nat.lt_of_lt_of_le hq h.size) hne).trans (h.block q hq hne)⟩
theorem Kp.drewN {p : Nat} {a b : World} (h : Kp p a b) (n : Nat) : Kp p a (b.drewN n) := ⟨h.os, h.tape, h.output, h.size, h.block⟩
theorem Kp.drew {p : Nat} {a b : World} (h : Kp p a b) : Kp p a b.drew := ⟨h.os, h.tape, h.output, h.size, h.block⟩
theorem Kp.setCell {p : Nat} {a b : World} (h : Kp p a b) (i : Nat) (v : Value) : Kp p a (b.setCell ⟨p, i, none⟩ v) :=
  ⟨h.os, h.tape, h.output, by simpa [World.setCell] using h.size, fun q hq hne => (Below.heap_setCell _ _ _ _ (fun e => hne (by simp [e]))).trans (h.block q hq hne)⟩
theorem Kp.alloc {p : Nat} {a b : World} (h : Kp p a b) (o : Obj) : Kp p a (b.alloc o) :=
  ⟨h.os, h.tape, h.output, by have := h.size; simp; omega, fun q hq hne => (Below.heap_alloc _ _ _ (Nat.lt_of_lt_of_le hq h.size)).trans (h.block q hq hne)⟩
theorem Kp.below {p : Nat} {a b : World} (h : Kp p a b) {n : Nat} (hn : n ≤ p) (hs : n ≤ a.heap.size) : Below n a b :=
  ⟨h.os, h.tape, h.output, h.size, fun q hq => h.block q (by omega) (by simp; omega)⟩

/-- A place: the bytes zs (they lie in memory of W0), at of them behind it; in block p. -/
structure Pl (W0 : World) (a : Option Addr) (len cap : Nat) (zs : List Int) (p : Nat) (i : Nat) (w : World) : Prop where
  two : Two w p (.slice a len cap) (.int .i64 i)
  row : Row .u8 W0 a len cap zs
  old : Below W0.heap.size W0 w
  hp : W0.heap.size ≤ p
  le : i ≤ len
  max : len ≤ 70368744170000
  cmax : cap ≤ 9223372036854775807

theorem Pl.kp {W0 : World} {a : Option Addr} {len cap : Nat} {zs : List Int} {p i j : Nat} {w w' : World} (h : Pl W0 a len cap zs p i w) (k : Kp p w w') (t : Two w' p (.slice a len cap) (.int .i64 j)) (hj : j ≤ len) : Pl W0 a len cap zs p j w' :=
  ⟨t, h.row, h.old.trans (k.below h.hp h.old.size), h.hp, hj, h.max, h.cmax⟩
theorem Pl.drewN {W0 : World} {a : Option Addr} {len cap : Nat} {zs : List Int} {p i : Nat} {w : World} (h : Pl W0 a len cap zs p i w) (n : Nat) : Pl W0 a len cap zs p i (w.drewN n) :=
  h.kp ((Kp.refl _ _).drewN n) (h.two.drewN n) h.le
theorem Pl.drew {W0 : World} {a : Option Addr} {len cap : Nat} {zs : List Int} {p i : Nat} {w : World} (h : Pl W0 a len cap zs p i w) : Pl W0 a len cap zs p i w.drew :=
  h.kp ((Kp.refl _ _).drew) (h.two.drew) h.le
theorem Pl.alloc {W0 : World} {a : Option Addr} {len cap : Nat} {zs : List Int} {p i : Nat} {w : World} (h : Pl W0 a len cap zs p i w) (o : Obj) : Pl W0 a len cap zs p i (w.alloc o) :=
  h.kp ((Kp.refl _ _).alloc o) (h.two.alloc o) h.le

/-- What is thrown. -/
abbrev thrown (c : Int) : Ending := .panicked [{ v := .iface 43 (.int .i64 c), recovered := false }]
theorem throw_any (c : Int) (w : World) : Calls Tryd.prog 95 #[.int .i64 c] w fun e w' => e = thrown c ∧ w' = w := by
  go_enter Tryd.func95, Tryd.ntmps95
  go_wp2
  exact ⟨rfl, rfl, rfl⟩

theorem Row.cut {kd : IntKind} {w : World} {a : Option Addr} {len cap : Nat} {zs : List Int} (R : Row kd w a len cap zs) {i n : Nat} (h : i + n ≤ len) :
    Row kd w (if cap = i then a else a.map (·.add (i * 1))) n (cap - i) ((zs.drop i).take n) where
  size := by have := R.size; simp; omega
  le := by have := R.le; omega
  nil := by
    intro e
    have : a = none := by
      split at e
      · exact e
      · cases a <;> simp_all
    have := R.nil this
    omega
  wf := fun z hz => R.wf z (List.mem_of_mem_drop (List.mem_of_mem_take hz))
  mem := by
    by_cases h0 : n = 0
    · exact .inl h0
    · obtain ⟨b, off, e, hb, hc⟩ := R.mem.resolve_left (by omega)
      have := R.le
      refine .inr ⟨b, off + i, ?_, hb, fun k hk => ?_⟩
      · rw [if_neg (by omega), e]
        simp [Addr.add]
      · rw [show off + i + k = off + (i + k) by omega, hc (i + k) (by omega), List.getD_eq_getElem?_getD, List.getD_eq_getElem?_getD, List.getElem?_take, if_pos hk, List.getElem?_drop]

set_option maxHeartbeats 2000000 in
theorem take_err (W0 : World) (a : Option Addr) (len cap : Nat) (zs : List Int) (p i : Nat) (n : Int) (w : World) (P : Pl W0 a len cap zs p i w) (h0 : 0 ≤ n) (h1 : n ≤ 18446744073709551615) (h : (len : Int) - i < n) :
    Calls Tryd.prog 97 #[.pointer (some ⟨p, 0, none⟩), .int .u64 n] w fun e w' => e = thrown 21 ∧ Kp p w w' := by
  obtain ⟨c0, c1, f0, f1, hk⟩ := id P.two
  have hle := P.le
  have hmax := P.max
  go_enter Tryd.func97, Tryd.ntmps97
  go_wp2
  go_quiet (fail)
  go_wp2_with (go_at_call 95; refine (throw_any _ _).mono ?_; rintro e w' ⟨rfl, hw⟩; rw [hw]; clear hw)
  exact ⟨rfl, rfl, (Kp.refl _ _).drewN _⟩

set_option maxHeartbeats 2000000 in
theorem take_ok (W0 : World) (a : Option Addr) (len cap : Nat) (zs : List Int) (p i : Nat) (n : Nat) (w : World) (P : Pl W0 a len cap zs p i w) (h : i + n ≤ len) :
    Calls Tryd.prog 97 #[.pointer (some ⟨p, 0, none⟩), .int .u64 n] w fun e w' => ∃ a', e = .returned (.slice a' n (cap - i)) ∧ Row .u8 W0 a' n (cap - i) ((zs.drop i).take n) ∧ Pl W0 a len cap zs p (i + n) w' ∧ Kp p w w' := by
  obtain ⟨c0, c1, f0, f1, hk⟩ := id P.two
  have hmax := P.max
  have hcm := P.cmax
  have hlc := P.row.le
  have b1 : (0 : Int) ≤ (i : Int) := by omega
  have b2 : (i : Int) ≤ (i : Int) + (n : Int) := by omega
  have b3 : (i : Int) + (n : Int) ≤ (cap : Int) := by omega
  have HT : Hid (Two w p (.slice a len cap) (.int .i64 i)) := P.two
  have HR : Hid (Row .u8 W0 (if cap = i then a else a.map (·.add (i * 1))) n (cap - i) ((zs.drop i).take n)) := P.row.cut h
  have HK : Hid (∀ q1 q2, Kp p w (((w.drewN q1).setCell ⟨p, 1, none⟩ (.int .i64 ((i : Int) + n))).drewN q2) ∧ Two (((w.drewN q1).setCell ⟨p, 1, none⟩ (.int .i64 ((i : Int) + n))).drewN q2) p (.slice a len cap) (.int .i64 ((i + n : Nat) : Int))) :=
    fun q1 q2 => ⟨((((Kp.refl p w).drewN q1).setCell 1 _).drewN q2), by rw [show ((i + n : Nat) : Int) = (i : Int) + n by omega]; exact ((HT.out.drewN q1).set1 _).drewN q2⟩
  go_enter Tryd.func97, Tryd.ntmps97
  go_wp2
  go_quiet (fail)
  go_wp2
  go_quiet (fail)
  go_wp2
  · have hc : cap = i := by assumption
    subst hc
    go_ret
    exact ⟨_, rfl, by simpa using HR.out, P.kp (HK.out _ _).1 (HK.out _ _).2 (by omega), (HK.out _ _).1⟩
  · have hc : ¬ cap = i := by assumption
    go_ret
    exact ⟨_, rfl, by simpa [hc] using HR.out, P.kp (HK.out _ _).1 (HK.out _ _).2 (by omega), (HK.out _ _).1⟩

set_option maxHeartbeats 2000000 in
theorem one_err (W0 : World) (a : Option Addr) (len cap : Nat) (zs : List Int) (p i : Nat) (w : World) (P : Pl W0 a len cap zs p i w) (h : i = len) :
    Calls Tryd.prog 98 #[.pointer (some ⟨p, 0, none⟩)] w fun e w' => e = thrown 21 ∧ Kp p w w' := by
  go_enter Tryd.func98, Tryd.ntmps98
  go_wp2_with (go_at_call 97; refine (take_err W0 a len cap zs p i 1 _ P (by omega) (by omega) (by omega)).mono ?_; rintro e w1 ⟨rfl, hk⟩)
  exact ⟨rfl, rfl, hk⟩

set_option maxHeartbeats 2000000 in
theorem one_ok (W0 : World) (a : Option Addr) (len cap : Nat) (zs : List Int) (p i : Nat) (w : World) (P : Pl W0 a len cap zs p i w) (h : i < len) :
    Calls Tryd.prog 98 #[.pointer (some ⟨p, 0, none⟩)] w fun e w' => e = .returned (.int .u8 (zs.getD i 0)) ∧ Pl W0 a len cap zs p (i + 1) w' ∧ Kp p w w' := by
  go_enter Tryd.func98, Tryd.ntmps98
  go_wp2_with (go_at_call 97; refine (take_ok W0 a len cap zs p i 1 _ P (by omega)).mono ?_; rintro e w1 ⟨a1, rfl, hr1, hp1, hk1⟩; obtain ⟨b1, o1, e1, hb1, hc1⟩ := hr1.mem.resolve_left (by omega); subst e1; have hc2 := (hp1.old.cell (p := ⟨b1, o1 + 0, none⟩) hb1).trans (hc1 0 (by omega)); rw [Nat.add_zero] at hc2; clear hc1 hr1)
  go_ret
  refine ⟨?_, hp1, hk1⟩
  simp [List.getD_eq_getElem?_getD]

end Go.Proofs.YticmjlnpjopfbaaDoor.C
