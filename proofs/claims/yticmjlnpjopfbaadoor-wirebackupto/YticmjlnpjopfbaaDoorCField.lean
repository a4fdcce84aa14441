/-
  Reading a field (package code, read.go): field.
-/
import Derived.Test.YticmjlnpjopfbaaDoorCTextr
namespace Go.Proofs.YticmjlnpjopfbaaDoor.C
open Go.ChangeShapes Go.WideShapes Go.ChangeAt Go.RowKit
set_option linter.unusedVariables false

/-- A field. -/
structure Fld where
  kind : Int
  num : Int
  text : ByteArray
  is : Bool
/-- A field as a value: its four cells. -/
def fcells (f : Fld) : List Value := [.int .i64 f.kind, .int .i64 f.num, .string f.text, .bool f.is]
abbrev fv (k n : Int) (s : ByteArray) (b : Bool) : Value := .agg #[.int .i64 k, .int .i64 n, .string s, .bool b]

def fld1 : Except Int (Int × Nat) → Except Int (Fld × Nat)
  | .ok (x, n) => .ok (⟨1, x, ⟨#[]⟩, false⟩, n)
  | .error c => .error c
def fld2 : Except Int (Int × Nat) → Except Int (Fld × Nat)
  | .ok (x, n) => .ok (⟨2, unsg x, ⟨#[]⟩, false⟩, n)
  | .error c => .error c
def fld3 : Except Int (ByteArray × Nat) → Except Int (Fld × Nat)
  | .ok (s, n) => .ok (⟨3, 0, s, false⟩, n)
  | .error c => .error c
def fld4 : Except Int (Bool × Nat) → Except Int (Fld × Nat)
  | .ok (b, n) => .ok (⟨4, 0, ⟨#[]⟩, b⟩, n)
  | .error c => .error c
/-- A field of a kind, read. -/
def fld (k : Int) (bs : List Int) : Except Int (Fld × Nat) :=
  if k = 1 then fld1 (natR (num bs)) else if k = 2 then fld2 (num bs) else if k = 3 then fld3 (txtR bs) else if k = 4 then fld4 (flgR bs) else .error 46

/-- Block k holds four cells that may be written. -/
def Four (W : World) (k : Nat) (v0 v1 v2 v3 : Value) : Prop :=
  W.cell? ⟨k, 0, none⟩ = some v0 ∧ W.cell? ⟨k, 1, none⟩ = some v1 ∧ W.cell? ⟨k, 2, none⟩ = some v2 ∧ W.cell? ⟨k, 3, none⟩ = some v3 ∧
  W.frozen? ⟨k, 0, none⟩ = false ∧ W.frozen? ⟨k, 1, none⟩ = false ∧ W.frozen? ⟨k, 2, none⟩ = false ∧ W.frozen? ⟨k, 3, none⟩ = false ∧ k < W.heap.size
theorem Four.new (W : World) (v0 v1 v2 v3 : Value) (t : TypeId) : Four (W.alloc (.cells #[v0, v1, v2, v3] t)) W.heap.size v0 v1 v2 v3 :=
  ⟨by simp, by simp, by simp, by simp, by simp, by simp, by simp, by simp, by simp⟩
theorem Four.of_block {W W' : World} {k : Nat} {v0 v1 v2 v3 : Value} (h : Four W k v0 v1 v2 v3) (hb : W'.heap[k]? = W.heap[k]?) (hs : W.heap.size ≤ W'.heap.size) : Four W' k v0 v1 v2 v3 :=
  ⟨(World.cell?_of_block (a := ⟨k, 0, none⟩) hb).trans h.1, (World.cell?_of_block (a := ⟨k, 1, none⟩) hb).trans h.2.1, (World.cell?_of_block (a := ⟨k, 2, none⟩) hb).trans h.2.2.1, (World.cell?_of_block (a := ⟨k, 3, none⟩) hb).trans h.2.2.2.1,
    (World.frozen?_of_block (a := ⟨k, 0, none⟩) hb).trans h.2.2.2.2.1, (World.frozen?_of_block (a := ⟨k, 1, none⟩) hb).trans h.2.2.2.2.2.1, (World.frozen?_of_block (a := ⟨k, 2, none⟩) hb).trans h.2.2.2.2.2.2.1, (World.frozen?_of_block (a := ⟨k, 3, none⟩) hb).trans h.2.2.2.2.2.2.2.1, by have := h.2.2.2.2.2.2.2.2; omega⟩
theorem Four.lt {W : World} {k : Nat} {v0 v1 v2 v3 : Value} (h : Four W k v0 v1 v2 v3) : k < W.heap.size := h.2.2.2.2.2.2.2.2
theorem Four.alloc {W : World} {k : Nat} {v0 v1 v2 v3 : Value} (h : Four W k v0 v1 v2 v3) (o : Obj) : Four (W.alloc o) k v0 v1 v2 v3 := h.of_block (Below.heap_alloc _ _ _ h.lt) (by simp)
theorem Four.at {W : World} {k k' : Nat} {v0 v1 v2 v3 : Value} (h : Four W k v0 v1 v2 v3) (e : k = k') : Four W k' v0 v1 v2 v3 := e ▸ h
theorem Four.kp {W W' : World} {p k : Nat} {v0 v1 v2 v3 : Value} (h : Four W k v0 v1 v2 v3) (hk : Kp p W W') (hne : k ≠ p) : Four W' k v0 v1 v2 v3 := h.of_block (hk.block k h.lt (by simpa using hne)) hk.size
theorem Kp.setNew {p : Nat} {a b : World} (h : Kp p a b) {k : Nat} (hk : a.heap.size ≤ k) (i : Nat) (v : Value) : Kp p a (b.setCell ⟨k, i, none⟩ v) :=
  ⟨h.os, h.tape, h.output, by simpa [World.setCell] using h.size, fun q hq hne => (Below.heap_setCell _ _ _ _ (by show q ≠ k; omega)).trans (h.block q hq hne)⟩
theorem Pl.setNew {W0 : World} {a : Option Addr} {len cap : Nat} {zs : List Int} {p i : Nat} {w : World} (h : Pl W0 a len cap zs p i w) {k : Nat} (hk : p < k) (j : Nat) (v : Value) : Pl W0 a len cap zs p i (w.setCell ⟨k, j, none⟩ v) :=
  ⟨h.two.of_block (Below.heap_setCell _ _ _ _ (by show p ≠ k; omega)) (by simp), h.row, h.old.setCell (by have := h.hp; show W0.heap.size ≤ k; omega) _, h.hp, h.le, h.max, h.cmax⟩

theorem Kp.of_alloc2 {p : Nat} {a b : World} {o o' : Obj} (h : Kp p ((a.alloc o).alloc o') b) : Kp p a b := (((Kp.refl p a).alloc o).alloc o').trans h

set_option maxHeartbeats 2000000 in
theorem field1_ok (W0 : World) (a : Option Addr) (len cap : Nat) (zs : List Int) (p i : Nat) (w : World) (P : Pl W0 a len cap zs p i w) (x : Int) (n : Nat) (h : natR (num (zs.drop i)) = .ok (x, n)) :
    Calls Tryd.prog 85 #[.pointer (some ⟨p, 0, none⟩), .int .i64 1] w fun e w' => e = .returned (fv 1 (x) ⟨#[]⟩ false) ∧ Pl W0 a len cap zs p (i + n) w' ∧ Kp p w w' := by
  have hpw := P.two.2.2.2.2
  have HN : Hid (natR (num (zs.drop i)) = .ok (x, n)) := h
  clear h
  go_enter Tryd.func85, Tryd.ntmps85
  go_wp2_with (go_at_call 91; refine (natural_ok W0 a len cap zs p i _ ((P.alloc _).alloc _) x n HN.out).mono ?_; rintro e w1 ⟨rfl, hp1, hk1⟩; have F1 := Four.kp (((Four.new _ _ _ _ _ _).at (by simp)) : Four _ (w.heap.size + 1) _ _ _ _) hk1 (by omega); have F0 := Four.kp (Four.alloc (Four.new w _ _ _ _ _) _) hk1 (by omega); obtain ⟨q0, q1, q2, q3, g0, g1, g2, g3, gz⟩ := id F1; obtain ⟨r0, r1, r2, r3, j0, j1, j2, j3, jz⟩ := id F0)
  refine bodyPost_ret (v := fv 1 (x) ⟨#[]⟩ false) (by simp [results, Tryd.results85, go_sem, r0, r1, r2, r3]) rfl ⟨rfl, ?_, ?_⟩
  · exact ((((hp1.setNew (by omega) _ _).setNew (by omega) _ _).setNew (by omega) _ _).setNew (by omega) _ _).setNew (by omega) _ _
  · exact (((((Kp.of_alloc2 hk1).setNew (by omega) _ _).setNew (by omega) _ _).setNew (by omega) _ _).setNew (by omega) _ _).setNew (by omega) _ _

set_option maxHeartbeats 2000000 in
theorem field1_err (W0 : World) (a : Option Addr) (len cap : Nat) (zs : List Int) (p i : Nat) (w : World) (P : Pl W0 a len cap zs p i w) (c : Int) (h : natR (num (zs.drop i)) = .error c) :
    Calls Tryd.prog 85 #[.pointer (some ⟨p, 0, none⟩), .int .i64 1] w fun e w' => e = thrown c ∧ Kp p w w' := by
  have HN : Hid (natR (num (zs.drop i)) = .error c) := h
  clear h
  go_enter Tryd.func85, Tryd.ntmps85
  go_wp2_with (go_at_call 91; refine (natural_err W0 a len cap zs p i _ ((P.alloc _).alloc _) c HN.out).mono ?_; rintro e w1 ⟨rfl, hk1⟩)
  exact ⟨rfl, rfl, Kp.of_alloc2 hk1⟩

set_option maxHeartbeats 2000000 in
theorem field2_ok (W0 : World) (a : Option Addr) (len cap : Nat) (zs : List Int) (p i : Nat) (w : World) (P : Pl W0 a len cap zs p i w) (x : Int) (n : Nat) (h : num (zs.drop i) = .ok (x, n)) :
    Calls Tryd.prog 85 #[.pointer (some ⟨p, 0, none⟩), .int .i64 2] w fun e w' => e = .returned (fv 2 (unsg x) ⟨#[]⟩ false) ∧ Pl W0 a len cap zs p (i + n) w' ∧ Kp p w w' := by
  have hpw := P.two.2.2.2.2
  have HN : Hid (num (zs.drop i) = .ok (x, n)) := h
  clear h
  go_enter Tryd.func85, Tryd.ntmps85
  go_wp2_with (go_at_call 92; refine (signedr_ok W0 a len cap zs p i _ ((P.alloc _).alloc _) x n HN.out).mono ?_; rintro e w1 ⟨rfl, hp1, hk1⟩; have F1 := Four.kp (((Four.new _ _ _ _ _ _).at (by simp)) : Four _ (w.heap.size + 1) _ _ _ _) hk1 (by omega); have F0 := Four.kp (Four.alloc (Four.new w _ _ _ _ _) _) hk1 (by omega); obtain ⟨q0, q1, q2, q3, g0, g1, g2, g3, gz⟩ := id F1; obtain ⟨r0, r1, r2, r3, j0, j1, j2, j3, jz⟩ := id F0)
  refine bodyPost_ret (v := fv 2 (unsg x) ⟨#[]⟩ false) (by simp [results, Tryd.results85, go_sem, r0, r1, r2, r3]) rfl ⟨rfl, ?_, ?_⟩
  · exact ((((hp1.setNew (by omega) _ _).setNew (by omega) _ _).setNew (by omega) _ _).setNew (by omega) _ _).setNew (by omega) _ _
  · exact (((((Kp.of_alloc2 hk1).setNew (by omega) _ _).setNew (by omega) _ _).setNew (by omega) _ _).setNew (by omega) _ _).setNew (by omega) _ _

set_option maxHeartbeats 2000000 in
theorem field2_err (W0 : World) (a : Option Addr) (len cap : Nat) (zs : List Int) (p i : Nat) (w : World) (P : Pl W0 a len cap zs p i w) (c : Int) (h : num (zs.drop i) = .error c) :
    Calls Tryd.prog 85 #[.pointer (some ⟨p, 0, none⟩), .int .i64 2] w fun e w' => e = thrown c ∧ Kp p w w' := by
  have HN : Hid (num (zs.drop i) = .error c) := h
  clear h
  go_enter Tryd.func85, Tryd.ntmps85
  go_wp2_with (go_at_call 92; refine (signedr_err W0 a len cap zs p i _ ((P.alloc _).alloc _) c HN.out).mono ?_; rintro e w1 ⟨rfl, hk1⟩)
  exact ⟨rfl, rfl, Kp.of_alloc2 hk1⟩

set_option maxHeartbeats 2000000 in
theorem field3_ok (W0 : World) (a : Option Addr) (len cap : Nat) (zs : List Int) (p i : Nat) (w : World) (P : Pl W0 a len cap zs p i w) (x : ByteArray) (n : Nat) (h : txtR (zs.drop i) = .ok (x, n)) :
    Calls Tryd.prog 85 #[.pointer (some ⟨p, 0, none⟩), .int .i64 3] w fun e w' => e = .returned (fv 3 (0) x false) ∧ Pl W0 a len cap zs p (i + n) w' ∧ Kp p w w' := by
  have hpw := P.two.2.2.2.2
  have HN : Hid (txtR (zs.drop i) = .ok (x, n)) := h
  clear h
  go_enter Tryd.func85, Tryd.ntmps85
  go_wp2_with (go_at_call 93; refine (textr_ok W0 a len cap zs p i _ ((P.alloc _).alloc _) x n HN.out).mono ?_; rintro e w1 ⟨rfl, hp1, hk1⟩; have F1 := Four.kp (((Four.new _ _ _ _ _ _).at (by simp)) : Four _ (w.heap.size + 1) _ _ _ _) hk1 (by omega); have F0 := Four.kp (Four.alloc (Four.new w _ _ _ _ _) _) hk1 (by omega); obtain ⟨q0, q1, q2, q3, g0, g1, g2, g3, gz⟩ := id F1; obtain ⟨r0, r1, r2, r3, j0, j1, j2, j3, jz⟩ := id F0)
  refine bodyPost_ret (v := fv 3 (0) x false) (by simp [results, Tryd.results85, go_sem, r0, r1, r2, r3]) rfl ⟨rfl, ?_, ?_⟩
  · exact ((((hp1.setNew (by omega) _ _).setNew (by omega) _ _).setNew (by omega) _ _).setNew (by omega) _ _).setNew (by omega) _ _
  · exact (((((Kp.of_alloc2 hk1).setNew (by omega) _ _).setNew (by omega) _ _).setNew (by omega) _ _).setNew (by omega) _ _).setNew (by omega) _ _

set_option maxHeartbeats 2000000 in
theorem field3_err (W0 : World) (a : Option Addr) (len cap : Nat) (zs : List Int) (p i : Nat) (w : World) (P : Pl W0 a len cap zs p i w) (c : Int) (h : txtR (zs.drop i) = .error c) :
    Calls Tryd.prog 85 #[.pointer (some ⟨p, 0, none⟩), .int .i64 3] w fun e w' => e = thrown c ∧ Kp p w w' := by
  have HN : Hid (txtR (zs.drop i) = .error c) := h
  clear h
  go_enter Tryd.func85, Tryd.ntmps85
  go_wp2_with (go_at_call 93; refine (textr_err W0 a len cap zs p i _ ((P.alloc _).alloc _) c HN.out).mono ?_; rintro e w1 ⟨rfl, hk1⟩)
  exact ⟨rfl, rfl, Kp.of_alloc2 hk1⟩

set_option maxHeartbeats 2000000 in
theorem field4_ok (W0 : World) (a : Option Addr) (len cap : Nat) (zs : List Int) (p i : Nat) (w : World) (P : Pl W0 a len cap zs p i w) (x : Bool) (n : Nat) (h : flgR (zs.drop i) = .ok (x, n)) :
    Calls Tryd.prog 85 #[.pointer (some ⟨p, 0, none⟩), .int .i64 4] w fun e w' => e = .returned (fv 4 (0) ⟨#[]⟩ x) ∧ Pl W0 a len cap zs p (i + n) w' ∧ Kp p w w' := by
  have hpw := P.two.2.2.2.2
  have HN : Hid (flgR (zs.drop i) = .ok (x, n)) := h
  clear h
  go_enter Tryd.func85, Tryd.ntmps85
  go_wp2_with (go_at_call 94; refine (flagr_ok W0 a len cap zs p i _ ((P.alloc _).alloc _) x n HN.out).mono ?_; rintro e w1 ⟨rfl, hp1, hk1⟩; have F1 := Four.kp (((Four.new _ _ _ _ _ _).at (by simp)) : Four _ (w.heap.size + 1) _ _ _ _) hk1 (by omega); have F0 := Four.kp (Four.alloc (Four.new w _ _ _ _ _) _) hk1 (by omega); obtain ⟨q0, q1, q2, q3, g0, g1, g2, g3, gz⟩ := id F1; obtain ⟨r0, r1, r2, r3, j0, j1, j2, j3, jz⟩ := id F0)
  refine bodyPost_ret (v := fv 4 (0) ⟨#[]⟩ x) (by simp [results, Tryd.results85, go_sem, r0, r1, r2, r3]) rfl ⟨rfl, ?_, ?_⟩
  · exact ((((hp1.setNew (by omega) _ _).setNew (by omega) _ _).setNew (by omega) _ _).setNew (by omega) _ _).setNew (by omega) _ _
  · exact (((((Kp.of_alloc2 hk1).setNew (by omega) _ _).setNew (by omega) _ _).setNew (by omega) _ _).setNew (by omega) _ _).setNew (by omega) _ _

set_option maxHeartbeats 2000000 in
theorem field4_err (W0 : World) (a : Option Addr) (len cap : Nat) (zs : List Int) (p i : Nat) (w : World) (P : Pl W0 a len cap zs p i w) (c : Int) (h : flgR (zs.drop i) = .error c) :
    Calls Tryd.prog 85 #[.pointer (some ⟨p, 0, none⟩), .int .i64 4] w fun e w' => e = thrown c ∧ Kp p w w' := by
  have HN : Hid (flgR (zs.drop i) = .error c) := h
  clear h
  go_enter Tryd.func85, Tryd.ntmps85
  go_wp2_with (go_at_call 94; refine (flagr_err W0 a len cap zs p i _ ((P.alloc _).alloc _) c HN.out).mono ?_; rintro e w1 ⟨rfl, hk1⟩)
  exact ⟨rfl, rfl, Kp.of_alloc2 hk1⟩

set_option maxHeartbeats 2000000 in
theorem field0_err (p : Nat) (k : Int) (w : World) (h1 : ¬ k = 1) (h2 : ¬ k = 2) (h3 : ¬ k = 3) (h4 : ¬ k = 4) :
    Calls Tryd.prog 85 #[.pointer (some ⟨p, 0, none⟩), .int .i64 k] w fun e w' => e = thrown 46 ∧ Kp p w w' := by
  have e1 : (k == 1) = false := by simpa using h1
  have e2 : (k == 2) = false := by simpa using h2
  have e3 : (k == 3) = false := by simpa using h3
  have e4 : (k == 4) = false := by simpa using h4
  go_enter Tryd.func85, Tryd.ntmps85
  go_wp2_with (go_at_call 95; refine (throw_any _ _).mono ?_; rintro e w' ⟨rfl, hw⟩; rw [hw]; clear hw)
  exact ⟨rfl, rfl, ((Kp.refl _ _).alloc _).alloc _⟩

theorem field_ok (W0 : World) (a : Option Addr) (len cap : Nat) (zs : List Int) (p i : Nat) (k : Int) (w : World) (P : Pl W0 a len cap zs p i w) (f : Fld) (n : Nat) (h : fld k (zs.drop i) = .ok (f, n)) :
    Calls Tryd.prog 85 #[.pointer (some ⟨p, 0, none⟩), .int .i64 k] w fun e w' => e = .returned (fv f.kind f.num f.text f.is) ∧ Pl W0 a len cap zs p (i + n) w' ∧ Kp p w w' := by
  unfold fld at h
  split at h
  · rename_i hk
    subst hk
    cases hn : natR (num (zs.drop i)) with
    | error c => rw [hn] at h; cases h
    | ok r => obtain ⟨x, m⟩ := r; rw [hn] at h; cases h; exact field1_ok W0 a len cap zs p i w P x n hn
  · split at h
    · rename_i hk
      subst hk
      cases hn : num (zs.drop i) with
      | error c => rw [hn] at h; cases h
      | ok r => obtain ⟨x, m⟩ := r; rw [hn] at h; cases h; exact field2_ok W0 a len cap zs p i w P x n hn
    · split at h
      · rename_i hk
        subst hk
        cases hn : txtR (zs.drop i) with
        | error c => rw [hn] at h; cases h
        | ok r => obtain ⟨x, m⟩ := r; rw [hn] at h; cases h; exact field3_ok W0 a len cap zs p i w P x n hn
      · split at h
        · rename_i hk
          subst hk
          cases hn : flgR (zs.drop i) with
          | error c => rw [hn] at h; cases h
          | ok r => obtain ⟨x, m⟩ := r; rw [hn] at h; cases h; exact field4_ok W0 a len cap zs p i w P x n hn
        · cases h

theorem field_err (W0 : World) (a : Option Addr) (len cap : Nat) (zs : List Int) (p i : Nat) (k : Int) (w : World) (P : Pl W0 a len cap zs p i w) (c : Int) (h : fld k (zs.drop i) = .error c) :
    Calls Tryd.prog 85 #[.pointer (some ⟨p, 0, none⟩), .int .i64 k] w fun e w' => e = thrown c ∧ Kp p w w' := by
  unfold fld at h
  split at h
  · rename_i hk
    subst hk
    cases hn : natR (num (zs.drop i)) with
    | error c => rw [hn] at h; cases h; exact field1_err W0 a len cap zs p i w P c hn
    | ok r => obtain ⟨x, m⟩ := r; rw [hn] at h; cases h
  · split at h
    · rename_i hk
      subst hk
      cases hn : num (zs.drop i) with
      | error c => rw [hn] at h; cases h; exact field2_err W0 a len cap zs p i w P c hn
      | ok r => obtain ⟨x, m⟩ := r; rw [hn] at h; cases h
    · split at h
      · rename_i hk
        subst hk
        cases hn : txtR (zs.drop i) with
        | error c => rw [hn] at h; cases h; exact field3_err W0 a len cap zs p i w P c hn
        | ok r => obtain ⟨x, m⟩ := r; rw [hn] at h; cases h
      · split at h
        · rename_i hk
          subst hk
          cases hn : flgR (zs.drop i) with
          | error c => rw [hn] at h; cases h; exact field4_err W0 a len cap zs p i w P c hn
          | ok r => obtain ⟨x, m⟩ := r; rw [hn] at h; cases h
        · rename_i h1 h2 h3 h4
          cases h
          exact field0_err p k w h1 h2 h3 h4

end Go.Proofs.YticmjlnpjopfbaaDoor.C
