/-
  Package disk: what lies where.
-/
import Derived.Test.YtaacggbfoejjhaaDoorProg
import Derived.WalkKit
import Derived.ProofKit
import Derived.Handy
import Derived.Below
import Derived.OwnWalk
import Derived.Lib.AppendStr
import Derived.Laws.AppendOwnNone
import Derived.Deep.LoopGhost
import Derived.WalkSpells
import Derived.Laws.BytesArg
import Derived.BigQuiet
import Derived.Deep.QuietTactic
import Derived.WalkLawsBesides
import Derived.Deep.MidRow
import Derived.Laws.CopyRow
namespace Go.Proofs.YtaacggbfoejjhaaDoor.D
open Go.ChangeShapes Go.WideShapes Go.ChangeAt Go.RowKit
set_option linter.unusedVariables false
set_option linter.unusedSimpArgs false

abbrev bv (n : Int) : Value := .int .u8 n
def Byt (l : List Int) : Prop := ∀ c ∈ l, 0 ≤ c ∧ c < 256
theorem info5 : (Tryd.prog.info? 5).map (fun i => (i.zero, i.size, i.bytes)) = some (some (.int .u8 0), 1, 1) := by kernel_rfl
theorem add_plain (g o j : Nat) : (⟨g, o, none⟩ : Addr).add j = ⟨g, o + j, none⟩ := by unfold Addr.add; split <;> simp_all

/-- Nothing has changed but what C holds of. -/
structure Only (C : Nat → Prop) (w w' : World) : Prop where
  os : w'.os = w.os
  tape : w'.tape = w.tape
  output : w'.output = w.output
  size : w.heap.size ≤ w'.heap.size
  block : ∀ b, b < w.heap.size → ¬ C b → w'.heap[b]? = w.heap[b]?
theorem Only.refl (C : Nat → Prop) (w : World) : Only C w w := ⟨rfl, rfl, rfl, Nat.le_refl _, fun _ _ _ => rfl⟩
theorem Only.trans {C : Nat → Prop} {a b c : World} (h : Only C a b) (k : Only C b c) : Only C a c :=
  ⟨k.os.trans h.os, k.tape.trans h.tape, k.output.trans h.output, Nat.le_trans h.size k.size, fun q hq hn => (k.block q (Nat.lt_of_lt_of_le hq h.size) hn).trans (h.block q hq hn)⟩
theorem Only.mono {C D : Nat → Prop} {a b : World} (h : Only C a b) (hd : ∀ q, q < a.heap.size → C q → D q) : Only D a b := ⟨h.os, h.tape, h.output, h.size, fun q hq hn => h.block q hq (fun hc => hn (hd q hq hc))⟩
theorem Only.drew {C : Nat → Prop} {a b : World} (h : Only C a b) : Only C a b.drew := ⟨h.os, h.tape, h.output, h.size, h.block⟩
theorem Only.drewN {C : Nat → Prop} {a b : World} (h : Only C a b) (n : Nat) : Only C a (b.drewN n) := ⟨h.os, h.tape, h.output, h.size, h.block⟩
theorem Only.alloc {C : Nat → Prop} {a b : World} (h : Only C a b) (o : Obj) : Only C a (b.alloc o) :=
  ⟨h.os, h.tape, h.output, by have := h.size; simp; omega, fun q hq hn => (Below.heap_alloc _ _ _ (Nat.lt_of_lt_of_le hq h.size)).trans (h.block q hq hn)⟩
theorem Only.setCell {C : Nat → Prop} {a b : World} (h : Only C a b) {g : Nat} (hg : g < a.heap.size → C g) (i : Nat) (v : Value) : Only C a (b.setCell ⟨g, i, none⟩ v) :=
  ⟨h.os, h.tape, h.output, by simpa [World.setCell] using h.size, fun q hq hn => (Below.heap_setCell _ _ _ _ (fun e => hn (by have e' : q = g := e; rw [e'] at hq ⊢; exact hg hq))).trans (h.block q hq hn)⟩
theorem Only.setRow {C : Nat → Prop} {a b : World} (h : Only C a b) {g : Nat} (hg : g < a.heap.size → C g) (c : Array Value) : Only C a (b.setRow g c) :=
  ⟨h.os, h.tape, h.output, by rw [size_setRow]; exact h.size, fun q hq hn => (setRow_other _ _ _ _ (fun e => hn (by rw [e] at hq ⊢; exact hg hq))).trans (h.block q hq hn)⟩
theorem Only.below {C : Nat → Prop} {a b : World} (h : Only C a b) {n : Nat} (hs : n ≤ a.heap.size) (hC : ∀ q, C q → n ≤ q) : Below n a b :=
  ⟨h.os, h.tape, h.output, h.size, fun q hq => h.block q (by omega) (fun hc => by have := hC q hc; omega)⟩
theorem Only.of_below {C : Nat → Prop} {a b : World} (h : Below a.heap.size a b) : Only C a b := ⟨h.os, h.tape, h.output, h.size, fun q hq _ => h.block q hq⟩
def at1 (d : Nat) : Nat → Prop := fun b => b = d
def at2 (d l : Nat) : Nat → Prop := fun b => b = d ∨ b = l
theorem Only.set {d : Nat} {a b : World} (h : Only (at1 d) a b) (i : Nat) (v : Value) : Only (at1 d) a (b.setCell ⟨d, i, none⟩ v) := h.setCell (fun _ => rfl) i v
theorem Only.two {d : Nat} {a b : World} (h : Only (at1 d) a b) (l : Nat) : Only (at2 d l) a b := h.mono fun q _ hq => Or.inl hq
def none_ : Nat → Prop := fun _ => False
theorem Only.calm {a b : World} (h : Only none_ a b) : Below a.heap.size a b := h.below (Nat.le_refl _) (fun q hq => hq.elim)

theorem row_cell {w : World} {g : Nat} {cs : Array Value} {t : TypeId} (h : w.heap[g]? = some (.cells cs t (0, 0))) (i : Nat) (v : Value) (hv : cs[i]? = some v) : w.cell? ⟨g, i, none⟩ = some v := by
  simp [World.cell?, h, hv]
theorem row_free {w : World} {g : Nat} {cs : Array Value} {t : TypeId} (h : w.heap[g]? = some (.cells cs t (0, 0))) (i : Nat) : w.frozen? ⟨g, i, none⟩ = false := by simp [World.frozen?, h]
theorem row_lt {w : World} {g : Nat} {o : Obj} (h : w.heap[g]? = some o) : g < w.heap.size := (Array.getElem?_eq_some_iff.1 h).1
theorem set_row {w : World} {g : Nat} {cs : Array Value} {t : TypeId} (h : w.heap[g]? = some (.cells cs t (0, 0))) (i : Nat) (v : Value) : (w.setCell ⟨g, i, none⟩ v).heap[g]? = some (.cells (cs.setIfInBounds i v) t (0, 0)) := by
  rw [setCell_eq_setRow w g i cs t (0, 0) v h]
  exact setRow_heap w g cs _ t _ h
theorem set_far {w : World} {g k : Nat} {o : Option Obj} (h : w.heap[g]? = o) (hk : g ≠ k) (i : Nat) (v : Value) : (w.setCell ⟨k, i, none⟩ v).heap[g]? = o := (Below.heap_setCell _ _ _ _ hk).trans h

/-- A disk: the power, what the cut lets through, whether that stays, how many sectors, their bytes, how many writes. -/
structure DS where
  gone : Bool
  left : Int
  stays : Bool
  n : Nat
  bs : List Int
  done : Int
structure DS.Ok (S : DS) : Prop where
  len : S.bs.length = 16 * S.n
  lo : 1 ≤ S.n
  hi : S.n ≤ 64
  byt : Byt S.bs
  left0 : -1 ≤ S.left
  left1 : S.left ≤ 9223372036854775807
  dn0 : -9223372036854775808 ≤ S.done
  dn1 : S.done ≤ 9223372036854775807
/-- The program's. -/
structure DkP (W : World) (d l : Nat) (S : DS) : Prop where
  obj : W.heap[d]? = some (.cells #[.bool S.gone, .int .i64 S.left, .bool S.stays, .slice (some ⟨l, 0, none⟩) S.n S.n, .int .i64 S.done] 76 (0, 0))
  lst : W.heap[l]? = some (.cells (S.bs.map bv).toArray 77 (0, 0))
  ne : d ≠ l
  ok : S.Ok
/-- The document's. -/
structure DkR (W : World) (r m : Nat) (S : DS) : Prop where
  obj : W.heap[r]? = some (.cells #[.bool true, .slice (some ⟨m, 0, none⟩) (16 * S.n) (16 * S.n), .bool S.gone, .int .i64 S.left, .bool S.stays, .int .i64 S.done] 79 (0, 0))
  byt : W.heap[m]? = some (.cells (S.bs.map bv).toArray 5 (0, 0))
  ne : r ≠ m
  ok : S.Ok
theorem DkP.of_blocks {W W' : World} {d l : Nat} {S : DS} (h : DkP W d l S) (h1 : W'.heap[d]? = W.heap[d]?) (h2 : W'.heap[l]? = W.heap[l]?) : DkP W' d l S := ⟨h1.trans h.obj, h2.trans h.lst, h.ne, h.ok⟩
theorem DkR.of_blocks {W W' : World} {d l : Nat} {S : DS} (h : DkR W d l S) (h1 : W'.heap[d]? = W.heap[d]?) (h2 : W'.heap[l]? = W.heap[l]?) : DkR W' d l S := ⟨h1.trans h.obj, h2.trans h.byt, h.ne, h.ok⟩
theorem DkP.only {C : Nat → Prop} {W W' : World} {d l : Nat} {S : DS} (h : DkP W d l S) (k : Only C W W') (hd : ¬ C d) (hl : ¬ C l) : DkP W' d l S := h.of_blocks (k.block d (row_lt h.obj) hd) (k.block l (row_lt h.lst) hl)
theorem DkR.only {C : Nat → Prop} {W W' : World} {d l : Nat} {S : DS} (h : DkR W d l S) (k : Only C W W') (hd : ¬ C d) (hl : ¬ C l) : DkR W' d l S := h.of_blocks (k.block d (row_lt h.obj) hd) (k.block l (row_lt h.byt) hl)
theorem DkP.below {W W' : World} {d l : Nat} {S : DS} (h : DkP W d l S) (k : Below W.heap.size W W') : DkP W' d l S := h.of_blocks (k.block d (row_lt h.obj)) (k.block l (row_lt h.lst))
theorem DkR.below {W W' : World} {d l : Nat} {S : DS} (h : DkR W d l S) (k : Below W.heap.size W W') : DkR W' d l S := h.of_blocks (k.block d (row_lt h.obj)) (k.block l (row_lt h.byt))
/-- The cells of the program's disk. -/
structure CelP (W : World) (d l : Nat) (S : DS) : Prop where
  c0 : W.cell? ⟨d, 0, none⟩ = some (.bool S.gone)
  c1 : W.cell? ⟨d, 1, none⟩ = some (.int .i64 S.left)
  c2 : W.cell? ⟨d, 2, none⟩ = some (.bool S.stays)
  c3 : W.cell? ⟨d, 3, none⟩ = some (.slice (some ⟨l, 0, none⟩) S.n S.n)
  c4 : W.cell? ⟨d, 4, none⟩ = some (.int .i64 S.done)
theorem DkP.cel {W : World} {d l : Nat} {S : DS} (h : DkP W d l S) : CelP W d l S := ⟨row_cell h.obj 0 _ rfl, row_cell h.obj 1 _ rfl, row_cell h.obj 2 _ rfl, row_cell h.obj 3 _ rfl, row_cell h.obj 4 _ rfl⟩
theorem DkP.free {W : World} {d l : Nat} {S : DS} (h : DkP W d l S) (i : Nat) : W.frozen? ⟨d, i, none⟩ = false := row_free h.obj i
structure CelR (W : World) (r m : Nat) (S : DS) : Prop where
  c0 : W.cell? ⟨r, 0, none⟩ = some (.bool true)
  c1 : W.cell? ⟨r, 1, none⟩ = some (.slice (some ⟨m, 0, none⟩) (16 * S.n) (16 * S.n))
  c2 : W.cell? ⟨r, 2, none⟩ = some (.bool S.gone)
  c3 : W.cell? ⟨r, 3, none⟩ = some (.int .i64 S.left)
  c4 : W.cell? ⟨r, 4, none⟩ = some (.bool S.stays)
  c5 : W.cell? ⟨r, 5, none⟩ = some (.int .i64 S.done)
theorem DkR.cel {W : World} {d l : Nat} {S : DS} (h : DkR W d l S) : CelR W d l S := ⟨row_cell h.obj 0 _ rfl, row_cell h.obj 1 _ rfl, row_cell h.obj 2 _ rfl, row_cell h.obj 3 _ rfl, row_cell h.obj 4 _ rfl, row_cell h.obj 5 _ rfl⟩
theorem DkR.free {W : World} {d l : Nat} {S : DS} (h : DkR W d l S) (i : Nat) : W.frozen? ⟨d, i, none⟩ = false := row_free h.obj i

set_option maxHeartbeats 1000000 in
theorem given_any (d l : Nat) (S : DS) (w : World) (D : DkP w d l S) : Calls Tryd.prog 36 #[.pointer (some ⟨d, 0, none⟩)] w fun e w' => e = .returned (.bool true) ∧ w' = w := by
  have c3 := D.cel.c3
  have h1 : 0 < S.n := by have := D.ok.lo; omega
  go_enter Tryd.func36, Tryd.ntmps36
  go_wp2
  go_ret
  exact ⟨rfl, rfl⟩
set_option maxHeartbeats 1000000 in
theorem dead_any (d l : Nat) (S : DS) (w : World) (D : DkP w d l S) : Calls Tryd.prog 53 #[.pointer (some ⟨d, 0, none⟩)] w fun e w' => e = .returned (.bool S.gone) ∧ w' = w := by
  have c0 := D.cel.c0
  go_enter Tryd.func53, Tryd.ntmps53
  go_wp2_with (go_at_call 36; refine (given_any d l S _ D).mono ?_; rintro e w1 ⟨rfl, rfl⟩)
  go_ret
  exact ⟨rfl, rfl⟩
set_option maxHeartbeats 1000000 in
theorem writes_any (d l : Nat) (S : DS) (w : World) (D : DkP w d l S) : Calls Tryd.prog 21 #[.pointer (some ⟨d, 0, none⟩)] w fun e w' => e = .returned (.int .i64 S.done) ∧ w' = w := by
  have c4 := D.cel.c4
  go_enter Tryd.func21, Tryd.ntmps21
  go_wp2_with (go_at_call 36; refine (given_any d l S _ D).mono ?_; rintro e w1 ⟨rfl, rfl⟩)
  go_ret
  exact ⟨rfl, rfl⟩
/-- What Cut and On do. -/
def DS.cut (S : DS) (x : Int) : DS := ⟨S.gone, if x ≤ -1 then -1 else x, S.gone, S.n, S.bs, S.done⟩
def DS.on (S : DS) : DS := ⟨false, if S.stays then S.left else -1, false, S.n, S.bs, S.done⟩
theorem DS.Ok.cut {S : DS} (h : S.Ok) {x : Int} (hx : x ≤ 9223372036854775807) : (S.cut x).Ok := ⟨h.len, h.lo, h.hi, h.byt, by simp only [DS.cut]; split <;> omega, by simp only [DS.cut]; split <;> omega, h.dn0, h.dn1⟩
theorem DS.Ok.on {S : DS} (h : S.Ok) : S.on.Ok := ⟨h.len, h.lo, h.hi, h.byt, by simp only [DS.on]; have := h.left0; split <;> omega, by simp only [DS.on]; have := h.left1; split <;> omega, h.dn0, h.dn1⟩
set_option maxHeartbeats 1000000 in
theorem cut0_any (d l : Nat) (S : DS) (x : Int) (w : World) (D : DkP w d l S) (hx : x ≤ 9223372036854775807) : Calls Tryd.prog 39 #[.pointer (some ⟨d, 0, none⟩), .int .i64 x] w fun e w' => e = .returned (.tuple #[]) ∧ DkP w' d l (S.cut x) ∧ Only (at1 d) w w' := by
  have c0 := D.cel.c0
  have c1 := D.cel.c1
  have c2 := D.cel.c2
  have f1 := D.free 1
  have f2 := D.free 2
  have fin : ∀ y, y = (if x ≤ -1 then -1 else x) → DkP ((w.setCell ⟨d, 1, none⟩ (.int .i64 y)).setCell ⟨d, 2, none⟩ (.bool S.gone)) d l (S.cut x) ∧ Only (at1 d) w ((w.setCell ⟨d, 1, none⟩ (.int .i64 y)).setCell ⟨d, 2, none⟩ (.bool S.gone)) := by
    rintro y rfl
    exact ⟨⟨set_row (set_row D.obj 1 _) 2 _, set_far (set_far D.lst D.ne.symm _ _) D.ne.symm _ _, D.ne, D.ok.cut hx⟩, ((Only.refl _ _).set _ _).set _ _⟩
  by_cases h : x ≤ -1
  · rw [if_pos h] at fin
    go_enter Tryd.func39, Tryd.ntmps39
    go_wp2
    all_goals first
      | exact bodyPost_end (v := .tuple #[]) (by simp [results, Tryd.results39, go_sem]) rfl ⟨rfl, fin _ rfl⟩
      | (exfalso; omega)
      | exact bodyPost_end (v := .tuple #[]) (by simp [results, Tryd.results39, go_sem]) rfl ⟨rfl, fin _ (by omega)⟩
  · rw [if_neg h] at fin
    go_enter Tryd.func39, Tryd.ntmps39
    go_wp2
    all_goals first
      | exact bodyPost_end (v := .tuple #[]) (by simp [results, Tryd.results39, go_sem]) rfl ⟨rfl, fin _ rfl⟩
      | (exfalso; omega)
set_option maxHeartbeats 1000000 in
theorem on0_any (d l : Nat) (S : DS) (w : World) (D : DkP w d l S) : Calls Tryd.prog 40 #[.pointer (some ⟨d, 0, none⟩)] w fun e w' => e = .returned (.tuple #[]) ∧ DkP w' d l S.on ∧ Only (at1 d) w w' := by
  have c0 := D.cel.c0
  have c1 := D.cel.c1
  have c2 := D.cel.c2
  have f0 := D.free 0
  have f1 := D.free 1
  have f2 := D.free 2
  cases hs : S.stays with
  | true =>
    rw [hs] at c2
    have e : S.on = ⟨false, S.left, false, S.n, S.bs, S.done⟩ := by simp [DS.on, hs]
    go_enter Tryd.func40, Tryd.ntmps40
    go_wp2
    exact bodyPost_end (v := .tuple #[]) (by simp [results, Tryd.results40, go_sem]) rfl ⟨rfl, ⟨by rw [e]; exact set_row (set_row D.obj 0 _) 2 _, by rw [e]; exact set_far (set_far D.lst D.ne.symm _ _) D.ne.symm _ _, D.ne, D.ok.on⟩, ((Only.refl _ _).set _ _).set _ _⟩
  | false =>
    rw [hs] at c2
    have e : S.on = ⟨false, -1, false, S.n, S.bs, S.done⟩ := by simp [DS.on, hs]
    go_enter Tryd.func40, Tryd.ntmps40
    go_wp2
    exact bodyPost_end (v := .tuple #[]) (by simp [results, Tryd.results40, go_sem]) rfl ⟨rfl, ⟨by rw [e]; exact set_row (set_row (set_row D.obj 0 _) 1 _) 2 _, by rw [e]; exact set_far (set_far (set_far D.lst D.ne.symm _ _) D.ne.symm _ _) D.ne.symm _ _, D.ne, D.ok.on⟩, (((Only.refl _ _).set _ _).set _ _).set _ _⟩
set_option maxHeartbeats 1000000 in
theorem cut_any (d l : Nat) (S : DS) (x : Int) (w : World) (D : DkP w d l S) (hx : x ≤ 9223372036854775807) : Calls Tryd.prog 19 #[.pointer (some ⟨d, 0, none⟩), .int .i64 x] w fun e w' => e = .returned (.tuple #[]) ∧ DkP w' d l (S.cut x) ∧ Only (at1 d) w w' := by
  go_enter Tryd.func19, Tryd.ntmps19
  go_wp2_with (first
    | (go_at_call 36; refine (given_any d l S _ D).mono ?_; rintro e w1 ⟨rfl, rfl⟩)
    | (go_at_call 39; refine (cut0_any d l S x _ D hx).mono ?_; rintro e w2 ⟨rfl, D2, o2⟩))
  exact bodyPost_end (v := .tuple #[]) (by simp [results, Tryd.results19, go_sem]) rfl ⟨rfl, D2, o2⟩
set_option maxHeartbeats 1000000 in
theorem on_any (d l : Nat) (S : DS) (w : World) (D : DkP w d l S) : Calls Tryd.prog 20 #[.pointer (some ⟨d, 0, none⟩)] w fun e w' => e = .returned (.tuple #[]) ∧ DkP w' d l S.on ∧ Only (at1 d) w w' := by
  go_enter Tryd.func20, Tryd.ntmps20
  go_wp2_with (first
    | (go_at_call 36; refine (given_any d l S _ D).mono ?_; rintro e w1 ⟨rfl, rfl⟩)
    | (go_at_call 40; refine (on0_any d l S _ D).mono ?_; rintro e w2 ⟨rfl, D2, o2⟩))
  exact bodyPost_end (v := .tuple #[]) (by simp [results, Tryd.results20, go_sem]) rfl ⟨rfl, D2, o2⟩
/-- What a write that is good finds. -/
def DS.lets (S : DS) : DS := ⟨if S.left = 0 then true else S.gone, if 0 < S.left then S.left - 1 else S.left, S.stays, S.n, S.bs, S.done⟩
set_option maxHeartbeats 1000000 in
theorem lets_no (d l : Nat) (S : DS) (w : World) (D : DkP w d l S) (h : S.left = 0) : Calls Tryd.prog 75 #[.pointer (some ⟨d, 0, none⟩)] w fun e w' => e = .returned (.bool false) ∧ DkP w' d l ⟨true, S.left, S.stays, S.n, S.bs, S.done⟩ ∧ Only (at1 d) w w' := by
  have c0 := D.cel.c0
  have c1 := D.cel.c1
  have f0 := D.free 0
  have h' : (S.left == 0) = true := by simp [h]
  go_enter Tryd.func75, Tryd.ntmps75
  go_wp2
  go_ret
  exact ⟨rfl, ⟨set_row D.obj 0 _, set_far D.lst D.ne.symm _ _, D.ne, ⟨D.ok.len, D.ok.lo, D.ok.hi, D.ok.byt, D.ok.left0, D.ok.left1, D.ok.dn0, D.ok.dn1⟩⟩, (Only.refl _ _).set _ _⟩
set_option maxHeartbeats 1000000 in
theorem lets_yes (d l : Nat) (S : DS) (w : World) (D : DkP w d l S) (h : S.left ≠ 0) : Calls Tryd.prog 75 #[.pointer (some ⟨d, 0, none⟩)] w fun e w' => e = .returned (.bool true) ∧ DkP w' d l ⟨S.gone, if 0 < S.left then S.left - 1 else S.left, S.stays, S.n, S.bs, S.done⟩ ∧ Only (at1 d) w w' := by
  have c0 := D.cel.c0
  have c1 := D.cel.c1
  have f1 := D.free 1
  have l0 := D.ok.left0
  have l1 := D.ok.left1
  have h' : (S.left == 0) = false := by simp [h]
  by_cases h2 : 0 < S.left
  · rw [if_pos h2]
    go_enter Tryd.func75, Tryd.ntmps75
    go_wp2
    go_ret
    exact ⟨rfl, ⟨by first | exact set_row D.obj 1 _ | (have := set_row D.obj 1 (.int .i64 (S.left - 1)); go_num), set_far D.lst D.ne.symm _ _, D.ne, ⟨D.ok.len, D.ok.lo, D.ok.hi, D.ok.byt, by simp only; omega, by simp only; omega, D.ok.dn0, D.ok.dn1⟩⟩, (Only.refl _ _).set _ _⟩
  · rw [if_neg h2]
    go_enter Tryd.func75, Tryd.ntmps75
    go_wp2
    go_ret
    exact ⟨rfl, D, Only.refl _ _⟩
set_option maxHeartbeats 1000000 in
theorem who_any (d l : Nat) (S : DS) (w : World) (D : DkP w d l S) : Calls Tryd.prog 50 #[.pointer (some ⟨d, 0, none⟩)] w fun e w' => e = .returned (if S.gone then .iface 96 (.agg #[]) else .iface 98 (.agg #[.pointer (some ⟨d, 0, none⟩)])) ∧ Below w.heap.size w w' := by
  cases hg : S.gone with
  | true =>
    have K := dead_any d l S w D
    rw [hg] at K
    go_enter Tryd.func50, Tryd.ntmps50
    go_wp2_with (go_at_call 53; refine K.mono ?_; rintro e w1 ⟨rfl, rfl⟩)
    go_ret
    exact ⟨rfl, Below.refl _ _⟩
  | false =>
    have K := dead_any d l S w D
    rw [hg] at K
    go_enter Tryd.func50, Tryd.ntmps50
    go_wp2_with (go_at_call 53; refine K.mono ?_; rintro e w1 ⟨rfl, rfl⟩)
    go_ret
    exact ⟨rfl, Below.refl _ _⟩
end Go.Proofs.YtaacggbfoejjhaaDoor.D
