/-
  Package half: place: where a key stands, or would stand, in a rising list.
-/
import Derived.Test.YtifkkkfejbgifaaC1
import Derived.RegionIn
namespace Go.Proofs.Ytifkkkfejbgifaa
open Go.ChangeShapes Go.WideShapes Go.ChangeAt Go.RowKit Go.Maps Go.Shelf
set_option linter.unusedVariables false
set_option linter.unusedSimpArgs false
attribute [local go_sem] Oper.semAt_some

def pos {α : Type} (lt : α → Bool) : List α → Nat
  | [] => 0
  | x :: r => if lt x = true then pos lt r + 1 else 0
def hit {α : Type} (lt eq : α → Bool) (l : List α) : Bool := match l[pos lt l]? with
  | some x => eq x
  | none => false
theorem pos_at {α : Type} {lt : α → Bool} {x : α} : ∀ {l : List α} {i : Nat}, (∀ q ∈ l.take i, lt q = true) → l[i]? = some x → lt x = false → pos lt l = i
  | [], i, _, h, _ => by cases h
  | y :: l, 0, _, h, hx => by
    simp at h
    subst h
    simp [pos, hx]
  | y :: l, i + 1, h0, h, hx => by
    have hy := h0 y (by simp)
    have := pos_at (l := l) (i := i) (fun q hq => h0 q (by simp [hq])) (by simpa using h) hx
    simp [pos, hy, this]
theorem pos_all {α : Type} {lt : α → Bool} : ∀ {l : List α}, (∀ q ∈ l, lt q = true) → pos lt l = l.length
  | [], _ => rfl
  | y :: l, h => by
    have := pos_all (l := l) (fun q hq => h q (by simp [hq]))
    simp [pos, h y (by simp), this]
theorem pos_le {α : Type} (lt : α → Bool) : ∀ l : List α, pos lt l ≤ l.length
  | [] => Nat.le_refl _
  | y :: l => by
    have := pos_le lt l
    unfold pos
    split <;> simp <;> omega
theorem hit_at {α : Type} {lt eq : α → Bool} {x : α} {l : List α} {i : Nat} (h0 : ∀ q ∈ l.take i, lt q = true) (h : l[i]? = some x) (hx : lt x = false) : pos lt l = i ∧ hit lt eq l = eq x := by
  have := pos_at h0 h hx
  exact ⟨this, by unfold hit; rw [this, h]⟩
theorem hit_all {α : Type} {lt eq : α → Bool} {l : List α} (h : ∀ q ∈ l, lt q = true) : pos lt l = l.length ∧ hit lt eq l = false := by
  have := pos_all h
  exact ⟨this, by unfold hit; rw [this, List.getElem?_eq_none (Nat.le_refl _)]⟩
theorem hit_lt {α : Type} {lt eq : α → Bool} {l : List α} (h : hit lt eq l = true) : pos lt l < l.length := by
  unfold hit at h
  cases e : l[pos lt l]? with
  | none => rw [e] at h; cases h
  | some x => exact (List.getElem?_eq_some_iff.1 e).1
theorem less_irrefl : ∀ a : List UInt8, Op.bytesLess a a = false
  | [] => rfl
  | x :: r => by simp [Op.bytesLess, less_irrefl r]
theorem less_of_eq {a b : ByteArray} (h : eqN a b = true) : ltN a b = false := by
  unfold eqN at h
  unfold ltN
  rw [eq_of_beq h]
  exact less_irrefl _
def ltI (a b : Int) : Bool := decide (a < b)
def eqI (a b : Int) : Bool := decide (a = b)
abbrev posN (name : ByteArray) (l : List LS) : Nat := pos (fun x : LS => ltN x.name name) l
abbrev hitN (name : ByteArray) (l : List LS) : Bool := hit (fun x : LS => ltN x.name name) (fun x => eqN x.name name) l
abbrev posI (k : Int) (l : List HR) : Nat := pos (fun x : HR => ltI x.peer k) l
abbrev hitI (k : Int) (l : List HR) : Bool := hit (fun x : HR => ltI x.peer k) (fun x => eqI x.peer k) l
def toN (n : Nat) (h : Bool) : Int := if h = true then (n : Int) + 1 else (n : Int)
theorem toN_true (n : Nat) : toN n true = (n : Int) + 1 := rfl
theorem toN_false (n : Nat) : toN n false = (n : Int) := rfl
/-- The search, on its way. -/
structure Plc (w : World) (fb : Nat) (v key : Value) (x y : Int) (i : Int) (W : World) : Prop where
  keep : KeepI w fb v W
  key : One W w.heap.size key
  r0 : One W (w.heap.size + 1) (.int .i64 x)
  r1 : One W (w.heap.size + 1 + 1) (.int .i64 y)
  at_ : One W (w.heap.size + 1 + 1 + 1) (.int .i64 i)
theorem Plc.same {w A B : World} {fb N : Nat} {v key : Value} {x y i : Int} {C : Nat → Prop} (h : Plc w fb v key x y i A) (s : Same N C A B) (hf : fb < w.heap.size) (hN : w.heap.size + 4 ≤ N) : Plc w fb v key x y i B :=
  ⟨⟨h.keep.ptr.same s (by omega), Below.same h.keep.below s (by omega) (Nat.le_refl _)⟩, h.key.same s (by omega), h.r0.same s (by omega), h.r1.same s (by omega), h.at_.same s (by omega)⟩
theorem One.far {W : World} {c k o : Nat} {v : Value} (h : One W c v) (hk : c ≠ k) (x : Value) : One (W.setCell ⟨k, o, none⟩ x) c v := h.of_block (Below.heap_setCell _ _ _ _ hk) (by simp [World.setCell])
theorem One.drew {W : World} {c : Nat} {v : Value} (h : One W c v) : One W.drew c v := h
theorem Plc.put {w A : World} {fb : Nat} {v key : Value} {x y i : Int} (h : Plc w fb v key x y i A) (hf : fb < w.heap.size) (j : Int) : Plc w fb v key x y j (A.setCell ⟨w.heap.size + 1 + 1 + 1, 0, none⟩ (.int .i64 j)) :=
  ⟨⟨h.keep.ptr.far (by omega) _, h.keep.below.setCell (p := ⟨w.heap.size + 1 + 1 + 1, 0, none⟩) (by show w.heap.size ≤ w.heap.size + 1 + 1 + 1; omega) _⟩, h.key.far (by omega) _, h.r0.far (by omega) _, h.r1.far (by omega) _, h.at_.set _⟩
theorem Plc.out0 {w A : World} {fb : Nat} {v key : Value} {x y i : Int} (h : Plc w fb v key x y i A) (hf : fb < w.heap.size) (j : Int) : Plc w fb v key j y i (A.setCell ⟨w.heap.size + 1, 0, none⟩ (.int .i64 j)) :=
  ⟨⟨h.keep.ptr.far (by omega) _, h.keep.below.setCell (p := ⟨w.heap.size + 1, 0, none⟩) (by show w.heap.size ≤ w.heap.size + 1; omega) _⟩, h.key.far (by omega) _, h.r0.set _, h.r1.far (by omega) _, h.at_.far (by omega) _⟩
theorem Plc.out1 {w A : World} {fb : Nat} {v key : Value} {x y i : Int} (h : Plc w fb v key x y i A) (hf : fb < w.heap.size) (j : Int) : Plc w fb v key x j i (A.setCell ⟨w.heap.size + 1 + 1, 0, none⟩ (.int .i64 j)) :=
  ⟨⟨h.keep.ptr.far (by omega) _, h.keep.below.setCell (p := ⟨w.heap.size + 1 + 1, 0, none⟩) (by show w.heap.size ≤ w.heap.size + 1 + 1; omega) _⟩, h.key.far (by omega) _, h.r0.far (by omega) _, h.r1.set _, h.at_.far (by omega) _⟩
theorem Plc.drew {w A : World} {fb : Nat} {v key : Value} {x y i : Int} (h : Plc w fb v key x y i A) : Plc w fb v key x y i A.drew :=
  ⟨⟨h.keep.ptr, ⟨h.keep.below.os, h.keep.below.tape, h.keep.below.output, h.keep.below.size, h.keep.below.block⟩⟩, h.key, h.r0, h.r1, h.at_⟩
theorem wide_scope {n : Nat} {P : Program} {c : Code} {Q : Exit → Act → World → Prop} {a : Act} {w : World} (h : c.wpIn Fence.wide n P (Exit.noGoto Q) a w) : (Code.scope c).wpIn Fence.wide n P Q a w :=
  wpIn_wide.2 (wp_scope_straight (wpIn_wide.1 h))
theorem results_two {P : Program} {fn : Func} {p q : Tmp} {t u : TypeId} (h : fn.results = #[.cell p t, .cell q u]) (tmps : Array Value) (w : World) (g k : Nat) (v z : Value)
    (hp : tmps.getD p undef = .pointer (some ⟨g, 0, none⟩)) (hq : tmps.getD q undef = .pointer (some ⟨k, 0, none⟩)) (h1 : (loadVar t ⟨g, 0, none⟩).run P w = .ok v w) (h2 : (loadVar u ⟨k, 0, none⟩).run P w = .ok z w) :
    (results fn tmps).run P w = .ok (.tuple #[v, z]) w := by
  have hp' : tmps[p]?.getD undef = .pointer (some ⟨g, 0, none⟩) := by simpa using hp
  have hq' : tmps[q]?.getD undef = .pointer (some ⟨k, 0, none⟩) := by simpa using hq
  simp [results, h, hp', hq', asAddr, h1, h2]
theorem load_one {P : Program} {w : World} {g : Nat} {v : Value} (ty : TypeId) {d : TypeDesc} (hu : P.underlying ty = some d) (hd : (match d with | .struct _ | .array _ _ => true | _ => false) = false) (hc : w.cell? ⟨g, 0, none⟩ = some v) : (loadVar ty ⟨g, 0, none⟩).run P w = .ok v w := by
  have hagg : (isAgg ty).run P w = .ok false w := by
    unfold isAgg
    rw [Sem.run_bind, run_underlying hu w]
    cases d <;> first | rfl | cases hd
  simp [loadVar, Sem.run_bind, hagg, hc, go_sem]
theorem turn_sets {A B : World} {N : Nat} {C : Nat → Prop} (hs : A.heap.size ≤ B.heap.size) (hb : ∀ b, N ≤ b → b < A.heap.size → B.heap[b]? = A.heap[b]?) (hC : ∀ b, C b → N ≤ b ∧ b < A.heap.size) : Turn N C C A B :=
  ⟨hs, fun b h1 h2 _ => hb b h1 h2, fun b hb => ⟨(hC b hb).1, Nat.lt_of_lt_of_le (hC b hb).2 hs, .inl hb⟩⟩

end Go.Proofs.Ytifkkkfejbgifaa
