/-
  Package half: what makes a half-edge fit; lines.
-/
import Derived.Test.YtifkkkfejbgifaaC6
namespace Go.Proofs.Ytifkkkfejbgifaa
open Go.ChangeShapes Go.WideShapes Go.ChangeAt Go.RowKit Go.Maps Go.Shelf
set_option linter.unusedVariables false
set_option linter.unusedSimpArgs false
attribute [local go_sem] Oper.semAt_some

theorem less_total : ∀ a b : List UInt8, (Op.bytesLess a b || a == b) = !Op.bytesLess b a
  | [], [] => rfl
  | [], b :: y => rfl
  | a :: x, [] => rfl
  | a :: x, b :: y => by
    have ih := less_total x y
    simp only [Op.bytesLess, List.cons_beq_cons]
    rcases Nat.lt_trichotomy a.toNat b.toNat with h | h | h
    · have h1 : a < b := UInt8.lt_iff_toNat_lt.2 h
      have h2 : ¬ b < a := fun k => by have := UInt8.lt_iff_toNat_lt.1 k; omega
      have h3 : (b == a) = false := by simp; intro e; subst e; omega
      simp [h1, h2, h3]
    · have e : a = b := UInt8.toNat_inj.1 h
      subst e
      have h2 : ¬ a < a := fun k => by have := UInt8.lt_iff_toNat_lt.1 k; omega
      simp only [h2, decide_false, Bool.false_or, beq_self_eq_true, Bool.true_and]
      exact ih
    · have h1 : ¬ a < b := fun k => by have := UInt8.lt_iff_toNat_lt.1 k; omega
      have h2 : b < a := UInt8.lt_iff_toNat_lt.2 h
      have h3 : (a == b) = false := by simp; intro e; subst e; omega
      simp [h1, h2, h3]
theorem le_not (a b : ByteArray) : (Op.bytesLess a.toList b.toList || a.toList == b.toList) = !ltN b a := less_total _ _
theorem lt_nil (s : ByteArray) (h : nameB s = true) : ltN ⟨#[]⟩ s = true := by
  have h1 : 1 ≤ s.size := by simp [nameB] at h; omega
  unfold ltN
  have e : s.toList.length = s.size := by rw [ByteArray.toList_eq]; simp
  cases hs : s.toList with
  | nil => rw [hs] at e; simp at e; omega
  | cons x r =>
    have e0 : (⟨#[]⟩ : ByteArray).toList = [] := by rw [ByteArray.toList_eq]
    rw [e0]
    rfl
def ok1 (id peer : Int) (x : LS) : Bool := nameB x.name && (!zeroB x.v x.p x.f && fitB x.v x.p x.f id peer)
def prevN (ls : List LS) (i : Nat) : ByteArray := if i = 0 then ⟨#[]⟩ else (ls.getD (i - 1) LS.z).name
def okAt (id peer : Int) (ls : List LS) (i : Nat) : Bool := ltN (prevN ls i) (ls.getD i LS.z).name && ok1 id peer (ls.getD i LS.z)
def linesB (id peer : Int) (ls : List LS) : Bool := (List.range ls.length).all (okAt id peer ls)
theorem lines_no {id peer : Int} {ls : List LS} {i : Nat} (hi : i < ls.length) (h : okAt id peer ls i = false) : linesB id peer ls = false := by
  unfold linesB
  rw [List.all_eq_false]
  exact ⟨i, List.mem_range.2 hi, by rw [h]; decide⟩
theorem lines_yes {id peer : Int} {ls : List LS} (h : ∀ j, j < ls.length → okAt id peer ls j = true) : linesB id peer ls = true := by
  unfold linesB
  rw [List.all_eq_true]
  exact fun j hj => h j (List.mem_range.1 hj)
theorem lines_at {id peer : Int} {ls : List LS} (h : linesB id peer ls = true) (j : Nat) (hj : j < ls.length) : okAt id peer ls j = true := by
  unfold linesB at h
  rw [List.all_eq_true] at h
  exact h j (List.mem_range.2 hj)
theorem prevN_succ (ls : List LS) (i : Nat) : prevN ls (i + 1) = (ls.getD i LS.z).name := by unfold prevN; rw [if_neg (by omega)]; rfl
def HS.fit (id : Int) (h : HS) : Bool := nodeB id && (nodeB h.peer && (!eqI h.peer id && (inB 1 h.boot 1099511627776 && (inB 0 h.life 1099511627776 && (missB h.pend h.miss && (decide (h.ls.length ≤ 8) && linesB id h.peer h.ls))))))
section
variable {ops : Array Oper} {rest : List Oper} {o : Oper} {A : Act} {W : World} {Q : Exit → Act → World → Prop} {F : Fence} {n : Nat}
theorem wpListIn_eql42 (hw : Region.wanted o (yielded ops A.tmps) = true) {x y : Operand} (ho : o.op = .binOp .eql 33 x y 33) (a0 a1 a2 b0 b1 b2 : Int) (hx : A.eval x = rg a0 a1 a2) (hy : A.eval y = rg b0 b1 b2)
    (h : wpListIn F n Try.prog ops Q rest (A.put o.dst (.bool (sameB a0 a1 a2 b0 b1 b2))) W) : wpListIn F n Try.prog ops Q (o :: rest) A W := by
  refine wpListIn_step fun K hK => ?_
  rw [if_pos hw]
  unfold Oper.wpIn
  refine ⟨?_, ?_⟩
  · simp [Oper.about, ho]
  · rw [Oper.semAt_plain F _ _ (by rw [ho]; intro c hc'; cases hc')]
    rw [exec_eql42 ho a0 a1 a2 b0 b1 b2 hx hy]
    exact hK _ _ h
theorem wpList_eql42 (hw : Region.wanted o (yielded ops A.tmps) = true) {x y : Operand} (ho : o.op = .binOp .eql 33 x y 33) (a0 a1 a2 b0 b1 b2 : Int) (hx : A.eval x = rg a0 a1 a2) (hy : A.eval y = rg b0 b1 b2)
    (h : wpList Try.prog ops Q rest (A.put o.dst (.bool (sameB a0 a1 a2 b0 b1 b2))) W) : wpList Try.prog ops Q (o :: rest) A W := by
  unfold wpList
  rw [if_pos hw]
  left
  unfold Oper.wp
  rw [exec_eql42 ho a0 a1 a2 b0 b1 b2 hx hy]
  exact h
end
/-- The look at the lines, on its way. -/
structure Lns (w : World) (fb : Nat) (v : Value) (id : Int) (cs : Array Value) (r : Bool) (last : ByteArray) (W : World) : Prop where
  keep : KeepI w fb v W
  id_ : One W w.heap.size (.int .i64 id)
  box : W.heap[w.heap.size + 1]? = some (.cells cs 24 (0, 0))
  res : One W (w.heap.size + 1 + 1) (.bool r)
  last_ : One W (w.heap.size + 1 + 1 + 1) (.string last)
theorem Lns.same {w A B : World} {fb N : Nat} {v : Value} {id : Int} {cs : Array Value} {r : Bool} {last : ByteArray} {C : Nat → Prop} (h : Lns w fb v id cs r last A) (s : Same N C A B) (hf : fb < N) (hN : w.heap.size + 4 ≤ N) : Lns w fb v id cs r last B :=
  ⟨⟨h.keep.ptr.same s hf, Below.same h.keep.below s (by omega) (Nat.le_refl _)⟩, h.id_.same s (by omega), (s.block _ (row_lt h.box) (.inl (by omega))).trans h.box, h.res.same s (by omega), h.last_.same s (by omega)⟩
theorem Lns.put {w A : World} {fb : Nat} {v : Value} {id : Int} {cs : Array Value} {r : Bool} {last : ByteArray} (h : Lns w fb v id cs r last A) (hf : fb ≠ w.heap.size + 3) (l : ByteArray) : Lns w fb v id cs r l (A.setCell ⟨w.heap.size + 1 + 1 + 1, 0, none⟩ (.string l)) :=
  ⟨⟨h.keep.ptr.far (by omega) _, h.keep.below.setCell (p := ⟨w.heap.size + 1 + 1 + 1, 0, none⟩) (by show w.heap.size ≤ w.heap.size + 1 + 1 + 1; omega) _⟩, h.id_.far (by omega) _, set_far h.box (by omega) _ _, h.res.far (by omega) _, h.last_.set _⟩
theorem Lns.out {w A : World} {fb : Nat} {v : Value} {id : Int} {cs : Array Value} {r : Bool} {last : ByteArray} (h : Lns w fb v id cs r last A) (hf : fb ≠ w.heap.size + 2) (x : Bool) : Lns w fb v id cs x last (A.setCell ⟨w.heap.size + 1 + 1, 0, none⟩ (.bool x)) :=
  ⟨⟨h.keep.ptr.far (by omega) _, h.keep.below.setCell (p := ⟨w.heap.size + 1 + 1, 0, none⟩) (by show w.heap.size ≤ w.heap.size + 1 + 1; omega) _⟩, h.id_.far (by omega) _, set_far h.box (by omega) _ _, h.res.set _, h.last_.far (by omega) _⟩
theorem Lns.later {w A B : World} {fb : Nat} {v : Value} {id : Int} {cs : Array Value} {r : Bool} {last : ByteArray} (h : Lns w fb v id cs r last A) (s : Below A.heap.size A B) : Lns w fb v id cs r last B :=
  ⟨⟨h.keep.ptr.below s, h.keep.below.trans (s.mono h.keep.below.size)⟩, h.id_.below s, (s.block _ (row_lt h.box)).trans h.box, h.res.below s, h.last_.below s⟩

end Go.Proofs.Ytifkkkfejbgifaa
