/-
  Lists of registers; the document's Most.
-/
import Derived.Test.YtifkkkfejbgifaaC6
import Derived.ChangeSame
import Derived.OpenShut
namespace Go.Proofs.Ytifkkkfejbgifaa
open Go.ChangeShapes Go.WideShapes Go.ChangeAt Go.RowKit Go.Deep
set_option linter.unusedVariables false
set_option linter.unusedSimpArgs false

theorem cn2 : Try.prog.cellsOf 2 = 1 := by kernel_rfl
theorem cn3 : Try.prog.cellsOf 3 = 1 := by kernel_rfl
theorem cn42 : Try.prog.cellsOf 33 = 3 := by kernel_rfl
/-- A register. -/
structure RS where
  v : Int
  p : Int
  f : Int
abbrev RS.l (q : RS) : List Value := [.int .i64 q.v, .int .i64 q.p, .int .i64 q.f]
abbrev RS.r (q : RS) : Value := rg q.v q.p q.f
theorem list3 {α : Type} {l : List α} (h : l.length = 3) : ∃ v0 v1 v2, l = [v0, v1, v2] := by
  match l, h with
  | [v0, v1, v2], _ => exact ⟨v0, v1, v2, rfl⟩
theorem open_regc {H : Type} {enc : TypeId × Value → H} {W : World} {fuel : Nat} {cs : List Value} {x : DataW H × List MemPlace} (hl : cs.length = 3)
    (hf : DataW.trod enc Try.prog W 0 (fun _ => true) true fuel 33 cs = some x) : ∃ q : RS, cs = q.l := by
  obtain ⟨v0, v1, v2, rfl⟩ := list3 hl
  obtain ⟨xs, k, hk, hxy, _, hxl, hg⟩ := DataW.trod_struct Try.underlying33 hf
  match xs, hxl with
  | [y0, y1, y2], _ =>
  have e0 := hg 0 _ rfl
  have e1 := hg 1 _ rfl
  have e2 := hg 2 _ rfl
  simp [cn2, cn3] at e0 e1 e2
  obtain ⟨x0, q0, _, w0⟩ := DataW.trod_int Try.underlying2 e0
  obtain ⟨x1, q1, _, w1⟩ := DataW.trod_int Try.underlying3 e1
  obtain ⟨x2, q2, _, w2⟩ := DataW.trod_int Try.underlying2 e2
  simp at q0 q1 q2
  subst q0 q1 q2
  exact ⟨⟨x0, x1, x2⟩, rfl⟩
set_option maxRecDepth 100000 in
theorem open_reg {H : Type} {enc : TypeId × Value → H} {W : World} {r : Reach} {b : Nat} {v : Value} {d : DataW H} {ps : List MemPlace} (hv : Value.okWide Try.prog W r b 33 v) (h : DataW.Trod enc Try.prog W 0 (fun _ => true) true 33 v d ps) :
    ∃ q : RS, v = q.r := by
  simp only [Value.okWide, Try.underlying33] at hv
  obtain ⟨cs, rfl, hsz, _⟩ := hv
  rw [cn42] at hsz
  obtain ⟨fuel, hf⟩ := h
  obtain ⟨q, hcs⟩ := open_regc (x := (d, ps)) (by simpa [Value.cells] using hsz) hf
  refine ⟨q, ?_⟩
  have : cs = (cs.toList).toArray := by simp
  rw [this, show cs.toList = _ from hcs]
theorem add_plain' (g o j : Nat) : (⟨g, o, none⟩ : Addr).add j = ⟨g, o + j, none⟩ := by unfold Addr.add; split <;> simp_all
/-- The registers that a slice leads to. -/
structure Rgs (W : World) (a : Option Addr) (n : Nat) (l : List RS) : Prop where
  size : l.length = n
  max : n ≤ 9223372036854775807
  mem : n = 0 ∨ ∃ b off, a = some ⟨b, off, none⟩ ∧ b < W.heap.size ∧ ∀ j (h : j < l.length), W.rangeAt b (off + j * 3) (l[j]'h).l
def mrg (a b : RS) : RS := if newB b.v b.p a.v a.p = true then b else a
def RS.z : RS := ⟨0, 0, 0⟩
/-- What the first i + 1 of a list are merged to. -/
def mo (l : List RS) : Nat → RS
  | 0 => l.getD 0 RS.z
  | i + 1 => mrg (mo l i) (l.getD (i + 1) RS.z)
def mos (l : List RS) : List RS := (List.range l.length).map (mo l)
theorem mos_len (l : List RS) : (mos l).length = l.length := by simp [mos]
theorem mos_at {l : List RS} {i : Nat} (h : i < l.length) : (mos l)[i]? = some (mo l i) := by simp [mos, h]
theorem Rgs.at {W : World} {a : Option Addr} {n : Nat} {l : List RS} (h : Rgs W a n l) (i : Nat) (hi : i < n) : ∃ b off, a = some ⟨b, off, none⟩ ∧ b < W.heap.size ∧ W.rangeAt b (off + i * 3) (l.getD i RS.z).l := by
  rcases h.mem with h0 | ⟨b, off, rfl, hb, hr⟩
  · omega
  · refine ⟨b, off, rfl, hb, ?_⟩
    have hl : i < l.length := by rw [h.size]; exact hi
    have := hr i hl
    rw [show l.getD i RS.z = l[i]'hl by simp [List.getD, hl]]
    exact this
theorem Rgs.below {w W : World} {a : Option Addr} {n : Nat} {l : List RS} (h : Rgs w a n l) (k : Below w.heap.size w W) : Rgs W a n l := by
  refine ⟨h.size, h.max, ?_⟩
  rcases h.mem with h0 | ⟨b, off, rfl, hb, hr⟩
  · exact .inl h0
  · exact .inr ⟨b, off, rfl, Nat.lt_of_lt_of_le hb k.size, fun j hj => range_later (hr j hj) hb k⟩
section
variable {F : Fence} {n : Nat} {ops : Array Oper} {rest : List Oper} {o : Oper} {a : Act} {W : World} {Q : Exit → Act → World → Prop}
end
/-- What a list is merged to. -/
def mof (l : List RS) : RS := if l.length = 0 then RS.z else mo l (l.length - 1)
theorem exec_load42q {o : Oper} {ρ : Operand → Value} {x : Operand} (ho : o.op = .load 33 x) (g off : Nat) (q : RS) (hx : ρ x = .pointer (some ⟨g, off, none⟩)) (X : World) (hc : X.rangeAt g off q.l) : (execOp ρ o).run Try.prog X = .ok (.value q.r) X := by
  unfold execOp
  simp only [ho, hx, Instr.loadAt, Instr.sureAddr, Sem.run_bind, Sem.run_pure, Result.andThen_ok, run_loadVar_mid X g off 33 q.l _ hc Try.underlying33 rfl (by kernel_rfl)]
theorem wp_load42q {o : Oper} {A : Act} {W : World} {K : Go.Act → World → Prop} {Q : Exit → Go.Act → World → Prop} (x : Operand) (ho : o.op = .load 33 x) (g off : Nat) (q : RS) (hx : A.eval x = .pointer (some ⟨g, off, none⟩)) (hc : W.rangeAt g off q.l)
    (h : K (A.put o.dst q.r) W) : o.wp Try.prog A W K Q := by
  unfold Oper.wp
  rw [exec_load42q ho g off q hx W hc]
  exact h
theorem wpList_load42q {ops : Array Oper} {rest : List Oper} {o : Oper} {a : Act} {W : World} {Q : Exit → Act → World → Prop} (hgd : o.guard = none) (x : Operand) (ho : o.op = .load 33 x) (g off : Nat) (q : RS) (hx : a.eval x = .pointer (some ⟨g, off, none⟩)) (hc : W.rangeAt g off q.l)
    (h : wpList Try.prog ops Q rest (a.put o.dst q.r) W) : wpList Try.prog ops Q (o :: rest) a W := by
  refine wpList_plain hgd fun K hK => ?_
  refine wp_load42q x ho g off q hx hc ?_
  exact hK _ _ h
/-- What the loop of the document's Most holds. -/
structure DSt (w : World) (c2 c3 : Nat) (q : RS) (W : World) : Prop where
  below : Below w.heap.size w W
  two : Tri W c2 (.int .i64 0) (.int .i64 0) (.int .i64 0)
  three : Tri W c3 (.int .i64 q.v) (.int .i64 q.p) (.int .i64 q.f)
end Go.Proofs.Ytifkkkfejbgifaa
