/-
  Package half: Merge.
-/
import Derived.Test.YtifkkkfejbgifaaC6
import Derived.Test.YtifkkkfejbgifaaC3
namespace Go.Proofs.Ytifkkkfejbgifaa
open Go.ChangeShapes Go.WideShapes Go.ChangeAt Go.RowKit
set_option linter.unusedVariables false
set_option linter.unusedSimpArgs false

theorem results_ct {P : Program} {fn : Func} {p q : Tmp} {t : TypeId} (h : fn.results = #[.cell p t, .tmp q]) (tmps : Array Value) (w : World) (g : Nat) (v : Value)
    (hp : tmps.getD p undef = .pointer (some ⟨g, 0, none⟩)) (h1 : (loadVar t ⟨g, 0, none⟩).run P w = .ok v w) :
    (results fn tmps).run P w = .ok (.tuple #[v, tmps.getD q undef]) w := by
  have hp' : tmps[p]?.getD undef = .pointer (some ⟨g, 0, none⟩) := by simpa using hp
  simp [results, h, hp', asAddr, h1]
theorem run_store24row {W : World} {g : Nat} {cs : Array Value} (hh : W.heap[g]? = some (.cells cs 24 (0, 0))) (hc : cs.size = 6) (d : HR) : (Instr.storeAt 24 (.pointer (some ⟨g, 0, none⟩)) d.val).run Try.prog W = .ok () (W.setRow g d.cells.toArray) := by
  have h4 : d.cells.length = 6 := rfl
  have hst := run_storeCells_at Try.prog g 0 24 d.cells 0 cs W hh (by rw [h4, hc]; decide) (cells_oneH d)
  have e : (cs.toList.take (0 + 0) ++ d.cells ++ cs.toList.drop (0 + 0 + d.cells.length)).toArray = d.cells.toArray := by
    rw [h4, List.drop_of_length_le (by rw [Array.length_toList, hc]; decide)]
    simp
  rw [e] at hst
  obtain ⟨i0, hi0, hz0, hz1, hz2⟩ := info_parts info24
  have hcl : d.val.cells = d.cells.toArray := rfl
  simp [Instr.storeAt, Instr.sureAddr, storeVar, sizeOf, typeInfo, hi0, hcl, hz1, hst, h4]
section
variable {ops : Array Oper} {rest : List Oper} {o : Oper} {A : Act} {W : World} {Q : Exit → Act → World → Prop} {K : Act → World → Prop}
theorem wp_store24row (x y : Operand) (ho : o.op = .store 24 x y) {g : Nat} {cs : Array Value} (d : HR) (hh : W.heap[g]? = some (.cells cs 24 (0, 0))) (hc : cs.size = 6) (hx : A.eval x = .pointer (some ⟨g, 0, none⟩)) (hy : A.eval y = d.val)
    (h : K (A.put o.dst undef) (W.setRow g d.cells.toArray)) : o.wp Try.prog A W K Q := by
  unfold Oper.wp execOp
  simp only [ho, hx, hy, Sem.run_bind, run_store24row hh hc d, Result.andThen_ok, Sem.run_pure]
  exact h
theorem wpList_store24row (hgd : o.guard = none) (x y : Operand) (ho : o.op = .store 24 x y) {g : Nat} {cs : Array Value} (d : HR) (hh : W.heap[g]? = some (.cells cs 24 (0, 0))) (hc : cs.size = 6) (hx : A.eval x = .pointer (some ⟨g, 0, none⟩)) (hy : A.eval y = d.val)
    (h : wpList Try.prog ops Q rest (A.put o.dst undef) (W.setRow g d.cells.toArray)) : wpList Try.prog ops Q (o :: rest) A W :=
  wpList_plain hgd fun _ hK => wp_store24row x y ho d hh hc hx hy (hK _ _ h)
end
/-- What Merge comes to. -/
def HS.mgB (id : Int) (h : HS) (name : ByteArray) (v p f : Int) : Bool := fitB v p f id h.peer && newB v p (regN name h.ls).v (regN name h.ls).p
def HS.mg (id : Int) (h : HS) (name : ByteArray) (v p f : Int) : HS := if h.mgB id name v p f = true then h.wr name v p f else h
def HS.mgC (id : Int) (h : HS) (name : ByteArray) (v p f : Int) : Bool := h.mgB id name v p f && sameB (regN name (wrL name v p f h.ls)).v (regN name (wrL name v p f h.ls)).p (regN name (wrL name v p f h.ls)).f v p f

end Go.Proofs.Ytifkkkfejbgifaa
