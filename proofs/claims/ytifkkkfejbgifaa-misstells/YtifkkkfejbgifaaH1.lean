/-
  Lists of half-edges: what they hold; two half-edges compared.
-/
import Derived.Test.YtifkkkfejbgifaaC5
import Derived.Laws.StructEq
import Derived.Test.YtifkkkfejbgifaaC3
namespace Go.Proofs.Ytifkkkfejbgifaa
open Go.ChangeShapes Go.WideShapes Go.ChangeAt Go.RowKit
set_option linter.unusedVariables false
set_option linter.unusedSimpArgs false

/-- Half-edges that may be read: their cells lie in a row, their lines where these say. -/
structure Hs (W : World) (A : Option Addr) (n cap : Nat) (hs : List HS) : Prop where
  size : hs.length = n
  mem : ∃ rs : List HR, RdH W A n cap rs ∧ ∀ i, i < n → ∃ a c, rs.getD i HR.z = (hs.getD i ⟨0, 0, 0, [], false, 0⟩).on a c ∧ RdO W (hs.getD i ⟨0, 0, 0, [], false, 0⟩) a c
abbrev HS.z : HS := ⟨0, 0, 0, [], false, 0⟩
theorem Hs.below {W W' : World} {A : Option Addr} {n cap : Nat} {hs : List HS} (h : Hs W A n cap hs) (b : Below W.heap.size W W') : Hs W' A n cap hs := by
  obtain ⟨rs, R, k⟩ := h.mem
  refine ⟨h.size, rs, R.below b, fun i hi => ?_⟩
  obtain ⟨a, c, e, r⟩ := k i hi
  exact ⟨a, c, e, RdL.below r b⟩
theorem Hs.at {W : World} {A : Option Addr} {n cap : Nat} {hs : List HS} (h : Hs W A n cap hs) (i : Nat) (hi : i < n) : ∃ g off a c, A = some ⟨g, off, none⟩ ∧ g < W.heap.size ∧ W.rangeAt g (off + i * 6) ((hs.getD i HS.z).on a c).cells ∧ RdO W (hs.getD i HS.z) a c := by
  obtain ⟨rs, R, k⟩ := h.mem
  obtain ⟨g, off, e, hg, hd, hr⟩ := R.at i hi
  obtain ⟨a, c, e2, r⟩ := k i hi
  rw [e2] at hr
  exact ⟨g, off, a, c, e, hg, hr, r⟩
theorem Hs.small {W : World} {A : Option Addr} {n cap : Nat} {hs : List HS} (h : Hs W A n cap hs) : n * 64 ≤ 140737488355328 := by
  obtain ⟨rs, R, k⟩ := h.mem
  exact R.max
/-- Lines alike. -/
def eqL (a b : LS) : Bool := eqN a.name b.name && sameB a.v a.p a.f b.v b.p b.f
def eqLs (a b : List LS) : Bool := decide (a.length = b.length) && (List.range a.length).all (fun i => eqL (a.getD i LS.z) (b.getD i LS.z))
def HS.eq1 (a b : HS) : Bool := decide (a.peer = b.peer) && (decide (a.boot = b.boot) && (decide (a.life = b.life) && (decide (a.pend = b.pend) && (decide (a.miss = b.miss) && eqLs a.ls b.ls))))
theorem eqLs_no {a b : List LS} {i : Nat} (hi : i < a.length) (h : eqL (a.getD i LS.z) (b.getD i LS.z) = false) : eqLs a b = false := by
  unfold eqLs
  rw [List.all_eq_false.2 ⟨i, List.mem_range.2 hi, by rw [h]; decide⟩, Bool.and_false]
theorem eqLs_yes {a b : List LS} (hl : a.length = b.length) (h : ∀ j, j < a.length → eqL (a.getD j LS.z) (b.getD j LS.z) = true) : eqLs a b = true := by
  unfold eqLs
  rw [decide_eq_true hl, List.all_eq_true.2 fun j hj => h j (List.mem_range.1 hj)]
  rfl
theorem eq44 (w : World) (d : Nat) (a0 : ByteArray) (a1 a2 a3 : Int) (b0 : ByteArray) (b1 b2 b3 : Int) :
    (Op.equalIn (d + 3) 35 (.agg #[.string a0, .int .i64 a1, .int .i64 a2, .int .i64 a3]) (.agg #[.string b0, .int .i64 b1, .int .i64 b2, .int .i64 b3])).run Try.prog w = .ok ((a0.toList == b0.toList) && (((a1 == b1) && ((a2 == b2) && ((a3 == b3) && true))) && true)) w := by
  have hS : Try.prog.underlying 35 = some (.struct (Try.prog.fieldsOf 35)) := by kernel_rfl
  have hp : Try.prog.stoodInHeld 35 = false := by kernel_rfl
  rw [run_equalIn_agg w (d + 2) 35 _ _ hS hp]
  simp only [Program.fieldsOf, Try.underlying35]
  refine eqFields_cons (a := .string a0) (b := .string b0) (r := (a0.toList == b0.toList)) (by decide) (by go_simp) (by go_simp) (by go_simp) ?_
  refine eqFields_cons (a := rg a1 a2 a3) (b := rg b1 b2 b3) (r := (a1 == b1) && ((a2 == b2) && ((a3 == b3) && true))) (by decide) (by go_simp) (by go_simp) (eq42 w d a1 a2 a3 b1 b2 b3) ?_
  exact eqFields_nil
theorem eqB (a0 : ByteArray) (a1 a2 a3 : Int) (b0 : ByteArray) (b1 b2 b3 : Int) : ((a0.toList == b0.toList) && (((a1 == b1) && ((a2 == b2) && ((a3 == b3) && true))) && true)) = eqL ⟨a0, a1, a2, a3⟩ ⟨b0, b1, b2, b3⟩ := by
  unfold eqL eqN sameB
  simp [Bool.decide_and]
  grind
theorem neq44 (w : World) (a0 : ByteArray) (a1 a2 a3 : Int) (b0 : ByteArray) (b1 b2 b3 : Int) : (binOp .neq 35 (.agg #[.string a0, .int .i64 a1, .int .i64 a2, .int .i64 a3]) (.agg #[.string b0, .int .i64 b1, .int .i64 b2, .int .i64 b3])).run Try.prog w = .ok (.bool (!eqL ⟨a0, a1, a2, a3⟩ ⟨b0, b1, b2, b3⟩)) w := by
  rw [run_neq_struct, show (10000 : Nat) = 9997 + 3 from rfl, eq44, eqB]
  simp
theorem exec_neq44 {o : Oper} {ρ : Operand → Value} {x y : Operand} (ho : o.op = .binOp .neq 35 x y 35) (a0 : ByteArray) (a1 a2 a3 : Int) (b0 : ByteArray) (b1 b2 b3 : Int) (hx : ρ x = .agg #[.string a0, .int .i64 a1, .int .i64 a2, .int .i64 a3]) (hy : ρ y = .agg #[.string b0, .int .i64 b1, .int .i64 b2, .int .i64 b3]) (X : World) : (execOp ρ o).run Try.prog X = .ok (.value (.bool (!eqL ⟨a0, a1, a2, a3⟩ ⟨b0, b1, b2, b3⟩))) X := by
  have hm : Try.prog.eqGuardType Try.prog.depth 35 = false := by kernel_rfl
  unfold execOp
  simp only [ho, hx, hy, Sem.run_bind, run_eqGuard_agg _ _ _ _ _ _ _ hm, neq44, Result.andThen_ok, Sem.run_pure]
end Go.Proofs.Ytifkkkfejbgifaa
