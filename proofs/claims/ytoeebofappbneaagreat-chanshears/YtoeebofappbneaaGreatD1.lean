/-
  Package dir: what its small functions return.
-/
import Derived.Test.YtoeebofappbneaaGreatMC
namespace Go.Proofs.YtoeebofappbneaaGreat
open Go.ChangeShapes Go.WideShapes Go.ChangeAt Go.RowKit
set_option linter.unusedVariables false
set_option linter.unusedSimpArgs false

def inB (lo x hi : Int) : Bool := decide (lo ≤ x ∧ x ≤ hi)
def nodeB (n : Int) : Bool := decide (0 ≤ n ∧ n < 16)
def chrB (c : Int) : Bool := inB 97 c 122 || inB 48 c 57 || decide (c = 95)
def nameB (s : ByteArray) : Bool := decide (1 ≤ s.size ∧ s.size ≤ 16) && s.data.toList.all (fun c => chrB (c.toNat : Int))
def kindB (k : Int) : Bool := inB 1 k 4
def scaleB (k x : Int) : Bool := inB 1 x 1048576 && (decide (k ≠ 4) || decide (x = 1))
def CH.fit (c : CH) : Bool := nameB c.nm && (inB 1 c.ep 1099511627776 && (nodeB c.mr && (kindB c.kd && scaleB c.kd c.sc)))
def ltN (a b : ByteArray) : Bool := Op.bytesLess a.toList b.toList
def eqN (a b : ByteArray) : Bool := a.toList == b.toList
/-- Is the stamp e, m newer than e', m'? -/
def nwZ (e m e' m' : Int) : Bool := if e = e' then decide (m < m') else decide (e' < e)
def CH.nw (c d : CH) : Bool := nwZ c.ep c.mr d.ep d.mr
abbrev stv (e m : Int) : Value := .agg #[.int .i64 e, .int .i64 m]
abbrev chv (n : ByteArray) (e m : Int) (a : Bool) (k s : Int) : Value := .agg #[.string n, .int .i64 e, .int .i64 m, .bool a, .int .i64 k, .int .i64 s]
abbrev rcv (n : ByteArray) (e m : Int) (a : Bool) (k s : Int) : Value := .agg #[.int .i64 e, .int .i64 m, .string n, .bool a, .int .i64 k, .int .i64 s]
abbrev fdv (n : ByteArray) (e m : Int) (a : Bool) (k s : Int) (i : Bool) : Value := .agg #[.int .i64 e, .int .i64 m, .string n, .bool a, .int .i64 k, .int .i64 s, .bool i]
theorem load_55 {W : World} {k : Nat} {a b : Value} (h : W.heap[k]? = some (.cells #[a, b] 80 (0, 0))) : (loadVar 80 ⟨k, 0, none⟩).run Tryz.prog W = .ok (.agg #[a, b]) W :=
  run_loadVar_row (P := Tryz.prog) W k 80 80 _ (0, 0) _ h Tryz.underlying80 rfl (by show _ = some 2; kernel_rfl)
theorem load_57 {W : World} {k : Nat} {a b c d e f : Value} (h : W.heap[k]? = some (.cells #[a, b, c, d, e, f] 82 (0, 0))) : (loadVar 82 ⟨k, 0, none⟩).run Tryz.prog W = .ok (.agg #[a, b, c, d, e, f]) W :=
  run_loadVar_row (P := Tryz.prog) W k 82 82 _ (0, 0) _ h Tryz.underlying82 rfl (by show _ = some 6; kernel_rfl)
theorem load_23c {W : World} {k : Nat} {a b c d e f : Value} (h : W.heap[k]? = some (.cells #[a, b, c, d, e, f] 47 (0, 0))) : (loadVar 47 ⟨k, 0, none⟩).run Tryz.prog W = .ok (.agg #[a, b, c, d, e, f]) W :=
  run_loadVar_row (P := Tryz.prog) W k 47 47 _ (0, 0) _ h Tryz.underlying47 rfl (by show _ = some 6; kernel_rfl)
theorem load_68 {W : World} {k : Nat} {a b c d e f g : Value} (h : W.heap[k]? = some (.cells #[a, b, c, d, e, f, g] 125 (0, 0))) : (loadVar 125 ⟨k, 0, none⟩).run Tryz.prog W = .ok (.agg #[a, b, c, d, e, f, g]) W :=
  run_loadVar_row (P := Tryz.prog) W k 125 125 _ (0, 0) _ h Tryz.underlying125 rfl (by show _ = some 7; kernel_rfl)
theorem set2 {W : World} {k : Nat} {a b : Value} {t : TypeId} (h : W.heap[k]? = some (.cells #[a, b] t (0, 0))) (x y : Value) : ((W.setCell ⟨k, 0, none⟩ x).setCell ⟨k, 1, none⟩ y).heap[k]? = some (.cells #[x, y] t (0, 0)) := set_row (set_row h 0 x) 1 y
theorem set6 {W : World} {k : Nat} {a b c d e f : Value} {t : TypeId} (h : W.heap[k]? = some (.cells #[a, b, c, d, e, f] t (0, 0))) (x y z u v q : Value) : ((((((W.setCell ⟨k, 0, none⟩ x).setCell ⟨k, 1, none⟩ y).setCell ⟨k, 2, none⟩ z).setCell ⟨k, 3, none⟩ u).setCell ⟨k, 4, none⟩ v).setCell ⟨k, 5, none⟩ q).heap[k]? = some (.cells #[x, y, z, u, v, q] t (0, 0)) :=
  set_row (set_row (set_row (set_row (set_row (set_row h 0 x) 1 y) 2 z) 3 u) 4 v) 5 q
set_option maxRecDepth 100000 in
set_option maxHeartbeats 4000000 in
theorem of_any (n : ByteArray) (e m : Int) (a : Bool) (k s : Int) (w : World) : Calls Tryz.prog 52 #[chv n e m a k s] w fun e' w' => e' = .returned (rcv n e m a k s) ∧ Below w.heap.size w w' := by
  go_enter Tryz.func52, Tryz.ntmps52
  go_wp2
  refine bodyPost_ret (results_row1 rfl _ _ (w.heap.size + 1) _ rfl (load_57 (heap_new (by simp)))) rfl ⟨rfl, by go_grown⟩
set_option maxRecDepth 100000 in
set_option maxHeartbeats 4000000 in
theorem plain_any (n : ByteArray) (e m : Int) (a : Bool) (k s : Int) (w : World) : Calls Tryz.prog 55 #[rcv n e m a k s] w fun e' w' => e' = .returned (chv n e m a k s) ∧ Below w.heap.size w w' := by
  go_enter Tryz.func55, Tryz.ntmps55
  go_wp2
  refine bodyPost_ret (results_row1 rfl _ _ (w.heap.size + 1) _ rfl (load_23c (heap_new (by simp)))) rfl ⟨rfl, by go_grown⟩
set_option maxRecDepth 100000 in
set_option maxHeartbeats 4000000 in
theorem snewer_any (e m e' m' : Int) (w : World) : Calls Tryz.prog 116 #[stv e m, stv e' m'] w fun r w' => r = .returned (.bool (nwZ e m e' m')) ∧ Below w.heap.size w w' := by
  by_cases c : e = e'
  · have hc : (e != e') = false := by simp [c]
    have H : Hid (nwZ e m e' m' = decide (m < m')) := by show _ = _; simp [nwZ, c]
    clear c
    go_enter Tryz.func116, Tryz.ntmps116
    go_wp2
    go_ret
    exact ⟨ret_bool H.out.symm, by go_grown⟩
  · have hc : (e != e') = true := by simp [c]
    have H : Hid (nwZ e m e' m' = decide (e' < e)) := by show _ = _; simp [nwZ, c]
    clear c
    go_enter Tryz.func116, Tryz.ntmps116
    go_wp2
    go_ret
    exact ⟨ret_bool H.out.symm, by go_grown⟩
set_option maxRecDepth 100000 in
set_option maxHeartbeats 4000000 in
theorem next_any (e m n : Int) (w : World) (h : IntKind.i64.wrap (e + 1) = e + 1) : Calls Tryz.prog 53 #[stv e m, .int .i64 n] w fun r w' => r = .returned (stv (e + 1) n) ∧ Below w.heap.size w w' := by
  go_enter Tryz.func53, Tryz.ntmps53
  go_wp2
  refine bodyPost_ret (results_row1 rfl _ _ (w.heap.size + 1) _ rfl (load_55 (heap_new (by simp)))) rfl ⟨rfl, by go_grown⟩
end Go.Proofs.YtoeebofappbneaaGreat
