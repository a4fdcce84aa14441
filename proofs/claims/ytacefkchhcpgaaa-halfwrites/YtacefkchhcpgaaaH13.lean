/-
  What the law HalfKeeps returns, where something is not fit.
-/
import Derived.Test.YtacefkchhcpgaaaH12
import Derived.Test.YtacefkchhcpgaaaH7
namespace Go.Proofs.Ytacefkchhcpgaaa
open Go.ChangeShapes Go.WideShapes Go.ChangeAt Go.RowKit
set_option linter.unusedVariables false
set_option linter.unusedSimpArgs false

section
variable {ops : Array Oper} {rest : List Oper} {o : Oper} {A : Act} {W : World} {Q : Exit → Act → World → Prop}
theorem wpList_load24g (hw : Region.wanted o (yielded ops A.tmps) = true) {x : Operand} (ho : o.op = .load 24 x) (g : Nat) (d : HR) (hx : A.eval x = .pointer (some ⟨g, 0, none⟩)) (hc : W.heap[g]? = some (.cells d.cells.toArray 24 (0, 0)))
    (h : wpList Try.prog ops Q rest (A.put o.dst d.val) W) : wpList Try.prog ops Q (o :: rest) A W := by
  unfold wpList
  rw [if_pos hw]
  left
  unfold Oper.wp
  rw [exec_load24 ho g 0 d hx (range_rowH hc)]
  exact h
end
theorem fit_lines {id : Int} {x : HS} (h : x.fit id = true) : x.ls.length ≤ 8 := by
  unfold HS.fit at h
  simp only [Bool.and_eq_true] at h
  exact of_decide_eq_true h.2.2.2.2.2.2.1
theorem fits_lines {id : Int} {hs : List HS} (h : fitsB id hs = true) : ∀ j, j < hs.length → (hs.getD j HS.z).ls.length * 40 ≤ 140737488355328 := fun j hj => by
  have := fit_lines (fits_each h j hj)
  omega
theorem put_hs {id : Int} {x : HS} {hs : List HS} {base cap : Nat} {W : World} {es : List HR} {a : Option Addr} (h : fitsB id hs = true) (hx : x.fit id = true) (E : Ech base W es (putH x hs)) (L : LstH W a (putH x hs).length cap es) : Hs W a (putH x hs).length cap (putH x hs) :=
  (E.hs L L.size (by have := fits_few (put_fits h hx); omega) (fits_lines (put_fits h hx))).2
set_option maxRecDepth 100000 in
set_option maxHeartbeats 8000000 in
theorem keeps_unfit (id : Int) (h : HS) (a : Option Addr) (c1 : Nat) (A : Option Addr) (c : Nat) (hs : List HS) (w : World) (R0 : RdO w h a c1) (P0 : Hs w A hs.length c hs) (hno : fitsB id hs = false ∨ h.fit id = false) : Calls Try.prog 7 #[.int .i64 id, .slice A hs.length c, (h.on a c1).val] w fun e w' => e = .returned (.bool true) ∧ Below w.heap.size w w' := by
  have BW : Below w.heap.size w (w.alloc (.cells #[.int .i64 h.peer, .int .i64 h.boot, .int .i64 h.life, .slice a h.ls.length c1, .bool h.pend, .int .i64 h.miss] 24)) := (Below.refl _ _).alloc (Nat.le_refl _) _
  have T : (w.alloc (.cells #[.int .i64 h.peer, .int .i64 h.boot, .int .i64 h.life, .slice a h.ls.length c1, .bool h.pend, .int .i64 h.miss] 24)).heap[w.heap.size]? = some (.cells (h.on a c1).cells.toArray 24 (0, 0)) := heap_new rfl
  have R : RdO (w.alloc (.cells #[.int .i64 h.peer, .int .i64 h.boot, .int .i64 h.life, .slice a h.ls.length c1, .bool h.pend, .int .i64 h.miss] 24)) h a c1 := RdL.below R0 BW
  have P := P0.below BW
  have K11 := rfits_any id A c hs (w.alloc (.cells #[.int .i64 h.peer, .int .i64 h.boot, .int .i64 h.life, .slice a h.ls.length c1, .bool h.pend, .int .i64 h.miss] 24)) P
  have K9 := fun W (b : Below (w.alloc (.cells #[.int .i64 h.peer, .int .i64 h.boot, .int .i64 h.life, .slice a h.ls.length c1, .bool h.pend, .int .i64 h.miss] 24)).heap.size (w.alloc (.cells #[.int .i64 h.peer, .int .i64 h.boot, .int .i64 h.life, .slice a h.ls.length c1, .bool h.pend, .int .i64 h.miss] 24)) W) => dfit_any id h a c1 W (RdL.below R b)
  cases hf : fitsB id hs with
  | false =>
    rw [hf] at K11
    clear hno hf R0 P0 K9
    rw [show (h.on a c1).val = .agg #[.int .i64 h.peer, .int .i64 h.boot, .int .i64 h.life, .slice a h.ls.length c1, .bool h.pend, .int .i64 h.miss] from rfl]
    go_enter Try.func7, Try.ntmps7
    go_wp2_with (first
      | (go_at_call 11; refine K11.mono ?_; rintro e w1 ⟨rfl, B1⟩; clear K11)
      | (go_at_call 15; refine (awake_any _).mono ?_; rintro e w2 ⟨rfl, b2⟩))
    go_ret
    exact ⟨rfl, (BW.trans (B1.mono BW.size)).trans (b2.mono (by have := BW.size; have := B1.size; omega))⟩
  | true =>
    have hx : h.fit id = false := hno.resolve_left (by rw [hf]; decide)
    rw [hf] at K11
    simp only [hx] at K9
    clear hno hf R0 P0 hx
    rw [show (h.on a c1).val = .agg #[.int .i64 h.peer, .int .i64 h.boot, .int .i64 h.life, .slice a h.ls.length c1, .bool h.pend, .int .i64 h.miss] from rfl]
    go_enter Try.func7, Try.ntmps7
    go_wp2_with (first
      | (go_at_call 11; refine K11.mono ?_; rintro e w1 ⟨rfl, B1⟩; clear K11; have TT := (B1.block _ (row_lt T)).trans T)
      | ((with_reducible show wpList _ _ _ (Oper.mk _ (Op.load 24 (Operand.tmp 5)) _ _ _ _ :: _) _ _); refine wpList_load24g (by rfl) rfl w.heap.size (h.on a c1) rfl TT ?_)
      | (go_at_call 9; refine (K9 _ B1).mono ?_; rintro e w2 ⟨rfl, b2⟩; clear K9)
      | (go_at_call 15; refine (awake_any _).mono ?_; rintro e w3 ⟨rfl, b3⟩))
    go_ret
    exact ⟨rfl, ((BW.trans (B1.mono BW.size)).trans (b2.mono (by have := BW.size; have := B1.size; omega))).trans (b3.mono (by have := BW.size; have := B1.size; have := b2.size; omega))⟩
end Go.Proofs.Ytacefkchhcpgaaa
