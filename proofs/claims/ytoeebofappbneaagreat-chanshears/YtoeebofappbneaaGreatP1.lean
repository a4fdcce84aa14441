/-
  Package dir: names compared; which of two lists goes on; what becomes of a record that is told.
-/
import Derived.Test.YtoeebofappbneaaGreatD5
namespace Go.Proofs.YtoeebofappbneaaGreat
open Go.ChangeShapes Go.WideShapes Go.ChangeAt Go.RowKit
set_option linter.unusedVariables false
set_option linter.unusedSimpArgs false

def fv (o : FO) : Value := match o with
  | none => .agg zF
  | some c => fdv c.nm c.ep c.mr c.al c.kd c.sc true
def fcs (o : FO) : Array Value := match o with
  | none => zF
  | some c => #[.int .i64 c.ep, .int .i64 c.mr, .string c.nm, .bool c.al, .int .i64 c.kd, .int .i64 c.sc, .bool true]
theorem fv_fcs (o : FO) : fv o = .agg (fcs o) := by cases o <;> rfl
theorem fcs_size (o : FO) : (fcs o).size = 7 := by cases o <;> rfl
theorem fcs_one (o : FO) : ∀ u ∈ (fcs o).toList, u.oneCell' = true := by cases o <;> simp [fcs, Value.oneCell']
def cmpN (a b : ByteArray) : Int := if ltN a b = true then -1 else if ltN b a = true then 1 else 0
def ordZ (a b : FO) : Int := match b with
  | none => -1
  | some b => match a with
    | none => 1
    | some a => cmpN a.nm b.nm
theorem nan_any (s : ByteArray) (w : World) : Calls Tryz.prog 87 #[.string s] w fun e w' => e = .returned (.bool false) ∧ w' = w := by
  have h : (s.toList == s.toList) = true := by simp
  go_enter Tryz.func87, Tryz.ntmps87
  go_wp2
  go_ret
  exact ⟨rfl, rfl⟩
set_option maxRecDepth 100000 in
set_option maxHeartbeats 4000000 in
theorem cmp_any (a b : ByteArray) (w : World) : Calls Tryz.prog 58 #[.string a, .string b] w fun e w' => e = .returned (.int .i64 (cmpN a b)) ∧ w' = w := by
  have K1 := fun w => nan_any a w
  have K2 := fun w => nan_any b w
  have HC : Hid (cmpN a b = if ltN a b = true then -1 else if ltN b a = true then 1 else 0) := rfl
  have e1 : ltN a b = Op.bytesLess a.toList b.toList := rfl
  have e2 : ltN b a = Op.bytesLess b.toList a.toList := rfl
  rcases three a b with ⟨h1, h2, h3⟩ | ⟨h1, h2, h3⟩ | ⟨h1, h2, h3⟩
  · have HV : Hid (cmpN a b = -1) := by show _ = _; rw [HC.out, if_pos h1]
    rw [e1] at h1
    rw [e2] at h2
    clear HC e1 e2 h3
    go_enter Tryz.func58, Tryz.ntmps58
    go_wp2_with (go_at_call 87; first | (refine (K1 _).mono ?_; rintro e w1 ⟨rfl, rfl⟩) | (refine (K2 _).mono ?_; rintro e w1 ⟨rfl, rfl⟩))
    go_ret
    exact ⟨ret_i64 HV.out.symm, rfl⟩
  · have HV : Hid (cmpN a b = 1) := by show _ = _; rw [HC.out, if_neg (by rw [h2]; decide), if_pos h1]
    rw [e2] at h1
    rw [e1] at h2
    have hq : (a.toList == b.toList) = false := nm_bne h3
    clear HC e1 e2 h3
    go_enter Tryz.func58, Tryz.ntmps58
    go_wp2_with (go_at_call 87; first | (refine (K1 _).mono ?_; rintro e w1 ⟨rfl, rfl⟩) | (refine (K2 _).mono ?_; rintro e w1 ⟨rfl, rfl⟩))
    go_ret
    exact ⟨ret_i64 HV.out.symm, rfl⟩
  · have HV : Hid (cmpN a b = 0) := by show _ = _; rw [HC.out, if_neg (by rw [h2]; decide), if_neg (by rw [h3]; decide)]
    rw [e1] at h2
    rw [e2] at h3
    have hq : (a.toList == b.toList) = true := nm_beq.2 h1
    clear HC e1 e2 h1
    go_enter Tryz.func58, Tryz.ntmps58
    go_wp2_with (go_at_call 87; first | (refine (K1 _).mono ?_; rintro e w1 ⟨rfl, rfl⟩) | (refine (K2 _).mono ?_; rintro e w1 ⟨rfl, rfl⟩))
    go_ret
    exact ⟨ret_i64 HV.out.symm, rfl⟩
section
variable {ops : Array Oper} {rest : List Oper} {o : Oper} {A : Act} {w W : World} {l : List Blk} {Q : Exit → Act → World → Prop} {K : Act → World → Prop} {t : TypeId} {z : Array Value}
/-- A part of a record. -/
theorem exec_loadp {ρ : Operand → Value} {x : Operand} (ho : o.op = .load t x) (R : RT t z) {k off : Nat} {c : Array Value} {T : TypeId} (sub : List Value) (hx : ρ x = .pointer (some ⟨k, off, none⟩)) (hc : W.heap[k]? = some (.cells c T (0, 0))) (hs : (c.toList.drop off).take z.size = sub) (hl : sub.length = z.size) : (execOp ρ o).run Tryz.prog W = .ok (.value (.agg sub.toArray)) W := by
  obtain ⟨d, hu, hd⟩ := R.row
  have hr : W.rangeAt k off sub := fun j v hv => by
    refine row_cell hc _ v ?_
    rw [← hs, List.getElem?_take] at hv
    split at hv
    · rw [List.getElem?_drop] at hv
      simpa using hv
    · cases hv
  have := run_loadVar_mid (P := Tryz.prog) W k off t sub d hr hu hd (by rw [hl]; exact R.size)
  simp only [execOp, ho, hx, Instr.loadAt, Instr.sureAddr, Sem.run_bind, Sem.run_pure, Result.andThen_ok, this]
theorem wpList_loadp {N : Nat} {C : Nat → Prop} (M : MemG N C w W l) (hgd : Region.wanted o (yielded ops A.tmps) = true) (x : Operand) (ho : o.op = .load t x) (R : RT t z) {k off : Nat} {c : Array Value} {T : TypeId} (sub : List Value) (hx : A.eval x = .pointer (some ⟨k, off, none⟩)) (hk : (k, c, T) ∈ l) (hs : (c.toList.drop off).take z.size = sub) (hl : sub.length = z.size)
    (H : wpList Tryz.prog ops Q rest (A.put o.dst (.agg sub.toArray)) W) : wpList Tryz.prog ops Q (o :: rest) A W := by
  unfold wpList
  rw [if_pos hgd]
  left
  unfold Oper.wp
  rw [exec_loadp ho R sub hx (M.get hk) hs hl]
  exact H
end
set_option maxRecDepth 100000 in
set_option maxHeartbeats 4000000 in
theorem order_any (x y : FO) (w : World) : Calls Tryz.prog 115 #[fv x, fv y] w fun e w' => e = .returned (.int .i64 (ordZ x y)) ∧ Below w.heap.size w w' := by
  have M := Mem.nil w
  cases y with
  | none =>
    rw [fv_fcs x]
    unfold ordZ
    dsimp only [fv]
    generalize fcs x = cx
    go_enter Tryz.func115, Tryz.ntmps115
    go_wp2_with (first
      | ((with_reducible show wpList _ _ _ (Oper.mk (some 2) (Op.box 125 _) _ _ _ _ :: _) _ _); refine wpList_box M rfl _ rfl _ rfl ?_; clear M; intro k2 W M)
      | ((with_reducible show wpList _ _ _ (Oper.mk (some 3) (Op.box 125 _) _ _ _ _ :: _) _ _); refine wpList_box M rfl _ rfl _ rfl ?_; clear M; intro k3 W M)
      | ((with_reducible show wpList _ _ _ (Oper.mk _ (Op.load 4 _) _ _ _ _ :: _) _ _); refine wpList_cell4 M (by rfl) _ rfl _ rfl (by first | exact .head _ | exact .tail _ (.head _)) rfl ?_))
    go_ret
    exact ⟨rfl, M.below⟩
  | some b =>
    cases x with
    | none =>
      unfold ordZ
      dsimp only [fv]
      go_enter Tryz.func115, Tryz.ntmps115
      go_wp2_with (first
      | ((with_reducible show wpList _ _ _ (Oper.mk (some 2) (Op.box 125 _) _ _ _ _ :: _) _ _); refine wpList_box M rfl _ rfl _ rfl ?_; clear M; intro k2 W M)
      | ((with_reducible show wpList _ _ _ (Oper.mk (some 3) (Op.box 125 _) _ _ _ _ :: _) _ _); refine wpList_box M rfl _ rfl _ rfl ?_; clear M; intro k3 W M)
      | ((with_reducible show wpList _ _ _ (Oper.mk _ (Op.load 4 _) _ _ _ _ :: _) _ _); refine wpList_cell4 M (by rfl) _ rfl _ rfl (by first | exact .head _ | exact .tail _ (.head _)) rfl ?_))
      go_ret
      exact ⟨rfl, M.below⟩
    | some a =>
      obtain ⟨nm, ep, mr, al, kd, sc⟩ := a
      obtain ⟨nm', ep', mr', al', kd', sc'⟩ := b
      unfold ordZ
      dsimp only [fv]
      have K := fun w => cmp_any nm nm' w
      go_enter Tryz.func115, Tryz.ntmps115
      go_wp2_with (first
      | ((with_reducible show wpList _ _ _ (Oper.mk (some 2) (Op.box 125 _) _ _ _ _ :: _) _ _); refine wpList_box M rfl _ rfl _ rfl ?_; clear M; intro k2 W M)
      | ((with_reducible show wpList _ _ _ (Oper.mk (some 3) (Op.box 125 _) _ _ _ _ :: _) _ _); refine wpList_box M rfl _ rfl _ rfl ?_; clear M; intro k3 W M)
      | ((with_reducible show wpList _ _ _ (Oper.mk _ (Op.load 4 _) _ _ _ _ :: _) _ _); refine wpList_cell4 M (by rfl) _ rfl _ rfl (by first | exact .head _ | exact .tail _ (.head _)) rfl ?_)
      | ((with_reducible show wpList _ _ _ (Oper.mk _ (Op.load 9 _) _ _ _ _ :: _) _ _); refine wpList_cell9 M (by rfl) _ rfl _ rfl (by first | exact .head _ | exact .tail _ (.head _)) rfl ?_)
      | (go_at_call 58; refine (K _).mono ?_; rintro e w1 ⟨rfl, rfl⟩))
      go_ret
      exact ⟨rfl, M.below⟩
set_option maxRecDepth 100000 in
set_option maxHeartbeats 4000000 in
theorem verdict_any (x : FO) (c : CH) (r : Int) (w : World) : Calls Tryz.prog 106 #[fv x, fv (some c), .int .i64 r] w fun e w' => e = .returned (.int .i64 (vd x (some c) r)) ∧ Below w.heap.size w w' := by
  have M := Mem.nil w
  obtain ⟨nm', ep', mr', al', kd', sc'⟩ := c
  cases x with
  | none =>
    unfold vd
    dsimp only [fv]
    by_cases h : 0 < r
    · rw [if_pos h]
      go_enter Tryz.func106, Tryz.ntmps106
      go_wp2_with (first
      | ((with_reducible show wpList _ _ _ (Oper.mk (some 3) (Op.box 125 _) _ _ _ _ :: _) _ _); refine wpList_box M rfl _ rfl _ rfl ?_; clear M; intro k3 W M)
      | ((with_reducible show wpList _ _ _ (Oper.mk (some 4) (Op.box 125 _) _ _ _ _ :: _) _ _); refine wpList_box M rfl _ rfl _ rfl ?_; clear M; intro k4 W M)
      | ((with_reducible show wpList _ _ _ (Oper.mk _ (Op.load 4 _) _ _ _ _ :: _) _ _); refine wpList_cell4 M (by rfl) _ rfl _ rfl (by first | exact .head _ | exact .tail _ (.head _)) rfl ?_))
      go_ret
      exact ⟨rfl, M.below⟩
    · rw [if_neg h]
      go_enter Tryz.func106, Tryz.ntmps106
      go_wp2_with (first
      | ((with_reducible show wpList _ _ _ (Oper.mk (some 3) (Op.box 125 _) _ _ _ _ :: _) _ _); refine wpList_box M rfl _ rfl _ rfl ?_; clear M; intro k3 W M)
      | ((with_reducible show wpList _ _ _ (Oper.mk (some 4) (Op.box 125 _) _ _ _ _ :: _) _ _); refine wpList_box M rfl _ rfl _ rfl ?_; clear M; intro k4 W M)
      | ((with_reducible show wpList _ _ _ (Oper.mk _ (Op.load 4 _) _ _ _ _ :: _) _ _); refine wpList_cell4 M (by rfl) _ rfl _ rfl (by first | exact .head _ | exact .tail _ (.head _)) rfl ?_))
      go_ret
      exact ⟨rfl, M.below⟩
  | some a =>
    obtain ⟨nm, ep, mr, al, kd, sc⟩ := a
    have K1 := fun w => snewer_any ep' mr' ep mr w
    have K2 := fun w => snewer_any ep mr ep' mr' w
    unfold vd CH.nw
    dsimp only [fv]
    cases h1 : nwZ ep' mr' ep mr with
    | true =>
      rw [h1] at K1
      rw [if_pos rfl]
      clear h1 K2
      go_enter Tryz.func106, Tryz.ntmps106
      go_wp2_with (first
      | ((with_reducible show wpList _ _ _ (Oper.mk (some 3) (Op.box 125 _) _ _ _ _ :: _) _ _); refine wpList_box M rfl _ rfl _ rfl ?_; clear M; intro k3 W M)
      | ((with_reducible show wpList _ _ _ (Oper.mk (some 4) (Op.box 125 _) _ _ _ _ :: _) _ _); refine wpList_box M rfl _ rfl _ rfl ?_; clear M; intro k4 W M)
      | ((with_reducible show wpList _ _ _ (Oper.mk _ (Op.load 4 _) _ _ _ _ :: _) _ _); refine wpList_cell4 M (by rfl) _ rfl _ rfl (by first | exact .head _ | exact .tail _ (.head _)) rfl ?_)
      | ((with_reducible show wpList _ _ _ (Oper.mk _ (Op.load 80 _) _ _ _ _ :: _) _ _); (first | (refine wpList_loadp M (by rfl) _ rfl rt55 [.int .i64 ep, .int .i64 mr] rfl (.tail _ (.head _)) (by rfl) (by rfl) ?_) | (refine wpList_loadp M (by rfl) _ rfl rt55 [.int .i64 ep', .int .i64 mr'] rfl (.head _) (by rfl) (by rfl) ?_)))
      | (go_at_call 116; refine (K1 _).mono ?_; clear K1; rintro e w1 ⟨rfl, b1⟩; replace M := M.later b1; clear b1))
      go_ret
      exact ⟨rfl, M.below⟩
    | false =>
      rw [h1] at K1
      rw [if_neg (by decide)]
      clear h1
      cases h2 : nwZ ep mr ep' mr' with
      | true =>
        rw [h2] at K2
        rw [if_pos rfl]
        clear h2
        go_enter Tryz.func106, Tryz.ntmps106
        go_wp2_with (first
      | ((with_reducible show wpList _ _ _ (Oper.mk (some 3) (Op.box 125 _) _ _ _ _ :: _) _ _); refine wpList_box M rfl _ rfl _ rfl ?_; clear M; intro k3 W M)
      | ((with_reducible show wpList _ _ _ (Oper.mk (some 4) (Op.box 125 _) _ _ _ _ :: _) _ _); refine wpList_box M rfl _ rfl _ rfl ?_; clear M; intro k4 W M)
      | ((with_reducible show wpList _ _ _ (Oper.mk _ (Op.load 4 _) _ _ _ _ :: _) _ _); refine wpList_cell4 M (by rfl) _ rfl _ rfl (by first | exact .head _ | exact .tail _ (.head _)) rfl ?_)
      | ((with_reducible show wpList _ _ _ (Oper.mk _ (Op.load 80 _) _ _ _ _ :: _) _ _); (first | (refine wpList_loadp M (by rfl) _ rfl rt55 [.int .i64 ep, .int .i64 mr] rfl (.tail _ (.head _)) (by rfl) (by rfl) ?_) | (refine wpList_loadp M (by rfl) _ rfl rt55 [.int .i64 ep', .int .i64 mr'] rfl (.head _) (by rfl) (by rfl) ?_)))
      | (go_at_call 116; refine (K1 _).mono ?_; clear K1; rintro e w1 ⟨rfl, b1⟩; replace M := M.later b1; clear b1)
      | (go_at_call 116; refine (K2 _).mono ?_; clear K2; rintro e w1 ⟨rfl, b1⟩; replace M := M.later b1; clear b1))
        go_ret
        exact ⟨rfl, M.below⟩
      | false =>
        rw [h2] at K2
        rw [if_neg (by decide)]
        clear h2
        go_enter Tryz.func106, Tryz.ntmps106
        go_wp2_with (first
      | ((with_reducible show wpList _ _ _ (Oper.mk (some 3) (Op.box 125 _) _ _ _ _ :: _) _ _); refine wpList_box M rfl _ rfl _ rfl ?_; clear M; intro k3 W M)
      | ((with_reducible show wpList _ _ _ (Oper.mk (some 4) (Op.box 125 _) _ _ _ _ :: _) _ _); refine wpList_box M rfl _ rfl _ rfl ?_; clear M; intro k4 W M)
      | ((with_reducible show wpList _ _ _ (Oper.mk _ (Op.load 4 _) _ _ _ _ :: _) _ _); refine wpList_cell4 M (by rfl) _ rfl _ rfl (by first | exact .head _ | exact .tail _ (.head _)) rfl ?_)
      | ((with_reducible show wpList _ _ _ (Oper.mk _ (Op.load 80 _) _ _ _ _ :: _) _ _); (first | (refine wpList_loadp M (by rfl) _ rfl rt55 [.int .i64 ep, .int .i64 mr] rfl (.tail _ (.head _)) (by rfl) (by rfl) ?_) | (refine wpList_loadp M (by rfl) _ rfl rt55 [.int .i64 ep', .int .i64 mr'] rfl (.head _) (by rfl) (by rfl) ?_)))
      | (go_at_call 116; refine (K1 _).mono ?_; clear K1; rintro e w1 ⟨rfl, b1⟩; replace M := M.later b1; clear b1)
      | (go_at_call 116; refine (K2 _).mono ?_; clear K2; rintro e w1 ⟨rfl, b1⟩; replace M := M.later b1; clear b1))
        go_ret
        exact ⟨rfl, M.below⟩
end Go.Proofs.YtoeebofappbneaaGreat
