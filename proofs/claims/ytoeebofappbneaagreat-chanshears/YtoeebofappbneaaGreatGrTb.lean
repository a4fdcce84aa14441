/-
  Package chans: the document's list of states begun.
-/
import Derived.Test.YtoeebofappbneaaGreatGrTa
import Derived.Lib.AppendZerosOnto
import Derived.Test.YtoeebofappbneaaGreatQ4
namespace Go.Proofs.YtoeebofappbneaaGreat
open Go.ChangeShapes Go.WideShapes Go.ChangeAt Go.RowKit
set_option linter.unusedVariables false
set_option linter.unusedSimpArgs false

/-- append(own, list...). -/
theorem run_grow_lstT {W : World} {base k : Nat} {v : Value} {es : List ST} {a : Option Addr} {n c : Nat} {ds : List ST} (ty : TypeId) (hown : W.ownsRow base 49 16 v k (csT es)) (L : RdT W a n c ds) (hn : ((k + n) + (k + n) / 4 + 192) * 136 ≤ 281474976710656) (hb : base ≤ W.heap.size) :
    ∃ v' w', (Builtin.append_ #[22, 22] ty #[v, .slice a n c]).run Tryz.prog W = .ok v' w' ∧ w'.ownsRow base 49 16 v' (k + n) (csT (es ++ ds)) ∧ W.grownBy w' v.ownBlock ∧ Below base W w' := by
  obtain ⟨i0, hi, hz0, hz1, hz2⟩ := info_parts info35
  rcases L.mem with ⟨rfl, rfl, rfl⟩ | ⟨rfl, x, rfl⟩ | ⟨g, off, rfl, hg, hr⟩
  · have e := List.eq_nil_of_length_eq_zero L.size
    subst e
    rw [List.append_nil, Nat.add_zero]
    exact ⟨v, W, run_append_owned_none (P := Tryz.prog) (w := W) base 22 ty 49 i0 16 Tryz.underlying22 hi v k (csT es) hown, hown, World.grownBy.refl _ _, Below.refl _ _⟩
  · have e := List.eq_nil_of_length_eq_zero L.size
    subst e
    exact run_more_lstT ty hown rfl (fun j u hu => by cases hu) hn hb
  · exact run_more_lstT ty hown L.size (fun j u hu => by rw [add_plain]; exact hr j u hu) hn hb
/-- The first ones of a list. -/
theorem RdT.to {W : World} {a : Option Addr} {n cap : Nat} {ds : List ST} (L : RdT W a n cap ds) (k : Nat) (hk : k ≤ n) : RdT W a k cap (ds.take k) := by
  have hs := L.size
  have hm := L.max
  refine ⟨by rw [List.length_take]; omega, by have := L.le; omega, by omega, ?_⟩
  rcases L.mem with ⟨rfl, rfl, rfl⟩ | ⟨rfl, x, rfl⟩ | ⟨g, off, rfl, hg, hr⟩
  · exact .inl ⟨rfl, by omega, rfl⟩
  · exact .inr (.inl ⟨by omega, x, rfl⟩)
  · refine .inr (.inr ⟨g, off, rfl, hg, fun j u hu => ?_⟩)
    rw [csT_take, List.getElem?_take] at hu
    split at hu
    · exact hr j u hu
    · cases hu
/-- Those from a place on. -/
theorem RdT.from {W : World} {a : Option Addr} {n cap : Nat} {ds : List ST} (L : RdT W a n cap ds) (k : Nat) (hk : k ≤ n) : RdT W (if cap = k then a else a.map (·.add (k * 16))) (n - k) (cap - k) (ds.drop k) := by
  have hs := L.size
  have hm := L.max
  have hc := L.le
  refine ⟨by rw [List.length_drop]; omega, by omega, by omega, ?_⟩
  rcases L.mem with ⟨rfl, rfl, rfl⟩ | ⟨rfl, x, rfl⟩ | ⟨g, off, rfl, hg, hr⟩
  · exact .inl ⟨by simp, by omega, by omega⟩
  · refine .inr (.inl ⟨by omega, ?_⟩)
    split
    · exact ⟨x, rfl⟩
    · exact ⟨_, rfl⟩
  · by_cases e : cap = k
    · rw [if_pos e]
      exact .inr (.inl ⟨by omega, _, rfl⟩)
    · rw [if_neg e]
      refine .inr (.inr ⟨g, off + k * 16, by rw [Option.map_some, add_plain], hg, fun j u hu => ?_⟩)
      rw [csT_drop, List.getElem?_drop] at hu
      have := hr _ u hu
      rw [show off + k * 16 + j = off + (16 * k + j) by omega]
      exact this
section
variable {ops : Array Oper} {rest : List Oper} {o : Oper} {A : Act} {W : World} {Q : Exit → Act → World → Prop} {K : Act → World → Prop}
theorem wp_grow_lstT (s x : Operand) (ho : o.op = .call { callee := .builtin .append, args := #[s, x], argTypes := #[22, 22] }) {base k : Nat} {v : Value} {es : List ST} {a : Option Addr} {n c : Nat} {ds : List ST}
    (hs : A.eval s = v) (hx : A.eval x = .slice a n c) (hown : W.ownsRow base 49 16 v k (csT es)) (L : RdT W a n c ds) (hn : ((k + n) + (k + n) / 4 + 192) * 136 ≤ 281474976710656) (hb : base ≤ W.heap.size)
    (h : ∀ v' w', w'.ownsRow base 49 16 v' (k + n) (csT (es ++ ds)) → W.grownBy w' v.ownBlock → Below base W w' → K (A.put o.dst v') w') : o.wp Tryz.prog A W K Q := by
  obtain ⟨v', w', hrun, r1, r2, r3⟩ := run_grow_lstT o.type hown L hn hb
  unfold Oper.wp
  simp [execOp, ho, resolve, invoke, builtin, hs, hx, hrun, Result.andThen]
  exact h v' w' r1 r2 r3
theorem wpList_grow_lstT (hgd : o.guard = none) (s x : Operand) (ho : o.op = .call { callee := .builtin .append, args := #[s, x], argTypes := #[22, 22] }) {base k : Nat} {v : Value} {es : List ST} {a : Option Addr} {n c : Nat} {ds : List ST}
    (hs : A.eval s = v) (hx : A.eval x = .slice a n c) (hown : W.ownsRow base 49 16 v k (csT es)) (L : RdT W a n c ds) (hn : ((k + n) + (k + n) / 4 + 192) * 136 ≤ 281474976710656) (hb : base ≤ W.heap.size)
    (h : ∀ v' w', w'.ownsRow base 49 16 v' (k + n) (csT (es ++ ds)) → W.grownBy w' v.ownBlock → Below base W w' → wpList Tryz.prog ops Q rest (A.put o.dst v') w') : wpList Tryz.prog ops Q (o :: rest) A W :=
  wpList_plain hgd fun _ hK => wp_grow_lstT s x ho hs hx hown L hn hb fun v' w' h1 h2 h3 => hK _ _ (h v' w' h1 h2 h3)
theorem exec_toT {ρ : Operand → Value} {x y : Operand} (ho : o.op = .slice 22 x none (some y) none) {a : Option Addr} {n cap k : Nat} (hx : ρ x = .slice a n cap) (hy : ρ y = .int .i64 (k : Int)) (hk : k ≤ cap) : (execOp ρ o).run Tryz.prog W = .ok (.value (.slice a k cap)) W := by
  have hz : (sizeOf (Tryz.prog.elem 22)).run Tryz.prog W = .ok 16 W := by kernel_rfl
  have hu : Tryz.prog.underlying 22 = some (.slice (Tryz.prog.elem 22)) := by kernel_rfl
  have h0 : (if cap = 0 then a else a.map (·.add (0 * 16))) = a := by
    split
    · rfl
    · cases a with
      | none => rfl
      | some x => obtain ⟨b, o, s⟩ := x; cases s <;> simp [Addr.add]
  simp only [execOp, ho, hx, hy, Option.map_none, Option.map_some, Sem.run_bind, run_sliceAt_slice _ _ _ _ _ _ hu, run_slice_h W 22 a n cap hu .i64 (k : Int) (by omega) (by omega), hz, Result.andThen_ok, sliced, Int.toNat_natCast, Nat.sub_zero, h0]
  rfl
theorem exec_fromT {ρ : Operand → Value} {x y : Operand} (ho : o.op = .slice 22 x (some y) none none) {a : Option Addr} {n cap k : Nat} (hx : ρ x = .slice a n cap) (hy : ρ y = .int .i64 (k : Int)) (hk : k ≤ n) : (execOp ρ o).run Tryz.prog W = .ok (.value (.slice (if cap = k then a else a.map (·.add (k * 16))) (n - k) (cap - k))) W := by
  have hz : (sizeOf (Tryz.prog.elem 22)).run Tryz.prog W = .ok 16 W := by kernel_rfl
  have hu : Tryz.prog.underlying 22 = some (.slice (Tryz.prog.elem 22)) := by kernel_rfl
  simp only [execOp, ho, hx, hy, Option.map_none, Option.map_some, Sem.run_bind, run_sliceAt_slice _ _ _ _ _ _ hu, run_slice_l W 22 a n cap hu .i64 (k : Int) (by omega) (by omega), hz, Result.andThen_ok, sliced, Int.toNat_natCast]
  rfl
theorem wpList_toT (hgd : o.guard = none) (x y : Operand) (ho : o.op = .slice 22 x none (some y) none) {a : Option Addr} {n cap k : Nat} (hx : A.eval x = .slice a n cap) (hy : A.eval y = .int .i64 (k : Int)) (hk : k ≤ cap)
    (h : wpList Tryz.prog ops Q rest (A.put o.dst (.slice a k cap)) W) : wpList Tryz.prog ops Q (o :: rest) A W := by
  refine wpList_plain hgd fun K hK => ?_
  unfold Oper.wp
  rw [exec_toT ho hx hy hk]
  exact hK _ _ h
theorem wpList_fromT (hgd : o.guard = none) (x y : Operand) (ho : o.op = .slice 22 x (some y) none none) {a : Option Addr} {n cap k : Nat} (hx : A.eval x = .slice a n cap) (hy : A.eval y = .int .i64 (k : Int)) {ds : List ST} (L : RdT W a n cap ds) (hk : k ≤ n)
    (h : ∀ a', RdT W a' (n - k) (cap - k) (ds.drop k) → wpList Tryz.prog ops Q rest (A.put o.dst (.slice a' (n - k) (cap - k))) W) : wpList Tryz.prog ops Q (o :: rest) A W := by
  refine wpList_plain hgd fun K hK => ?_
  unfold Oper.wp
  rw [exec_fromT ho hx hy hk]
  exact hK _ _ (h _ (L.from k hk))
end


section
variable {ops : Array Oper} {rest : List Oper} {o : Oper} {A : Act} {W : World} {Q : Exit → Act → World → Prop}
/-- append(nil, make([]Seen, k)...). -/
theorem wpList_zeros0 (hgd : o.guard = none) (s x : Operand) (ho : o.op = .call { callee := .builtin .append, args := #[s, x], argTypes := #[22, 3] }) (k : Nat) (h0 : 0 < k) (hk : k ≤ 65536)
    (hs : A.eval s = .slice none 0 0) (hx : A.eval x = .int .i64 (k : Int))
    (h : ∀ cap' w', k ≤ cap' → w'.ownsRow W.heap.size 49 16 (.slice (some ⟨W.heap.size, 0, none⟩) 0 cap') 0 [] → Below W.heap.size W w' → wpList Tryz.prog ops Q rest (A.put o.dst (.slice (some ⟨W.heap.size, 0, none⟩) k cap')) w') : wpList Tryz.prog ops Q (o :: rest) A W := by
  obtain ⟨i0, hi0, hz0, hz1, hz2⟩ := info_parts info35
  have hold : (Builtin.firstCells i0.size 0 (.slice none 0 0)).run Tryz.prog W.drew = .ok ([] : List Value).toArray W.drew := by simp [Builtin.firstCells]
  have hrun := Lib.run_append_grow_zeros (P := Tryz.prog) W 22 3 o.type 49 i0 _ .i64 .i64 Tryz.underlying22 Tryz.underlying3 hi0 hz0 none 0 0 [] hold k h0 (by rw [hz1]; omega) (by omega) (by omega) (by rw [hz2]; omega) (by rw [hz2]; exact growslice_fits (by omega) (by omega))
  have hge := grownCap_ge W (0 + k) 0 49
  have hcm := grownCap_le_maxLen W (0 + k) 0 49 (by unfold maxLen; omega)
  refine wpList_plain hgd fun K hK => ?_
  unfold Oper.wp
  rw [Nat.zero_add] at hrun hge hcm
  simp [execOp, ho, resolve, invoke, builtin, hs, hx, hrun, Result.andThen]
  refine hK _ _ (h _ _ hge ⟨rfl, .inr ⟨W.heap.size, _, _, rfl, Nat.le_refl _, heap_alloc_new W.drew _, Nat.zero_le _, hcm, ?_, ?_⟩⟩ ⟨rfl, rfl, rfl, by simp, fun q hq => heap_old (w := W.drew) hq rfl⟩)
  · rw [Array.size_append, size_zeroCells, size_zeroCells, show (ST.val ST.z).cells.size = 16 from rfl]
    omega
  · simp
end
set_option maxRecDepth 100000 in
set_option maxHeartbeats 4000000 in
theorem sgrow_any (k : Nat) (w : World) (h0 : 0 < k) (hk : k ≤ 65536) : Calls Tryz.prog 88 #[.slice none 0 0, .int .i64 (k : Int)] w fun e w' => ∃ cap', e = .returned (.slice (some ⟨w.heap.size, 0, none⟩) 0 cap') ∧ w'.ownsRow w.heap.size 49 16 (.slice (some ⟨w.heap.size, 0, none⟩) 0 cap') 0 [] ∧ Below w.heap.size w w' := by
  have hkI : (0 : Int) < (k : Int) := by omega
  have hkN : ¬ (k : Int) < 0 := by omega
  have hkd : decide (0 < k) = true := decide_eq_true h0
  have hw : IntKind.i64.wrap (k : Int) = (k : Int) := by rw [IntKind.wrap_i64]; omega
  have H0 : Hid (0 < k) := h0
  clear h0
  go_enter Tryz.func88, Tryz.ntmps88
  go_wp2_with ((with_reducible show wpList _ _ _ (Oper.mk _ (Op.call { callee := Callee.builtin Builtin.append, args := _, argTypes := #[22, 3] }) _ _ _ _ :: _) _ _); go_must (refine wpList_zeros0 rfl _ _ rfl k H0.out hk rfl rfl ?_; intro c1 w1 hc1 O1 b1))
  go_ret
  exact ⟨c1, rfl, O1, b1⟩


set_option maxRecDepth 100000 in
set_option maxHeartbeats 8000000 in
theorem concat_any (a1 : Option Addr) (n1 c1 : Nat) (l1 : List ST) (g : Nat) (s : ST) (a3 : Option Addr) (n3 c3 : Nat) (l3 : List ST) (q : Nat) (w : World) (R1 : RdT w a1 n1 c1 l1) (R2 : RdT w (some ⟨g, 0, none⟩) 1 1 [s]) (R3 : RdT w a3 n3 c3 l3)
    (T : w.heap[q]? = some (.cells #[.slice a1 n1 c1, .slice (some ⟨g, 0, none⟩) 1 1, .slice a3 n3 c3] 22 (0, 0))) (hn : n1 + 1 + n3 ≤ 65536) :
    Calls Tryz.prog 59 #[.slice (some ⟨q, 0, none⟩) 3 3] w fun e w' => ∃ v, e = .returned v ∧ w'.ownsRow w.heap.size 49 16 v (n1 + 1 + n3) (csT (l1 ++ [s] ++ l3)) ∧ Below w.heap.size w w' := by
  have t0 : w.cell? ⟨q, 0, none⟩ = some (.slice a1 n1 c1) := row_cell T 0 _ rfl
  have t1 : w.cell? ⟨q, 1, none⟩ = some (.slice (some ⟨g, 0, none⟩) 1 1) := row_cell T 1 _ rfl
  have t2 : w.cell? ⟨q, 2, none⟩ = some (.slice a3 n3 c3) := row_cell T 2 _ rfl
  have KC : ∀ W, Below w.heap.size w W → W.cell? ⟨q, 0, none⟩ = some (.slice a1 n1 c1) ∧ W.cell? ⟨q, 1, none⟩ = some (.slice (some ⟨g, 0, none⟩) 1 1) ∧ W.cell? ⟨q, 2, none⟩ = some (.slice a3 n3 c3) := fun W h =>
    have T' := (h.block q (row_lt T)).trans T
    ⟨row_cell T' 0 _ rfl, row_cell T' 1 _ rfl, row_cell T' 2 _ rfl⟩
  have HN : Hid (n1 + 1 + n3 ≤ 65536) := hn
  have hw1 : IntKind.i64.wrap (n1 : Int) = (n1 : Int) := by rw [IntKind.wrap_i64]; omega
  have hw2 : IntKind.i64.wrap ((n1 : Int) + 1) = (n1 : Int) + 1 := by rw [IntKind.wrap_i64]; omega
  have hw3 : IntKind.i64.wrap ((n1 : Int) + 1 + (n3 : Int)) = (n1 : Int) + 1 + (n3 : Int) := by rw [IntKind.wrap_i64]; omega
  have hp1 : ¬ (n1 : Int) < 0 := by omega
  have hp2 : ¬ (n1 : Int) + 1 < 0 := by omega
  have hp3 : ¬ (n1 : Int) + 1 + (n3 : Int) < 0 := by omega
  have KG := sgrow_any (n1 + 1 + n3) w (by omega) hn
  rw [show ((n1 + 1 + n3 : Nat) : Int) = (n1 : Int) + 1 + (n3 : Int) by omega] at KG
  clear hn T
  go_enter Tryz.func59, Tryz.ntmps59
  go_wp2
  refine wp_loop_rounds 4 ?_
  rw [rounds_succ]
  go_wp2
  rw [rounds_succ]
  go_wp2
  rw [rounds_succ]
  go_wp2
  rw [rounds_succ]
  clear t0 t1 t2
  go_wp2_with (go_at_call 88; refine KG.mono ?_; rintro e w1 ⟨cg, rfl, O1, b1⟩; have ⟨t10, t11, t12⟩ := KC _ b1)
  have ⟨t10, t11, t12⟩ := KC _ b1
  refine wp_loop_rounds 4 ?_
  rw [rounds_succ]
  go_wp2_with ((with_reducible show wpList _ _ _ (Oper.mk _ (Op.call { callee := Callee.builtin Builtin.append, args := _, argTypes := #[22, 22] }) _ _ _ _ :: _) _ _); go_must (refine wpList_grow_lstT rfl _ _ rfl (base := w.heap.size) (k := 0) (es := []) rfl rfl O1 (R1.below b1) (by have := HN.out; omega) b1.size ?_; intro v2 w2 O2 g2 b2))
  have B2 := b1.trans b2
  have ⟨t20, t21, t22⟩ := KC _ B2
  clear t10 t11 t12
  rw [rounds_succ]
  go_wp2_with ((with_reducible show wpList _ _ _ (Oper.mk _ (Op.call { callee := Callee.builtin Builtin.append, args := _, argTypes := #[22, 22] }) _ _ _ _ :: _) _ _); go_must (refine wpList_grow_lstT rfl _ _ rfl (base := w.heap.size) rfl rfl O2 (R2.below B2) (by have := HN.out; omega) B2.size ?_; intro v3 w3 O3 g3 b3))
  have B3 := B2.trans b3
  have ⟨t30, t31, t32⟩ := KC _ B3
  clear t20 t21 t22
  rw [rounds_succ]
  go_wp2_with ((with_reducible show wpList _ _ _ (Oper.mk _ (Op.call { callee := Callee.builtin Builtin.append, args := _, argTypes := #[22, 22] }) _ _ _ _ :: _) _ _); go_must (refine wpList_grow_lstT rfl _ _ rfl (base := w.heap.size) rfl rfl O3 (R3.below B3) (by have := HN.out; omega) B3.size ?_; intro v4 w4 O4 g4 b4))
  have B4 := B3.trans b4
  rw [rounds_succ]
  go_wp2
  go_ret
  refine ⟨v4, rfl, ?_, B4⟩
  rw [Nat.zero_add] at O4
  simpa using O4
end Go.Proofs.YtoeebofappbneaaGreat

namespace Go.Proofs.YtoeebofappbneaaGreat
open Go.ChangeShapes Go.WideShapes Go.ChangeAt Go.RowKit Go.Maps Go.Shelf
set_option linter.unusedVariables false
set_option linter.unusedSimpArgs false

abbrev nmA (l : List ST) (i : Nat) : ByteArray := (l.getD i ST.z).c.nm
theorem getT_at {l : List ST} {i : Nat} (h : i < l.length) : l.getD i ST.z = l[i] := by rw [List.getD_eq_getElem?_getD, List.getElem?_eq_getElem h]; rfl
theorem rise_at {l : List ST} (hl : Rise (recs l)) {a b : Nat} (hab : a < b) (hb : b < l.length) : ltN (nmA l a) (nmA l b) = true := by
  have h1 : b < (recs l).length := by rw [recs_len]; exact hb
  have := List.pairwise_iff_getElem.1 hl a b (by omega) h1 hab
  unfold nmA
  rw [getT_at hb, getT_at (show a < l.length by omega)]
  simpa [recs] using this
/-- p is where a name stands, or belongs. -/
def Srt (name : ByteArray) (l : List ST) (p : Nat) : Prop := p ≤ l.length ∧ (∀ k, k < p → ltN (nmA l k) name = true) ∧ (∀ k, p ≤ k → k < l.length → ltN (nmA l k) name = false)
def hitB (name : ByteArray) (l : List ST) (p : Nat) : Bool := decide (p < l.length) && eqN (nmA l p) name
theorem anw_cut {c : CH} : ∀ {l : List ST} {p : Nat}, Srt c.nm l p → anw l c = l.take p ++ [begs c] ++ l.drop (if hitB c.nm l p = true then p + 1 else p)
  | [], p, h => by
    have : p = 0 := by have := h.1; simpa using this
    subst this
    rfl
  | s :: t, 0, h => by
    have h0 : ltN s.c.nm c.nm = false := h.2.2 0 (Nat.le_refl _) (by simp)
    rw [anw, if_neg (by rw [h0]; decide)]
    have hh : hitB c.nm (s :: t) 0 = eqN s.c.nm c.nm := by unfold hitB; simp; rfl
    rw [hh]
    rcases three s.c.nm c.nm with ⟨h1, h2, h3⟩ | ⟨h1, h2, h3⟩ | ⟨h1, h2, h3⟩
    · rw [h0] at h1; cases h1
    · rw [if_pos h1, if_neg (fun e => h3 (eqN_iff.1 e))]; rfl
    · rw [if_neg (by rw [h3]; decide), if_pos (eqN_iff.2 h1)]; rfl
  | s :: t, p + 1, h => by
    have h0 : ltN s.c.nm c.nm = true := h.2.1 0 (by omega)
    rw [anw, if_pos h0]
    have ht : Srt c.nm t p := ⟨by have := h.1; simp at this; omega, fun k hk => h.2.1 (k + 1) (by omega), fun k hk hl => h.2.2 (k + 1) (by omega) (by simp; omega)⟩
    rw [anw_cut ht]
    have hh : hitB c.nm (s :: t) (p + 1) = hitB c.nm t p := by unfold hitB; simp; rfl
    rw [hh]
    cases hitB c.nm t p <;> rfl
set_option maxRecDepth 100000 in
set_option maxHeartbeats 4000000 in
theorem cmpS_any (nm : ByteArray) (ep mr : Int) (al : Bool) (kd sc : Int) (hv : Bool) (iv : Int) (h1 : Bool) (v1 o1 g1 : Int) (h2 : Bool) (v2 o2 g2 : Int) (name : ByteArray) (w : World) : Calls Tryz.prog 57 #[ste nm ep mr al kd sc hv iv h1 v1 o1 g1 h2 v2 o2 g2, .string name] w fun e w' => e = .returned (.int .i64 (cmpN nm name)) ∧ Below w.heap.size w w' := by
  have M := Mem.nil w
  have KC := fun W => cmp_any nm name W
  obtain ⟨R, hR⟩ : ∃ R, cmpN nm name = R := ⟨_, rfl⟩
  rw [hR] at KC ⊢
  clear hR
  go_enter Tryz.func57, Tryz.ntmps57
  go_wp2_with (first
      | ((with_reducible show wpList _ _ _ (Oper.mk (some 2) (Op.box 49 _) _ _ _ _ :: _) _ _); refine wpList_box M rfl _ rfl _ rfl ?_; clear M; intro k2 W M)
      | ((with_reducible show wpList _ _ _ (Oper.mk _ (Op.load 9 _) _ _ _ _ :: _) _ _); refine wpList_cell9 M (by rfl) _ rfl _ rfl (by first | exact .head _) rfl ?_)
      | (go_at_call 58; refine (KC _).mono ?_; clear KC; rintro e W2 ⟨rfl, rfl⟩))
  go_ret
  exact ⟨rfl, M.below⟩
theorem cmpN_lt (a b : ByteArray) (h : ltN a b = true) : cmpN a b = -1 := by unfold cmpN; rw [if_pos h]
theorem cmpN_eq (a b : ByteArray) (h : a = b) : cmpN a b = 0 := by unfold cmpN; subst h; rw [if_neg (by rw [lt_irr]; decide), if_neg (by rw [lt_irr]; decide)]
theorem cmpN_gt (a b : ByteArray) (h : ltN a b = false) (hn : a ≠ b) : cmpN a b = 1 := by
  unfold cmpN
  rw [if_neg (by rw [h]; decide)]
  rcases three a b with ⟨h1, h2, h3⟩ | ⟨h1, h2, h3⟩ | ⟨h1, h2, h3⟩
  · rw [h] at h1; cases h1
  · rw [if_pos h1]
  · exact absurd h1 hn
set_option maxRecDepth 100000 in
set_option maxHeartbeats 4000000 in
theorem bsearch_any (a : Option Addr) (n cap : Nat) (l : List ST) (name : ByteArray) (w : World) (hr : RdT w a n cap l) (hl : Rise (recs l)) : Calls Tryz.prog 56 #[.slice a n cap, .string name, .func (.func 57) #[] #[]] w fun e w' => ∃ p : Nat, e = .returned (.tuple #[.int .i64 (p : Int), .bool (hitB name l p)]) ∧ Srt name l p ∧ Below w.heap.size w w' := by
  have HN : Hid (n ≤ 140737488355328) := hr.small
  have HL : Hid (l.length = n) := hr.size
  have HR : Hid (Rise (recs l)) := hl
  clear hl
  go_enter Tryz.func56, Tryz.ntmps56
  go_wp2
  go_loopg [9, 10, 11] n (fun gk v9 v10 v11 wr => ∃ i j : Nat, v9 = .int .i64 (i : Int) ∧ v10 = .int .i64 (j : Int) ∧ i + gk = j ∧ Hid (j ≤ n) ∧ Below w.heap.size w wr ∧ Hid (∀ k, k < i → ltN (nmA l k) name = true) ∧ Hid (∀ k, j ≤ k → k < n → ltN (nmA l k) name = false))
  case atStart => exact ⟨0, n, by first | rfl | go_num, rfl, by omega, Nat.le_refl _, Below.refl _ _, fun k hk => by omega, fun k h1 h2 => by omega⟩
  case round =>
    obtain ⟨i, j, rfl, rfl, hgk, HJ, B, HA, HB⟩ := hrel
    by_cases hi : i < j
    case pos =>
      have hiI : (i : Int) < (j : Int) := by omega
      have hjn : j ≤ n := HJ.out
      obtain ⟨h, hh⟩ : ∃ h : Nat, h = (i + j) / 2 := ⟨_, rfl⟩
      have HI : Hid (i ≤ h ∧ h < j ∧ h < n) := by show _ ∧ _; omega
      have hw1 : IntKind.i64.wrap ((i : Int) + (j : Int)) = (i : Int) + (j : Int) := by rw [IntKind.wrap_i64]; have := HN.out; omega
      obtain ⟨b, off, rfl, hb1, hd, hra⟩ := hr.at h HI.out.2.2
      obtain ⟨⟨⟨nm, ep, mr, al, kd, sc⟩, hv, iv, ⟨h1, v1, o1, g1⟩, ⟨h2, v2, o2, g2⟩⟩, hri⟩ : ∃ r, l.getD h ST.z = r := ⟨_, rfl⟩
      rw [hri] at hra
      have KR : ∀ X, Below w.heap.size w X → X.rangeAt b (off + h * 16) (ST.cells ⟨⟨nm, ep, mr, al, kd, sc⟩, hv, iv, ⟨h1, v1, o1, g1⟩, ⟨h2, v2, o2, g2⟩⟩) := fun X h => range_later hra hb1 h
      have HX : Hid (nmA l h = nm) := by show _ = _; unfold nmA; rw [hri]
      have KM := fun W => cmpS_any nm ep mr al kd sc hv iv h1 v1 o1 g1 h2 v2 o2 g2 name W
      clear hri hra hd
      have hw2 : wrap64 (IntKind.u64.wrap ((i : Int) + (j : Int)) / 2) = (h : Int) := by
        have e : IntKind.u64.wrap ((i : Int) + (j : Int)) = (i : Int) + (j : Int) := by rw [IntKind.wrap_u64]; have := HN.out; omega
        rw [e]
        unfold wrap64
        have := HN.out
        omega
      have hhn : (h : Int) < (n : Int) := by have := HI.out; omega
      have hw3 : IntKind.i64.wrap ((h : Int) + 1) = (h : Int) + 1 := by rw [IntKind.wrap_i64]; have := HN.out; have := HI.out; omega
      have HRA : Hid (∀ a b, a < b → b < n → ltN (nmA l a) (nmA l b) = true) := fun a b h1 h2 => rise_at HR.out h1 (by rw [HL.out]; exact h2)
      clear hh hjn
      cases hc : ltN nm name with
      | true =>
        rw [cmpN_lt nm name hc] at KM
        have HC : Hid (ltN (nmA l h) name = true) := by show _ = _; rw [HX.out, hc]
        clear hc
        go_wp2_with (first
      | ((with_reducible show wpList _ _ _ (Oper.mk _ (Op.load 49 (Operand.tmp 27)) _ _ _ _ :: _) _ _); refine wpList_load35w (by rfl) _ rfl b (off + h * 16) _ _ _ _ _ _ _ _ _ _ _ _ _ _ _ _ rfl (KR _ B) ?_)
      | (go_at_call 57; refine (KM _).mono ?_; clear KM; rintro e W2 ⟨rfl, b1⟩))
        go_roundg (j - (h + 1))
        case measure => have := HI.out; omega
        case rel =>
          refine ⟨h + 1, j, by first | rfl | go_num, rfl, by have := HI.out; omega, HJ, B.trans (b1.mono B.size), fun k hk => ?_, HB⟩
          by_cases e : k = h
          · rw [e]; exact HC.out
          · exact lt_trans' (HRA.out k h (by omega) HI.out.2.2) HC.out
      | false =>
        have HC : Hid (ltN (nmA l h) name = false) := by show _ = _; rw [HX.out, hc]
        have HBK : Hid (∀ k, h ≤ k → k < n → ltN (nmA l k) name = false) := fun k h1 h2 => by
          cases hk : ltN (nmA l k) name with
          | false => rfl
          | true =>
            by_cases e : h = k
            · rw [← e, HC.out] at hk; cases hk
            · rw [lt_trans' (HRA.out h k (by omega) h2) hk] at HC
              exact absurd HC.out (by decide)
        have KM2 : ∃ z, 0 ≤ z ∧ cmpN nm name = z := by
          by_cases e : nm = name
          · exact ⟨0, by omega, cmpN_eq _ _ e⟩
          · exact ⟨1, by omega, cmpN_gt _ _ hc e⟩
        obtain ⟨z, hz, hz2⟩ := KM2
        rw [hz2] at KM
        have hz0 : ¬ z < 0 := by omega
        clear hc hz2 hz
        go_wp2_with (first
      | ((with_reducible show wpList _ _ _ (Oper.mk _ (Op.load 49 (Operand.tmp 27)) _ _ _ _ :: _) _ _); refine wpList_load35w (by rfl) _ rfl b (off + h * 16) _ _ _ _ _ _ _ _ _ _ _ _ _ _ _ _ rfl (KR _ B) ?_)
      | (go_at_call 57; refine (KM _).mono ?_; clear KM; rintro e W2 ⟨rfl, b1⟩))
        go_roundg (h - i)
        case measure => have := HI.out; omega
        case rel => exact ⟨i, h, rfl, by first | rfl | go_num, by have := HI.out; omega, by show _ ≤ _; have := HI.out; omega, B.trans (b1.mono B.size), HA, HBK⟩
    case neg =>
      have hiI : ¬ (i : Int) < (j : Int) := by omega
      have hij : i = j := by omega
      subst hij
      have HS : Hid (Srt name l i) := ⟨by rw [HL.out]; exact HJ.out, HA.out, fun k h1 h2 => HB.out k h1 (by rw [HL.out] at h2; exact h2)⟩
      by_cases hin : i < n
      case neg =>
        have hiN : ¬ (i : Int) < (n : Int) := by omega
        have HV : Hid (hitB name l i = false) := by show _ = _; unfold hitB; rw [HL.out, decide_eq_false hin]; rfl
        clear hgk hi
        go_wp2
        refine bodyPost_ret (results_tmp2 rfl _ _ _) rfl ⟨i, ?_, HS.out, B⟩
        rw [HV.out]
        rfl
      case pos =>
        have hiN : (i : Int) < (n : Int) := by omega
        obtain ⟨b, off, rfl, hb1, hd, hra⟩ := hr.at i hin
        obtain ⟨⟨⟨nm, ep, mr, al, kd, sc⟩, hv, iv, ⟨h1, v1, o1, g1⟩, ⟨h2, v2, o2, g2⟩⟩, hri⟩ : ∃ r, l.getD i ST.z = r := ⟨_, rfl⟩
        rw [hri] at hra
        have KR : ∀ X, Below w.heap.size w X → X.rangeAt b (off + i * 16) (ST.cells ⟨⟨nm, ep, mr, al, kd, sc⟩, hv, iv, ⟨h1, v1, o1, g1⟩, ⟨h2, v2, o2, g2⟩⟩) := fun X h => range_later hra hb1 h
        have HX : Hid (nmA l i = nm) := by show _ = _; unfold nmA; rw [hri]
        have KM := fun W => cmpS_any nm ep mr al kd sc hv iv h1 v1 o1 g1 h2 v2 o2 g2 name W
        have hng : ltN nm name = false := by rw [← HX.out]; exact HB.out i (Nat.le_refl _) hin
        have HV0 : Hid (hitB name l i = eqN nm name) := by show _ = _; unfold hitB; rw [HL.out, decide_eq_true hin, HX.out]; rfl
        by_cases e : nm = name
        case pos =>
          have HV : Hid (hitB name l i = true) := HV0.out.trans (eqN_iff.2 e)
          rw [cmpN_eq _ _ e] at KM
          clear hri hra hd hng e hgk hi hin
          go_wp2_with (first
      | ((with_reducible show wpList _ _ _ (Oper.mk _ (Op.load 49 (Operand.tmp 43)) _ _ _ _ :: _) _ _); refine wpList_load35w (by rfl) _ rfl b (off + i * 16) _ _ _ _ _ _ _ _ _ _ _ _ _ _ _ _ rfl (KR _ B) ?_)
      | (go_at_call 57; refine (KM _).mono ?_; clear KM; rintro e W2 ⟨rfl, b1⟩))
          refine bodyPost_ret (results_tmp2 rfl _ _ _) rfl ⟨i, ?_, HS.out, B.trans (b1.mono B.size)⟩
          rw [HV.out]
          rfl
        case neg =>
          have HV : Hid (hitB name l i = false) := HV0.out.trans (nm_bne e)
          rw [cmpN_gt _ _ hng e] at KM
          clear hri hra hd hng e hgk hi hin
          go_wp2_with (first
      | ((with_reducible show wpList _ _ _ (Oper.mk _ (Op.load 49 (Operand.tmp 43)) _ _ _ _ :: _) _ _); refine wpList_load35w (by rfl) _ rfl b (off + i * 16) _ _ _ _ _ _ _ _ _ _ _ _ _ _ _ _ rfl (KR _ B) ?_)
      | (go_at_call 57; refine (KM _).mono ?_; clear KM; rintro e W2 ⟨rfl, b1⟩))
          refine bodyPost_ret (results_tmp2 rfl _ _ _) rfl ⟨i, ?_, HS.out, B.trans (b1.mono B.size)⟩
          rw [HV.out]
          rfl
end Go.Proofs.YtoeebofappbneaaGreat

namespace Go.Proofs.YtoeebofappbneaaGreat
open Go.ChangeShapes Go.WideShapes Go.ChangeAt Go.RowKit Go.Maps Go.Shelf
set_option linter.unusedVariables false
set_option linter.unusedSimpArgs false

theorem srt_uniq {name : ByteArray} {l : List ST} {p q : Nat} (h : Srt name l p) (k : Srt name l q) : p = q := by
  rcases Nat.lt_trichotomy p q with c | c | c
  · have h1 := h.2.2 p (Nat.le_refl _) (by have := k.1; omega)
    rw [k.2.1 p c] at h1
    cases h1
  · exact c
  · have h1 := k.2.2 q (Nat.le_refl _) (by have := h.1; omega)
    rw [h.2.1 q c] at h1
    cases h1
theorem srt_ex (name : ByteArray) : ∀ {l : List ST}, Rise (recs l) → ∃ p, Srt name l p
  | [], _ => ⟨0, Nat.le_refl _, fun k h => by omega, fun k _ h => by simp at h⟩
  | s :: t, hl => by
    have hp := List.pairwise_cons.1 hl
    cases hc : ltN s.c.nm name with
    | true =>
      obtain ⟨p, h1, h2, h3⟩ := srt_ex name hp.2
      refine ⟨p + 1, by simp; omega, fun k hk => ?_, fun k hk hl => ?_⟩
      · cases k with
        | zero => exact hc
        | succ k => exact h2 k (by omega)
      · cases k with
        | zero => omega
        | succ k => exact h3 k (by omega) (by simpa using hl)
    | false =>
      refine ⟨0, Nat.zero_le _, fun k h => by omega, fun k _ hk => ?_⟩
      cases k with
      | zero => exact hc
      | succ k =>
        cases hx : ltN (nmA (s :: t) (k + 1)) name with
        | false => rfl
        | true =>
          have := rise_at hl (a := 0) (b := k + 1) (by omega) hk
          exact absurd (lt_trans' this hx) (by rw [show nmA (s :: t) 0 = s.c.nm from rfl, hc]; decide)
set_option maxRecDepth 100000 in
set_option maxHeartbeats 8000000 in
theorem anew_any (a : Option Addr) (n cap : Nat) (l : List ST) (nm : ByteArray) (ep mr : Int) (al : Bool) (kd sc : Int) (w : World) (hr : RdT w a n cap l) (hn : n ≤ 60000) (hl : Rise (recs l)) : Calls Tryz.prog 30 #[.slice a n cap, chv nm ep mr al kd sc] w (AnsT w (anw l ⟨nm, ep, mr, al, kd, sc⟩)) := by
  have M := Mem.nil w
  have HN : Hid (n ≤ 60000) := hn
  have HL : Hid (l.length = n) := hr.size
  have KB : ∀ W, Below w.heap.size w W → Calls Tryz.prog 56 #[.slice a n cap, .string nm, .func (.func 57) #[] #[]] W fun e w' => ∃ p : Nat, e = .returned (.tuple #[.int .i64 (p : Int), .bool (hitB nm l p)]) ∧ Srt nm l p ∧ Below W.heap.size W w' := fun W b => bsearch_any a n cap l nm W (hr.below b) hl
  have hle := hr.le
  have HLE : Hid (n ≤ cap) := hle
  obtain ⟨p, hp⟩ := srt_ex nm hl
  have HS : Hid (Srt nm l p) := hp
  replace KB : ∀ W, Below w.heap.size w W → Calls Tryz.prog 56 #[.slice a n cap, .string nm, .func (.func 57) #[] #[]] W fun e w' => e = .returned (.tuple #[.int .i64 (p : Int), .bool (hitB nm l p)]) ∧ Below W.heap.size W w' := fun W b => (KB W b).mono (by
    rintro e w' ⟨q, h1, h2, h3⟩
    rw [srt_uniq h2 HS.out] at h1
    exact ⟨h1, h3⟩)
  have HPN : Hid (p ≤ n) := by show p ≤ n; rw [← HL.out]; exact HS.out.1
  have HPC : Hid (p ≤ cap) := by show p ≤ cap; have := HPN.out; have := HLE.out; omega
  have HA0 : Hid (anw l ⟨nm, ep, mr, al, kd, sc⟩ = l.take p ++ [begs ⟨nm, ep, mr, al, kd, sc⟩] ++ l.drop (if hitB nm l p = true then p + 1 else p)) := anw_cut HS.out
  have HH : Hid (hitB nm l p = true → p < n) := fun h => by unfold hitB at h; rw [Bool.and_eq_true] at h; rw [← HL.out]; exact of_decide_eq_true h.1
  obtain ⟨hb, hhb⟩ : ∃ hb, hitB nm l p = hb := ⟨_, rfl⟩
  rw [hhb] at HA0 HH KB
  clear hhb hp hn hl hle HS
  cases hb with
  | false =>
    have HA : Hid (anw l ⟨nm, ep, mr, al, kd, sc⟩ = l.take p ++ [begs ⟨nm, ep, mr, al, kd, sc⟩] ++ l.drop p) := HA0.out
    clear HA0 HH
    go_enter Tryz.func30, Tryz.ntmps30
    go_wp2_with (first
      | ((with_reducible show wpList _ _ _ (Oper.mk (some 3) (Op.box 47 _) _ _ _ _ :: _) _ _); refine wpList_box M rfl _ rfl _ rfl ?_; clear M; intro k3 W M)
      | ((with_reducible show wpList _ _ _ (Oper.mk _ (Op.load 9 _) _ _ _ _ :: _) _ _); refine wpList_cell9 M (by rfl) _ rfl _ rfl (by first | exact .head _) rfl ?_)
      | (go_at_call 56; refine (KB _ M.below).mono ?_; clear KB; rintro e W2 ⟨rfl, b1⟩; replace M := M.later b1; clear b1; have RB := hr.below M.below)
      | ((with_reducible show wpList _ _ _ (Oper.mk _ (Op.slice 22 _ (some _) none none) _ _ _ _ :: _) _ _); refine wpList_fromT (k := p) rfl _ _ rfl rfl rfl RB HPN.out ?_; clear RB; intro a9 RB)
      | fail)
    refine wp_region_any (by kernel_rfl) ?_
    change wpAny _ _ _ _ _ _ _ (World.drew _)
    refine wpAny_narrow (fun W' => Mem w W' [(k3, chc nm ep mr al kd sc, 47)]) _ _ _ _ ?_
    replace M := M.drew
    replace RB := RB.below ((Below.refl _ _).drew)
    revert M RB
    generalize World.drew _ = WD
    intro M RB
    refine anyH_take 0 21 (.slice a n cap) rfl rfl (by kernel_rfl) (by kernel_rfl) (by kernel_rfl) (fun _ _ _ h => h) (Or.inl ⟨by rfl, by intro w hSw; go_simp⟩) (M) ?_
    try simp only [Act.put, List.setIfInBounds_toArray, List.set_cons_zero, List.set_cons_succ]
    refine anyH_take 1 22 (.int .i64 (p : Int)) rfl rfl (by kernel_rfl) (by kernel_rfl) (by kernel_rfl) (fun _ _ _ h => h) (Or.inl ⟨by rfl, by intro w hSw; go_simp⟩) (M) ?_
    try simp only [Act.put, List.setIfInBounds_toArray, List.set_cons_zero, List.set_cons_succ]
    refine anyH_take 2 23 (.slice a p cap) rfl rfl (by kernel_rfl) (by kernel_rfl) (by kernel_rfl) (fun _ _ _ h => h) (Or.inl ⟨by rfl, fun X hSw => exec_toT rfl rfl rfl HPC.out⟩) (M) ?_
    try simp only [Act.put, List.setIfInBounds_toArray, List.set_cons_zero, List.set_cons_succ]
    refine anyH_take 3 24 (chv nm ep mr al kd sc) rfl rfl (by kernel_rfl) (by kernel_rfl) (by kernel_rfl) (fun _ _ _ h => h) (Or.inl ⟨by rfl, fun X hSw => exec_loadr rfl rt23 rfl (hSw.get (.head _)) rfl⟩) (M) ?_
    try simp only [Act.put, List.setIfInBounds_toArray, List.set_cons_zero, List.set_cons_succ]
    refine anyH_take 6 27 (.slice a9 (n - p) (cap - p)) rfl rfl (by kernel_rfl) (by kernel_rfl) (by kernel_rfl) (fun _ _ _ h => h) (Or.inl ⟨by rfl, by intro w hSw; go_simp⟩) (M) ?_
    try simp only [Act.put, List.setIfInBounds_toArray, List.set_cons_zero, List.set_cons_succ]
    refine wpAnyH_ready (rs := [4]) (by kernel_rfl) (by simp) ?_
    refine AllReadyH.cons rfl (fun K hK => ?_) AllReadyH.nil
    go_simp
    go_wp2_with (go_at_call 60; refine (begun_any nm ep mr al kd sc _).mono ?_; rintro e W1 ⟨rfl, b1⟩; replace M := M.later b1; replace RB := RB.below b1; clear b1)
    refine hK.out _ _ (M) (fun hS => ?_)
    clear hK
    refine wpAnyH_ready (rs := [5]) (by kernel_rfl) (by simp) ?_
    refine AllReadyH.cons rfl (fun K hK => ?_) AllReadyH.nil
    have MA := M.add (stc nm ep mr al kd sc false 0 false 0 0 0 false 0 0 0) 49
    have RBA := RB.below ((Below.refl _ _).alloc (Nat.le_refl _) (.cells (stc nm ep mr al kd sc false 0 false 0 0 0 false 0 0 0) 49))
    go_simp
    refine hK.out _ _ MA.tail (fun hS => ?_)
    clear hK hS M RB
    try simp only [Act.put, List.setIfInBounds_toArray, List.set_cons_zero, List.set_cons_succ]
    revert MA RBA
    generalize World.alloc _ _ = WZ
    generalize W1.heap.size = kz
    intro M RB
    refine wpAnyH_ready (rs := [7]) (by kernel_rfl) (by simp) ?_
    refine AllReadyH.cons rfl (fun K hK => ?_) AllReadyH.nil
    have MA := M.add #[.slice a p cap, .slice (some ⟨kz, 0, none⟩) 1 1, .slice a9 (n - p) (cap - p)] 22
    have RBA := RB.below ((Below.refl _ _).alloc (Nat.le_refl _) (.cells #[.slice a p cap, .slice (some ⟨kz, 0, none⟩) 1 1, .slice a9 (n - p) (cap - p)] 22))
    go_simp
    refine hK.out _ _ MA.tail.tail (fun hS => ?_)
    clear hK hS M RB
    try simp only [Act.put, List.setIfInBounds_toArray, List.set_cons_zero, List.set_cons_succ]
    revert MA RBA
    generalize World.alloc _ _ = WY
    generalize WZ.heap.size = ky
    intro M RB
    have KC := concat_any a p cap (l.take p) kz (begs ⟨nm, ep, mr, al, kd, sc⟩) a9 (n - p) (cap - p) (l.drop p) ky WY ((hr.below M.below).to p HPN.out) (rd_oneT (M.get (.tail _ (.head _)))) RB (M.get (.head _)) (by have := HN.out; have := HPN.out; omega)
    have hMS := M.below.size
    refine wpAnyH_ready (rs := [8]) (by kernel_rfl) (by simp) ?_
    refine AllReadyH.cons rfl (fun K hK => ?_) AllReadyH.nil
    go_simp
    go_wp2_with (go_at_call 59; refine KC.mono ?_; clear KC; rintro e W5 ⟨v5, rfl, O5, b5⟩)
    replace M := M.later b5
    refine hK.out _ _ M.tail.tail (fun hS => ?_)
    clear hK hS
    try simp only [Act.put, List.setIfInBounds_toArray, List.set_cons_zero, List.set_cons_succ]
    refine anyH_take 9 4 (v5) rfl rfl (by kernel_rfl) (by kernel_rfl) (by kernel_rfl) (fun _ _ _ h => h) (Or.inl ⟨by rfl, by intro w hSw; go_simp⟩) (M.tail.tail) ?_
    try simp only [Act.put, List.setIfInBounds_toArray, List.set_cons_zero, List.set_cons_succ]
    refine wpAnyH_done (by kernel_rfl) ?_ _
    go_wp2
    go_ret
    obtain ⟨a', cap', rfl, L', hb'⟩ := own_lstT O5 (by have := HPN.out; have := HL.out; simp; omega)
    rw [← HA.out] at L'
    have hlen : p + 1 + (n - p) = (anw l ⟨nm, ep, mr, al, kd, sc⟩).length := by rw [HA.out]; have := HPN.out; have := HL.out; simp; omega
    rw [hlen] at L'
    exact ⟨a', cap', by rw [← hlen]; rfl, L', fun g off e => Nat.le_trans hMS (hb' g off e), M.below⟩
  | true =>
    have HA : Hid (anw l ⟨nm, ep, mr, al, kd, sc⟩ = l.take p ++ [begs ⟨nm, ep, mr, al, kd, sc⟩] ++ (l.drop p).drop 1) := by show _ = _; rw [List.drop_drop]; exact HA0.out
    have HP1 : Hid (1 ≤ n - p) := by show _ ≤ _; have := HH.out rfl; omega
    clear HA0 HH
    go_enter Tryz.func30, Tryz.ntmps30
    go_wp2_with (first
      | ((with_reducible show wpList _ _ _ (Oper.mk (some 3) (Op.box 47 _) _ _ _ _ :: _) _ _); refine wpList_box M rfl _ rfl _ rfl ?_; clear M; intro k3 W M)
      | ((with_reducible show wpList _ _ _ (Oper.mk _ (Op.load 9 _) _ _ _ _ :: _) _ _); refine wpList_cell9 M (by rfl) _ rfl _ rfl (by first | exact .head _) rfl ?_)
      | (go_at_call 56; refine (KB _ M.below).mono ?_; clear KB; rintro e W2 ⟨rfl, b1⟩; replace M := M.later b1; clear b1; have RB := hr.below M.below)
      | ((with_reducible show wpList _ _ _ (Oper.mk _ (Op.slice 22 _ (some _) none none) _ _ _ _ :: _) _ _); refine wpList_fromT (k := p) rfl _ _ rfl rfl rfl RB HPN.out ?_; clear RB; intro a9 RB)
      | ((with_reducible show wpList _ _ _ (Oper.mk _ (Op.slice 22 _ (some _) none none) _ _ _ _ :: _) _ _); refine wpList_fromT (k := 1) rfl _ _ rfl rfl rfl RB HP1.out ?_; clear RB; intro a9 RB)
      | fail)
    refine wp_region_any (by kernel_rfl) ?_
    change wpAny _ _ _ _ _ _ _ (World.drew _)
    refine wpAny_narrow (fun W' => Mem w W' [(k3, chc nm ep mr al kd sc, 47)]) _ _ _ _ ?_
    replace M := M.drew
    replace RB := RB.below ((Below.refl _ _).drew)
    revert M RB
    generalize World.drew _ = WD
    intro M RB
    refine anyH_take 0 21 (.slice a n cap) rfl rfl (by kernel_rfl) (by kernel_rfl) (by kernel_rfl) (fun _ _ _ h => h) (Or.inl ⟨by rfl, by intro w hSw; go_simp⟩) (M) ?_
    try simp only [Act.put, List.setIfInBounds_toArray, List.set_cons_zero, List.set_cons_succ]
    refine anyH_take 1 22 (.int .i64 (p : Int)) rfl rfl (by kernel_rfl) (by kernel_rfl) (by kernel_rfl) (fun _ _ _ h => h) (Or.inl ⟨by rfl, by intro w hSw; go_simp⟩) (M) ?_
    try simp only [Act.put, List.setIfInBounds_toArray, List.set_cons_zero, List.set_cons_succ]
    refine anyH_take 2 23 (.slice a p cap) rfl rfl (by kernel_rfl) (by kernel_rfl) (by kernel_rfl) (fun _ _ _ h => h) (Or.inl ⟨by rfl, fun X hSw => exec_toT rfl rfl rfl HPC.out⟩) (M) ?_
    try simp only [Act.put, List.setIfInBounds_toArray, List.set_cons_zero, List.set_cons_succ]
    refine anyH_take 3 24 (chv nm ep mr al kd sc) rfl rfl (by kernel_rfl) (by kernel_rfl) (by kernel_rfl) (fun _ _ _ h => h) (Or.inl ⟨by rfl, fun X hSw => exec_loadr rfl rt23 rfl (hSw.get (.head _)) rfl⟩) (M) ?_
    try simp only [Act.put, List.setIfInBounds_toArray, List.set_cons_zero, List.set_cons_succ]
    refine anyH_take 6 27 (.slice a9 (n - p - 1) (cap - p - 1)) rfl rfl (by kernel_rfl) (by kernel_rfl) (by kernel_rfl) (fun _ _ _ h => h) (Or.inl ⟨by rfl, by intro w hSw; go_simp⟩) (M) ?_
    try simp only [Act.put, List.setIfInBounds_toArray, List.set_cons_zero, List.set_cons_succ]
    refine wpAnyH_ready (rs := [4]) (by kernel_rfl) (by simp) ?_
    refine AllReadyH.cons rfl (fun K hK => ?_) AllReadyH.nil
    go_simp
    go_wp2_with (go_at_call 60; refine (begun_any nm ep mr al kd sc _).mono ?_; rintro e W1 ⟨rfl, b1⟩; replace M := M.later b1; replace RB := RB.below b1; clear b1)
    refine hK.out _ _ (M) (fun hS => ?_)
    clear hK
    refine wpAnyH_ready (rs := [5]) (by kernel_rfl) (by simp) ?_
    refine AllReadyH.cons rfl (fun K hK => ?_) AllReadyH.nil
    have MA := M.add (stc nm ep mr al kd sc false 0 false 0 0 0 false 0 0 0) 49
    have RBA := RB.below ((Below.refl _ _).alloc (Nat.le_refl _) (.cells (stc nm ep mr al kd sc false 0 false 0 0 0 false 0 0 0) 49))
    go_simp
    refine hK.out _ _ MA.tail (fun hS => ?_)
    clear hK hS M RB
    try simp only [Act.put, List.setIfInBounds_toArray, List.set_cons_zero, List.set_cons_succ]
    revert MA RBA
    generalize World.alloc _ _ = WZ
    generalize W1.heap.size = kz
    intro M RB
    refine wpAnyH_ready (rs := [7]) (by kernel_rfl) (by simp) ?_
    refine AllReadyH.cons rfl (fun K hK => ?_) AllReadyH.nil
    have MA := M.add #[.slice a p cap, .slice (some ⟨kz, 0, none⟩) 1 1, .slice a9 (n - p - 1) (cap - p - 1)] 22
    have RBA := RB.below ((Below.refl _ _).alloc (Nat.le_refl _) (.cells #[.slice a p cap, .slice (some ⟨kz, 0, none⟩) 1 1, .slice a9 (n - p - 1) (cap - p - 1)] 22))
    go_simp
    refine hK.out _ _ MA.tail.tail (fun hS => ?_)
    clear hK hS M RB
    try simp only [Act.put, List.setIfInBounds_toArray, List.set_cons_zero, List.set_cons_succ]
    revert MA RBA
    generalize World.alloc _ _ = WY
    generalize WZ.heap.size = ky
    intro M RB
    have KC := concat_any a p cap (l.take p) kz (begs ⟨nm, ep, mr, al, kd, sc⟩) a9 (n - p - 1) (cap - p - 1) ((l.drop p).drop 1) ky WY ((hr.below M.below).to p HPN.out) (rd_oneT (M.get (.tail _ (.head _)))) RB (M.get (.head _)) (by have := HN.out; have := HPN.out; omega)
    have hMS := M.below.size
    refine wpAnyH_ready (rs := [8]) (by kernel_rfl) (by simp) ?_
    refine AllReadyH.cons rfl (fun K hK => ?_) AllReadyH.nil
    go_simp
    go_wp2_with (go_at_call 59; refine KC.mono ?_; clear KC; rintro e W5 ⟨v5, rfl, O5, b5⟩)
    replace M := M.later b5
    refine hK.out _ _ M.tail.tail (fun hS => ?_)
    clear hK hS
    try simp only [Act.put, List.setIfInBounds_toArray, List.set_cons_zero, List.set_cons_succ]
    refine anyH_take 9 4 (v5) rfl rfl (by kernel_rfl) (by kernel_rfl) (by kernel_rfl) (fun _ _ _ h => h) (Or.inl ⟨by rfl, by intro w hSw; go_simp⟩) (M.tail.tail) ?_
    try simp only [Act.put, List.setIfInBounds_toArray, List.set_cons_zero, List.set_cons_succ]
    refine wpAnyH_done (by kernel_rfl) ?_ _
    go_wp2
    go_ret
    obtain ⟨a', cap', rfl, L', hb'⟩ := own_lstT O5 (by have := HPN.out; have := HL.out; have := HP1.out;simp; omega)
    rw [← HA.out] at L'
    have hlen : p + 1 + (n - p - 1) = (anw l ⟨nm, ep, mr, al, kd, sc⟩).length := by rw [HA.out]; have := HPN.out; have := HL.out; have := HP1.out;simp; omega
    rw [hlen] at L'
    exact ⟨a', cap', by rw [← hlen]; rfl, L', fun g off e => Nat.le_trans hMS (hb' g off e), M.below⟩
end Go.Proofs.YtoeebofappbneaaGreat

namespace Go.Proofs.YtoeebofappbneaaGreat
open Go.ChangeShapes Go.WideShapes Go.ChangeAt Go.RowKit Go.Maps Go.Shelf
set_option linter.unusedVariables false
set_option linter.unusedSimpArgs false

abbrev stA (x : ST) : Array Value := stc x.c.nm x.c.ep x.c.mr x.c.al x.c.kd x.c.sc x.h x.i x.mn.h x.mn.v x.mn.o x.mn.g x.mx.h x.mx.v x.mx.o x.mx.g
def pickN (l : List ST) (r : CH) (j : Nat) : ST := pickA (begs r) (l.take j) r
theorem pickN_step {l : List ST} {r : CH} {j : Nat} {x : ST} (h : l[j]? = some x) : pickN l r (j + 1) = if eqC x.c r = true then x else pickN l r j := by
  unfold pickN pickA
  rw [List.take_add_one, h, List.foldl_append]
  rfl
theorem pickN_all {l : List ST} {r : CH} {n : Nat} (h : l.length = n) : pickN l r n = pickA (begs r) l r := by unfold pickN; rw [List.take_of_length_le (by omega)]
theorem bgn_step {l : List ST} {rs : List CH} {i : Nat} {r : CH} (h : rs[i]? = some r) : bgn l (rs.take (i + 1)) = bgn l (rs.take i) ++ [pickA (begs r) l r] := by
  unfold bgn
  rw [List.take_add_one, h, List.map_append]
  rfl
theorem bgn_len (l : List ST) (rs : List CH) : (bgn l rs).length = rs.length := List.length_map _
set_option maxRecDepth 100000 in
set_option maxHeartbeats 8000000 in
theorem rbegun_any (a a' : Option Addr) (n n' cap cap' : Nat) (l : List ST) (rs : List CH) (w : World) (hr : RdT w a n cap l) (hr' : RdC w a' n' cap' rs) (hn' : n' ≤ 1000) : Calls Tryz.prog 32 #[.slice a n cap, .slice a' n' cap'] w (AnsT w (bgn l rs)) := by
  have HN : Hid (n ≤ 140737488355328) := hr.small
  have HN' : Hid (n' ≤ 1000) := hn'
  have HL : Hid (l.length = n) := hr.size
  have HL' : Hid (rs.length = n') := hr'.size
  obtain ⟨LL, hLL⟩ : ∃ LL, bgn l rs = LL := ⟨_, rfl⟩
  rw [hLL]
  have HF : Hid (bgn l (rs.take n') = LL) := by show _ = _; rw [List.take_of_length_le (by have := HL'.out; omega)]; exact hLL
  have HLN : Hid (LL.length = n') := by show _ = _; rw [← hLL, bgn_len]; exact HL'.out
  clear hLL hn'
  go_enter Tryz.func32, Tryz.ntmps32
  go_wp2
  go_loopg [5, 6, 7, 8] n' (fun gk v5 v6 v7 v8 wr => ∃ (i : Nat) (v : Value), v = v5 ∧ v6 = .int .i64 (i : Int) ∧ i + gk = n' ∧ Mem w wr [] ∧ wr.ownsRow w.heap.size 49 16 v i (csT (bgn l (rs.take i))))
  case atStart => exact ⟨0, _, rfl, by first | rfl | go_num, by omega, Mem.nil w, World.ownsRow_nil _ _ _ _⟩
  case round =>
    obtain ⟨i, v, rfl, rfl, hgk, M0, O⟩ := hrel
    obtain ⟨av, cv, rfl⟩ : ∃ av cv, v = .slice av i cv := by
      rcases O.2 with ⟨e, h0⟩ | ⟨g, cp, cur, e, _⟩
      · exact ⟨_, _, by rw [e, h0]⟩
      · exact ⟨_, _, e⟩
    by_cases hi : i < n'
    case pos =>
      have HI : Hid (i < n') := hi
      have HIK : Hid ((i + 1) * 136 ≤ 140737488355328) := by show _ ≤ _; have := HN'.out; omega
      have hiI : (i : Int) < (n' : Int) := by omega
      have hwr : IntKind.i64.wrap ((i : Int) + 1) = (i : Int) + 1 := by rw [IntKind.wrap_i64]; have := HN'.out; omega
      obtain ⟨b', off', rfl, hb1', hd', hra'⟩ := hr'.at i hi
      obtain ⟨⟨rn, re, rm, ra, rk, rs0⟩, hri'⟩ : ∃ r, rs.getD i CH.z = r := ⟨_, rfl⟩
      rw [hri'] at hra' hd'
      have HX : Hid (bgn l (rs.take (i + 1)) = bgn l (rs.take i) ++ [pickA (begs ⟨rn, re, rm, ra, rk, rs0⟩) l ⟨rn, re, rm, ra, rk, rs0⟩]) := bgn_step hd'
      have KQ : ∀ X, Below w.heap.size w X → X.rangeAt b' (off' + i * 6) (CH.cells ⟨rn, re, rm, ra, rk, rs0⟩) := fun X h => range_later hra' hb1' h
      obtain ⟨ds, hds⟩ : ∃ ds, bgn l (rs.take i) = ds := ⟨_, rfl⟩
      rw [hds] at O HX
      clear hri' hd' hi hra' hds
      have HGK : Hid (i + gk = n') := hgk
      clear hgk
      have M := M0.ownG O (fun g hg p hp => by cases hp)
      go_wp2_with (first
      | ((with_reducible show wpList _ _ _ (Oper.mk _ (Op.load 47 (Operand.tmp 17)) _ _ _ _ :: _) _ _); refine wpList_load23w (by rfl) _ rfl b' (off' + i * 6) rn re rm ra rk rs0 rfl (KQ _ (M0.back M).below) ?_)
      | ((with_reducible show wpList _ _ _ (Oper.mk (some 7) (Op.alloc 49) _ _ _ _ :: _) _ _); refine wpList_alloc M rfl rfl rtT ?_; clear M; intro k7 W M)
      | ((with_reducible show wpList _ _ _ (Oper.mk _ (Op.store 49 _ _) _ _ _ _ :: _) _ _); (first | (refine wpList_put M rfl _ _ rfl rtT 0 _ rfl rfl rfl rfl rfl (by simp [Value.oneCell']) ?_)); clear M; intro W M; simp only [List.set_cons_zero, List.set_cons_succ] at M))
      obtain ⟨gko, rfl⟩ : ∃ g : Nat, g = gk := ⟨_, rfl⟩
      obtain ⟨wro, rfl⟩ : ∃ g : World, g = wr := ⟨_, rfl⟩
      go_loopg [8] n (fun gk v8 wr => ∃ (j : Nat), v8 = .int .i64 (j : Int) ∧ j + gk = n ∧ MemG w.heap.size (fun b => (Value.slice av i cv).ownBlock = some b) wro wr [(k7, stA (pickN l ⟨rn, re, rm, ra, rk, rs0⟩ j), 49)])
      case atStart => exact ⟨0, by first | rfl | go_num, by omega, M⟩
      case round =>
        clear M
        obtain ⟨j, rfl, hgk, M⟩ := hrel
        obtain ⟨x, hx⟩ : ∃ x, pickN l ⟨rn, re, rm, ra, rk, rs0⟩ j = x := ⟨_, rfl⟩
        rw [hx] at M
        by_cases hj : j < n
        case pos =>
          have HJ : Hid (j < n) := hj
          have hjI : (j : Int) < (n : Int) := by omega
          have hwr2 : IntKind.i64.wrap ((j : Int) + 1) = (j : Int) + 1 := by rw [IntKind.wrap_i64]; have := HN.out; omega
          obtain ⟨b, off, rfl, hb1, hd, hra⟩ := hr.at j hj
          obtain ⟨⟨⟨nm, ep, mr, al, kd, sc⟩, hv, iv, ⟨h1, v1, o1, g1⟩, ⟨h2, v2, o2, g2⟩⟩, hri⟩ : ∃ r, l.getD j ST.z = r := ⟨_, rfl⟩
          rw [hri] at hra hd
          have KR : ∀ X, Below w.heap.size w X → X.rangeAt b (off + j * 16) (ST.cells ⟨⟨nm, ep, mr, al, kd, sc⟩, hv, iv, ⟨h1, v1, o1, g1⟩, ⟨h2, v2, o2, g2⟩⟩) := fun X h => range_later hra hb1 h
          have HS := pickN_step (r := ⟨rn, re, rm, ra, rk, rs0⟩) hd
          rw [hx] at HS
          have HP : Hid (pickN l ⟨rn, re, rm, ra, rk, rs0⟩ (j + 1) = if eqC ⟨nm, ep, mr, al, kd, sc⟩ ⟨rn, re, rm, ra, rk, rs0⟩ = true then ⟨⟨nm, ep, mr, al, kd, sc⟩, hv, iv, ⟨h1, v1, o1, g1⟩, ⟨h2, v2, o2, g2⟩⟩ else x) := HS
          clear hri hd hra hj HS hx
          cases he : eqC ⟨nm, ep, mr, al, kd, sc⟩ ⟨rn, re, rm, ra, rk, rs0⟩ with
          | true =>
            have HE : Hid (eqC ⟨nm, ep, mr, al, kd, sc⟩ ⟨rn, re, rm, ra, rk, rs0⟩ = true) := he
            rw [he] at HP
            have HP2 : Hid (pickN l ⟨rn, re, rm, ra, rk, rs0⟩ (j + 1) = ⟨⟨nm, ep, mr, al, kd, sc⟩, hv, iv, ⟨h1, v1, o1, g1⟩, ⟨h2, v2, o2, g2⟩⟩) := HP.out.trans (if_pos rfl)
            clear he HP
            go_wp2_with (fail)
            refine wp_region_any (by kernel_rfl) ?_
            change wpAny _ _ _ _ _ _ _ (World.drew _)
            refine wpAny_narrow (fun W' => W'.rangeAt b (off + j * 16) (CH.cells ⟨nm, ep, mr, al, kd, sc⟩) ∧ W'.rangeAt b' (off' + i * 6) (CH.cells ⟨rn, re, rm, ra, rk, rs0⟩)) _ _ _ _ ?_
            replace M := M.drew
            revert M
            generalize World.drew _ = WD
            intro M
            refine anyH_take 0 26 (.slice (some ⟨b, off, none⟩) n cap) rfl rfl (by kernel_rfl) (by kernel_rfl) (by kernel_rfl) (fun _ _ _ h => h) (Or.inl ⟨by rfl, by intro w hSw; go_simp⟩) (⟨rng_ch (KR _ (M0.back M).below), KQ _ (M0.back M).below⟩) ?_
            try simp only [Act.put, List.setIfInBounds_toArray, List.set_cons_zero, List.set_cons_succ]
            refine anyH_take 1 27 (.int .i64 (j : Int)) rfl rfl (by kernel_rfl) (by kernel_rfl) (by kernel_rfl) (fun _ _ _ h => h) (Or.inl ⟨by rfl, by intro w hSw; go_simp⟩) (⟨rng_ch (KR _ (M0.back M).below), KQ _ (M0.back M).below⟩) ?_
            try simp only [Act.put, List.setIfInBounds_toArray, List.set_cons_zero, List.set_cons_succ]
            refine anyH_take 2 28 (.pointer (some ⟨b, off + j * 16, none⟩)) rfl rfl (by kernel_rfl) (by kernel_rfl) (by kernel_rfl) (fun _ _ _ h => h) (Or.inl ⟨by rfl, by intro w hSw; go_simp⟩) (⟨rng_ch (KR _ (M0.back M).below), KQ _ (M0.back M).below⟩) ?_
            try simp only [Act.put, List.setIfInBounds_toArray, List.set_cons_zero, List.set_cons_succ]
            refine anyH_take 3 29 (.pointer (some ⟨b, off + j * 16, none⟩)) rfl rfl (by kernel_rfl) (by kernel_rfl) (by kernel_rfl) (fun _ _ _ h => h) (Or.inl ⟨by rfl, by intro w hSw; go_simp⟩) (⟨rng_ch (KR _ (M0.back M).below), KQ _ (M0.back M).below⟩) ?_
            try simp only [Act.put, List.setIfInBounds_toArray, List.set_cons_zero, List.set_cons_succ]
            refine anyH_take 4 30 (chv nm ep mr al kd sc) rfl rfl (by kernel_rfl) (by kernel_rfl) (by kernel_rfl) (fun _ _ _ h => h) (Or.inl ⟨by rfl, fun X hSw => exec_load23 rfl b (off + j * 16) ⟨nm, ep, mr, al, kd, sc⟩ rfl hSw.1⟩) (⟨rng_ch (KR _ (M0.back M).below), KQ _ (M0.back M).below⟩) ?_
            try simp only [Act.put, List.setIfInBounds_toArray, List.set_cons_zero, List.set_cons_succ]
            refine anyH_take 5 31 (.slice (some ⟨b', off', none⟩) n' cap') rfl rfl (by kernel_rfl) (by kernel_rfl) (by kernel_rfl) (fun _ _ _ h => h) (Or.inl ⟨by rfl, by intro w hSw; go_simp⟩) (⟨rng_ch (KR _ (M0.back M).below), KQ _ (M0.back M).below⟩) ?_
            try simp only [Act.put, List.setIfInBounds_toArray, List.set_cons_zero, List.set_cons_succ]
            refine anyH_take 6 32 (.int .i64 (i : Int)) rfl rfl (by kernel_rfl) (by kernel_rfl) (by kernel_rfl) (fun _ _ _ h => h) (Or.inl ⟨by rfl, by intro w hSw; go_simp⟩) (⟨rng_ch (KR _ (M0.back M).below), KQ _ (M0.back M).below⟩) ?_
            try simp only [Act.put, List.setIfInBounds_toArray, List.set_cons_zero, List.set_cons_succ]
            refine anyH_take 7 33 (.pointer (some ⟨b', off' + i * 6, none⟩)) rfl rfl (by kernel_rfl) (by kernel_rfl) (by kernel_rfl) (fun _ _ _ h => h) (Or.inl ⟨by rfl, by intro w hSw; go_simp⟩) (⟨rng_ch (KR _ (M0.back M).below), KQ _ (M0.back M).below⟩) ?_
            try simp only [Act.put, List.setIfInBounds_toArray, List.set_cons_zero, List.set_cons_succ]
            refine anyH_take 8 34 (chv rn re rm ra rk rs0) rfl rfl (by kernel_rfl) (by kernel_rfl) (by kernel_rfl) (fun _ _ _ h => h) (Or.inl ⟨by rfl, fun X hSw => exec_load23 rfl b' (off' + i * 6) ⟨rn, re, rm, ra, rk, rs0⟩ rfl hSw.2⟩) (⟨rng_ch (KR _ (M0.back M).below), KQ _ (M0.back M).below⟩) ?_
            try simp only [Act.put, List.setIfInBounds_toArray, List.set_cons_zero, List.set_cons_succ]
            refine anyH_take 9 35 (.bool true) rfl rfl (by kernel_rfl) (by kernel_rfl) (by kernel_rfl) (fun _ _ _ h => h) (Or.inl ⟨by rfl, fun X hSw => (exec_eql23 rfl ⟨nm, ep, mr, al, kd, sc⟩ ⟨rn, re, rm, ra, rk, rs0⟩ rfl rfl X).trans (by rw [HE.out])⟩) (⟨rng_ch (KR _ (M0.back M).below), KQ _ (M0.back M).below⟩) ?_
            try simp only [Act.put, List.setIfInBounds_toArray, List.set_cons_zero, List.set_cons_succ]
            refine wpAnyH_done (by kernel_rfl) ?_ _
            go_wp2_with (first
      | ((with_reducible show wpList _ _ _ (Oper.mk _ (Op.load 49 (Operand.tmp 38)) _ _ _ _ :: _) _ _); refine wpList_load35w (by rfl) _ rfl b (off + j * 16) _ _ _ _ _ _ _ _ _ _ _ _ _ _ _ _ rfl (KR _ (M0.back M).below) ?_)
      | ((with_reducible show wpList _ _ _ (Oper.mk _ (Op.store 49 _ _) _ _ _ _ :: _) _ _); (first | (refine wpList_put M rfl _ _ rfl rtT 0 _ rfl rfl rfl rfl rfl (by simp [Value.oneCell']) ?_)); clear M; intro W M; simp only [List.set_cons_zero, List.set_cons_succ] at M))
            go_roundg (gk - 1)
            case measure => have := HJ.out; omega
            case rel => exact ⟨j + 1, by first | rfl | go_num, by have := HJ.out; omega, by rw [HP2.out]; exact M⟩
          | false =>
            have HE : Hid (eqC ⟨nm, ep, mr, al, kd, sc⟩ ⟨rn, re, rm, ra, rk, rs0⟩ = false) := he
            rw [he] at HP
            have HP2 : Hid (pickN l ⟨rn, re, rm, ra, rk, rs0⟩ (j + 1) = x) := HP.out.trans (if_neg (by decide))
            clear he HP
            go_wp2_with (fail)
            refine wp_region_any (by kernel_rfl) ?_
            change wpAny _ _ _ _ _ _ _ (World.drew _)
            refine wpAny_narrow (fun W' => W'.rangeAt b (off + j * 16) (CH.cells ⟨nm, ep, mr, al, kd, sc⟩) ∧ W'.rangeAt b' (off' + i * 6) (CH.cells ⟨rn, re, rm, ra, rk, rs0⟩)) _ _ _ _ ?_
            replace M := M.drew
            revert M
            generalize World.drew _ = WD
            intro M
            refine anyH_take 0 26 (.slice (some ⟨b, off, none⟩) n cap) rfl rfl (by kernel_rfl) (by kernel_rfl) (by kernel_rfl) (fun _ _ _ h => h) (Or.inl ⟨by rfl, by intro w hSw; go_simp⟩) (⟨rng_ch (KR _ (M0.back M).below), KQ _ (M0.back M).below⟩) ?_
            try simp only [Act.put, List.setIfInBounds_toArray, List.set_cons_zero, List.set_cons_succ]
            refine anyH_take 1 27 (.int .i64 (j : Int)) rfl rfl (by kernel_rfl) (by kernel_rfl) (by kernel_rfl) (fun _ _ _ h => h) (Or.inl ⟨by rfl, by intro w hSw; go_simp⟩) (⟨rng_ch (KR _ (M0.back M).below), KQ _ (M0.back M).below⟩) ?_
            try simp only [Act.put, List.setIfInBounds_toArray, List.set_cons_zero, List.set_cons_succ]
            refine anyH_take 2 28 (.pointer (some ⟨b, off + j * 16, none⟩)) rfl rfl (by kernel_rfl) (by kernel_rfl) (by kernel_rfl) (fun _ _ _ h => h) (Or.inl ⟨by rfl, by intro w hSw; go_simp⟩) (⟨rng_ch (KR _ (M0.back M).below), KQ _ (M0.back M).below⟩) ?_
            try simp only [Act.put, List.setIfInBounds_toArray, List.set_cons_zero, List.set_cons_succ]
            refine anyH_take 3 29 (.pointer (some ⟨b, off + j * 16, none⟩)) rfl rfl (by kernel_rfl) (by kernel_rfl) (by kernel_rfl) (fun _ _ _ h => h) (Or.inl ⟨by rfl, by intro w hSw; go_simp⟩) (⟨rng_ch (KR _ (M0.back M).below), KQ _ (M0.back M).below⟩) ?_
            try simp only [Act.put, List.setIfInBounds_toArray, List.set_cons_zero, List.set_cons_succ]
            refine anyH_take 4 30 (chv nm ep mr al kd sc) rfl rfl (by kernel_rfl) (by kernel_rfl) (by kernel_rfl) (fun _ _ _ h => h) (Or.inl ⟨by rfl, fun X hSw => exec_load23 rfl b (off + j * 16) ⟨nm, ep, mr, al, kd, sc⟩ rfl hSw.1⟩) (⟨rng_ch (KR _ (M0.back M).below), KQ _ (M0.back M).below⟩) ?_
            try simp only [Act.put, List.setIfInBounds_toArray, List.set_cons_zero, List.set_cons_succ]
            refine anyH_take 5 31 (.slice (some ⟨b', off', none⟩) n' cap') rfl rfl (by kernel_rfl) (by kernel_rfl) (by kernel_rfl) (fun _ _ _ h => h) (Or.inl ⟨by rfl, by intro w hSw; go_simp⟩) (⟨rng_ch (KR _ (M0.back M).below), KQ _ (M0.back M).below⟩) ?_
            try simp only [Act.put, List.setIfInBounds_toArray, List.set_cons_zero, List.set_cons_succ]
            refine anyH_take 6 32 (.int .i64 (i : Int)) rfl rfl (by kernel_rfl) (by kernel_rfl) (by kernel_rfl) (fun _ _ _ h => h) (Or.inl ⟨by rfl, by intro w hSw; go_simp⟩) (⟨rng_ch (KR _ (M0.back M).below), KQ _ (M0.back M).below⟩) ?_
            try simp only [Act.put, List.setIfInBounds_toArray, List.set_cons_zero, List.set_cons_succ]
            refine anyH_take 7 33 (.pointer (some ⟨b', off' + i * 6, none⟩)) rfl rfl (by kernel_rfl) (by kernel_rfl) (by kernel_rfl) (fun _ _ _ h => h) (Or.inl ⟨by rfl, by intro w hSw; go_simp⟩) (⟨rng_ch (KR _ (M0.back M).below), KQ _ (M0.back M).below⟩) ?_
            try simp only [Act.put, List.setIfInBounds_toArray, List.set_cons_zero, List.set_cons_succ]
            refine anyH_take 8 34 (chv rn re rm ra rk rs0) rfl rfl (by kernel_rfl) (by kernel_rfl) (by kernel_rfl) (fun _ _ _ h => h) (Or.inl ⟨by rfl, fun X hSw => exec_load23 rfl b' (off' + i * 6) ⟨rn, re, rm, ra, rk, rs0⟩ rfl hSw.2⟩) (⟨rng_ch (KR _ (M0.back M).below), KQ _ (M0.back M).below⟩) ?_
            try simp only [Act.put, List.setIfInBounds_toArray, List.set_cons_zero, List.set_cons_succ]
            refine anyH_take 9 35 (.bool false) rfl rfl (by kernel_rfl) (by kernel_rfl) (by kernel_rfl) (fun _ _ _ h => h) (Or.inl ⟨by rfl, fun X hSw => (exec_eql23 rfl ⟨nm, ep, mr, al, kd, sc⟩ ⟨rn, re, rm, ra, rk, rs0⟩ rfl rfl X).trans (by rw [HE.out])⟩) (⟨rng_ch (KR _ (M0.back M).below), KQ _ (M0.back M).below⟩) ?_
            try simp only [Act.put, List.setIfInBounds_toArray, List.set_cons_zero, List.set_cons_succ]
            refine wpAnyH_done (by kernel_rfl) ?_ _
            go_wp2
            go_roundg (gk - 1)
            case measure => have := HJ.out; omega
            case rel => exact ⟨j + 1, by first | rfl | go_num, by have := HJ.out; omega, by rw [HP2.out]; exact M⟩
        case neg =>
          have hjI : ¬ (j : Int) < (n : Int) := by omega
          have hjn : j = n := by omega
          have HXF : Hid (bgn l (rs.take (i + 1)) = ds ++ [x]) := by show _ = _; rw [HX.out, ← hx, hjn, pickN_all HL.out]
          clear hx hj hgk hjn HX
          obtain ⟨⟨xn, xe, xm, xa, xk, xs⟩, xh, xi, ⟨xa1, xa2, xa3, xa4⟩, ⟨xb1, xb2, xb3, xb4⟩⟩ := x
          dsimp only [stA] at M
          replace O := M.ownsG O
          have M0' := M0.back M
          have MM : MemG w.heap.size (fun b => (Value.slice av i cv).ownBlock = some b) wr wr [(k7, stc xn xe xm xa xk xs xh xi xa1 xa2 xa3 xa4 xb1 xb2 xb3 xb4, 49)] := ⟨Same.refl _ _ _, M.size, fun b hb => (O.lt b hb).2, M.at_, M.nd⟩
          clear M
          have M := MM
          clear MM
          go_wp2_with (first
      | ((with_reducible show wpList _ _ _ (Oper.mk _ (Op.load 49 _) _ _ _ _ :: _) _ _); refine wpList_load M (by rfl) _ rfl rtT rfl (by first | exact .head _) (by rfl) ?_)
      | ((with_reducible show wpList _ _ _ (Oper.mk _ (Op.buildSlice 22 1 _) _ _ _ _ :: _) _ _); refine wpList_mk1T M rfl _ rfl _ _ _ _ _ _ _ _ _ _ _ _ _ _ _ _ rfl ?_; clear M; intro q W M)
      | ((with_reducible show wpList _ _ _ (Oper.mk _ (Op.call { callee := Callee.builtin Builtin.append, args := _, argTypes := #[22, 22] }) _ _ _ _ :: _) _ _); refine wpList_appT M O rfl _ _ rfl rfl rfl HIK.out ?_; clear M; intro g cp W M1 O1 N1))
          go_roundg (gko - 1)
          case measure => have := HI.out; have := HGK.out; omega
          case rel => exact ⟨i + 1, _, rfl, by first | rfl | go_num, by have := HI.out; have := HGK.out; omega, (M0'.back M1).sub (List.nil_sublist _), by rw [HXF.out, csT_snoc]; exact O1⟩
    case neg =>
      have hiI : ¬ (i : Int) < (n' : Int) := by omega
      have hin : i = n' := by omega
      rw [hin, HF.out] at O
      have B := M0.below
      have hll := HLN.out
      subst hll
      have hiN : i = LL.length := hin
      clear hin hi hgk HF HL' HLN HN' hr'
      subst hiN
      go_wp2
      go_ret
      obtain ⟨a2, c2, e2, L2, h2⟩ := own_lstT O rfl
      cases e2
      exact ⟨_, _, rfl, L2, h2, B⟩
end Go.Proofs.YtoeebofappbneaaGreat
