/-
  Package disk: Write, New, Image.
-/
import Derived.Test.YtaacggbfoejjhaaDoorDDk2
namespace Go.Proofs.YtaacggbfoejjhaaDoor.D
open Go.ChangeShapes Go.WideShapes Go.ChangeAt Go.RowKit
set_option linter.unusedVariables false
set_option linter.unusedSimpArgs false

set_option maxHeartbeats 1000000 in
theorem write_dead (d l : Nat) (S : DS) (x : Int) (v : Value) (w : World) (D : DkP w d l S) (hg : S.gone = true) : Calls Tryd.prog 34 #[.pointer (some ⟨d, 0, none⟩), .int .i64 x, v] w fun e w' => e = .returned (.int .i64 32) ∧ Below w.heap.size w w' := by
  have K := who_any d l S w D
  rw [hg] at K
  simp only [if_true] at K
  go_enter Tryd.func34, Tryd.ntmps34
  go_wp2_with (first
    | (go_at_call 50; refine K.mono ?_; rintro e w1 ⟨rfl, b1⟩)
    | (go_at_call 71; refine (offwrite_any x v _).mono ?_; rintro e w2 ⟨rfl, b2⟩))
  go_ret
  exact ⟨rfl, b1.trans (b2.mono b1.size)⟩
set_option maxHeartbeats 1000000 in
theorem write_no (d l : Nat) (S : DS) (x : Int) (v : Value) (w : World) (D : DkP w d l S) (hg : S.gone = false) (h : inS S x = false) : Calls Tryd.prog 34 #[.pointer (some ⟨d, 0, none⟩), .int .i64 x, v] w fun e w' => e = .returned (.int .i64 31) ∧ Below w.heap.size w w' := by
  have K := who_any d l S w D
  rw [hg] at K
  simp only [Bool.false_eq_true, if_false] at K
  go_enter Tryd.func34, Tryd.ntmps34
  go_wp2_with (first
    | (go_at_call 50; refine K.mono ?_; rintro e w1 ⟨rfl, b1⟩)
    | (go_at_call 73; refine (livewrite_no d l S x v _ (D.below b1) h).mono ?_; rintro e w2 ⟨rfl, b2⟩))
  go_ret
  exact ⟨rfl, b1.trans (b2.mono b1.size)⟩
set_option maxHeartbeats 1000000 in
theorem write_form (d l : Nat) (S : DS) (x : Int) (a : Option Addr) (n c : Nat) (w : World) (D : DkP w d l S) (hg : S.gone = false) (h : inS S x = true) (hn : n ≠ 16) : Calls Tryd.prog 34 #[.pointer (some ⟨d, 0, none⟩), .int .i64 x, .slice a n c] w fun e w' => e = .returned (.int .i64 20) ∧ Below w.heap.size w w' := by
  have K := who_any d l S w D
  rw [hg] at K
  simp only [Bool.false_eq_true, if_false] at K
  go_enter Tryd.func34, Tryd.ntmps34
  go_wp2_with (first
    | (go_at_call 50; refine K.mono ?_; rintro e w1 ⟨rfl, b1⟩)
    | (go_at_call 73; refine (livewrite_form d l S x a n c _ (D.below b1) h hn).mono ?_; rintro e w2 ⟨rfl, b2⟩))
  go_ret
  exact ⟨rfl, b1.trans (b2.mono b1.size)⟩
set_option maxHeartbeats 1000000 in
theorem write_cut (d l : Nat) (S : DS) (x : Int) (a : Option Addr) (c : Nat) (w : World) (D : DkP w d l S) (hg : S.gone = false) (h : inS S x = true) (h0 : S.left = 0) : Calls Tryd.prog 34 #[.pointer (some ⟨d, 0, none⟩), .int .i64 x, .slice a 16 c] w fun e w' => e = .returned (.int .i64 32) ∧ DkP w' d l ⟨true, S.left, S.stays, S.n, S.bs, S.done⟩ ∧ Only (at1 d) w w' := by
  have K := who_any d l S w D
  rw [hg] at K
  simp only [Bool.false_eq_true, if_false] at K
  go_enter Tryd.func34, Tryd.ntmps34
  go_wp2_with (first
    | (go_at_call 50; refine K.mono ?_; rintro e w1 ⟨rfl, b1⟩)
    | (go_at_call 73; refine (livewrite_cut d l S x a c _ (D.below b1) h h0).mono ?_; rintro e w2 ⟨rfl, D2, o2⟩))
  go_ret
  exact ⟨rfl, D2, (Only.of_below b1).trans o2⟩
set_option maxHeartbeats 1000000 in
theorem write_ok (d l : Nat) (S : DS) (i : Nat) (b off : Nat) (c : Nat) (zs : List Int) (w : World) (D : DkP w d l S) (hg : S.gone = false) (hi : i < S.n) (h0 : S.left ≠ 0) (R : Row .u8 w (some ⟨b, off, none⟩) 16 c zs) (hbd : b ≠ d) (hbl : b ≠ l) : Calls Tryd.prog 34 #[.pointer (some ⟨d, 0, none⟩), .int .i64 (i : Int), .slice (some ⟨b, off, none⟩) 16 c] w fun e w' => e = .returned (.int .i64 0) ∧ DkP w' d l (S.put i zs) ∧ Only (at2 d l) w w' := by
  have K := who_any d l S w D
  rw [hg] at K
  simp only [Bool.false_eq_true, if_false] at K
  go_enter Tryd.func34, Tryd.ntmps34
  go_wp2_with (first
    | (go_at_call 50; refine K.mono ?_; rintro e w1 ⟨rfl, b1⟩)
    | (go_at_call 73; refine (livewrite_ok d l S i b off c zs _ (D.below b1) hi h0 (R.below b1) hbd hbl).mono ?_; rintro e w2 ⟨rfl, D2, o2⟩))
  go_ret
  exact ⟨rfl, D2, (Only.of_below b1).trans o2⟩
/-- A new disk. -/
def newS (n : Nat) : DS := ⟨false, -1, false, n, List.replicate (16 * n) 0, 0⟩
theorem newS_ok {n : Nat} (h1 : 1 ≤ n) (h2 : n ≤ 64) : (newS n).Ok := ⟨by simp [newS], h1, h2, by intro c hc; have := List.eq_of_mem_replicate hc; omega, by simp [newS], by simp [newS], by simp [newS], by simp [newS]⟩
set_option maxHeartbeats 1000000 in
theorem new_no (x : Int) (w : World) (h : x < 1 ∨ 64 < x) : Calls Tryd.prog 18 #[.int .i64 x] w fun e w' => e = .returned (.pointer none) ∧ w' = w := by
  by_cases h1 : x < 1
  · go_enter Tryd.func18, Tryd.ntmps18
    go_wp2
    go_ret
    exact ⟨rfl, rfl⟩
  · have h2 : 64 < x := by omega
    go_enter Tryd.func18, Tryd.ntmps18
    go_wp2
    go_ret
    exact ⟨rfl, rfl⟩
theorem made16 (n : Nat) : madeCells (List.replicate 16 (Value.int .u8 0)).toArray n = ((List.replicate n (0 : Int)).map bv).toArray := by
  apply Array.ext
  · simp [size_madeCells]
  · intro k h1 h2
    have h3 : k % 16 < 16 := Nat.mod_lt _ (by omega)
    unfold madeCells
    simp only [Array.getElem_map, Array.getElem_range, List.size_toArray, List.length_replicate]
    rw [getElem!_pos _ _ (by simpa using h3)]
    simp only [List.getElem_toArray, List.getElem_replicate, List.getElem_map]
theorem made1 (n : Nat) : madeCells #[Value.int .u8 0] n = ((List.replicate n (0 : Int)).map bv).toArray := by
  apply Array.ext
  · simp [size_madeCells]
  · intro k h1 h2
    simp [madeCells]
    rw [Nat.mod_one]
    rfl
theorem make49 (n : Nat) (h : n ≤ 64) (w : World) : (Instr.makeSlice 74 (.int .i64 (n : Int)) (.int .i64 (n : Int))).run Tryd.prog w = .ok (.slice (some ⟨w.heap.size, 0, none⟩) n n) (w.alloc (.cells ((List.replicate (16 * n) (0 : Int)).map bv).toArray 77)) := by
  obtain ⟨i0, hi, hz0, hz1, hz2⟩ := info_parts zero58
  have := run_make (P := Tryd.prog) w 74 77 i0 _ Tryd.underlying74 hi hz0 .i64 .i64 n n (by omega) (Int.le_refl _) (by rw [hz2]; omega) (by omega)
  rw [hz1] at this
  simp only [Int.toNat_natCast, Value.cells] at this
  rw [this, made16, Nat.mul_comm]
theorem make28 (n : Nat) (h : n ≤ 1024) (w : World) : (Instr.makeSlice 22 (.int .i64 (n : Int)) (.int .i64 (n : Int))).run Tryd.prog w = .ok (.slice (some ⟨w.heap.size, 0, none⟩) n n) (w.alloc (.cells ((List.replicate n (0 : Int)).map bv).toArray 5)) := by
  obtain ⟨i0, hi, hz0, hz1, hz2⟩ := info_parts info5
  have := run_make (P := Tryd.prog) w 22 5 i0 _ Tryd.underlying22 hi hz0 .i64 .i64 n n (by omega) (Int.le_refl _) (by rw [hz2]; omega) (by omega)
  rw [hz1] at this
  simp only [Int.toNat_natCast, Value.cells, Nat.mul_one] at this
  rw [this]
  congr 3
  exact made1 n
set_option maxRecDepth 100000 in
set_option maxHeartbeats 1000000 in
theorem new_ok (n : Nat) (w : World) (h1 : 1 ≤ n) (h2 : n ≤ 64) : Calls Tryd.prog 18 #[.int .i64 (n : Int)] w fun e w' => ∃ d, e = .returned (.pointer (some ⟨d, 0, none⟩)) ∧ w.heap.size ≤ d ∧ (∃ l, w.heap.size ≤ l ∧ DkP w' d l (newS n) ∧ Below w.heap.size w w') := by
  have q1 : ¬ (n : Int) < 1 := by omega
  have q2 : ¬ (64 : Int) < (n : Int) := by omega
  have hmk := make49 n h2
  obtain ⟨Z, hZ⟩ : ∃ Z, ((List.replicate (16 * n) (0 : Int)).map bv).toArray = Z := ⟨_, rfl⟩
  rw [hZ] at hmk
  go_enter Tryd.func18, Tryd.ntmps18
  go_wp2
  go_ret
  refine ⟨w.heap.size + 1, rfl, by omega, w.heap.size, Nat.le_refl _, ⟨?_, ?_, by omega, newS_ok h1 h2⟩, ((Below.refl _ _).alloc (Nat.le_refl _) _).alloc (by simp) _⟩
  · have := World.alloc_heap_new (w.alloc (.cells Z 77)) (.cells #[.bool false, .int .i64 (-1), .bool false, .slice (some ⟨w.heap.size, 0, none⟩) n n, .int .i64 0] 76)
    rw [World.size_alloc] at this
    exact this
  · rw [Below.heap_alloc _ _ _ (by simp), World.alloc_heap_new]
    rw [← hZ]
    rfl
/-- All bytes: the sectors one behind the other. -/
theorem image_step (bs : List Int) (i : Nat) (h : 16 * i + 16 ≤ bs.length) : bs.take (16 * (i + 1)) = bs.take (16 * i) ++ sec bs i := by
  unfold sec
  rw [show 16 * (i + 1) = 16 * i + 16 by omega, List.take_add]
/-- Bytes of one's own. -/
def Own (base : Nat) (w : World) (v : Value) (zs : List Int) : Prop := w.ownsRow base 5 1 v zs.length (zs.map bv)
theorem Own.nil (base : Nat) (w : World) : Own base w (.slice none 0 0) [] := World.ownsRow_nil w base 5 1
theorem Own.lt {base : Nat} {w : World} {v : Value} {zs : List Int} (h : Own base w v zs) : ∀ k, v.ownBlock = some k → base ≤ k := fun k hk => (World.ownsRow.lt h k hk).1
theorem Own.of_block {base : Nat} {w w' : World} {v : Value} {zs : List Int} (h : Own base w v zs) (hb : ∀ g, v.ownBlock = some g → w'.heap[g]? = w.heap[g]?) : Own base w' v zs := by
  refine ⟨h.1, ?_⟩
  rcases h.2 with hn | ⟨g, cap, cur, rfl, hg, hh, r⟩
  · exact .inl hn
  · exact .inr ⟨g, cap, cur, rfl, hg, (hb g rfl).trans hh, r⟩
theorem Own.below {base : Nat} {w w' : World} {v : Value} {zs : List Int} (h : Own base w v zs) (hb : Below w.heap.size w w') : Own base w' v zs :=
  h.of_block fun g hg => hb.block g (World.ownsRow.lt h g hg).2
theorem Own.row {base : Nat} {w : World} {v : Value} {zs : List Int} (h : Own base w v zs) (hb : Byt zs) : ∃ a n cap, v = .slice a n cap ∧ Row .u8 w a n cap zs ∧ n = zs.length ∧ cap ≤ 9223372036854775807 ∧ (∀ b o, a = some ⟨b, o, none⟩ → base ≤ b ∧ o = 0 ∧ ∃ cs, w.heap[b]? = some (.cells cs 5 (0, 0)) ∧ cs.toList.take n = zs.map bv) := by
  have h0 : w.ownsRow base 5 1 v zs.length (zs.map bv) := h
  rcases h0.2 with ⟨rfl, hn⟩ | ⟨g, cap, cur, rfl, hg, hh, hn, hc, hcs, ht⟩
  · have e : zs = [] := by simpa using hn
    subst e
    exact ⟨none, 0, 0, rfl, row_nil _ _, rfl, by omega, fun b o e => by cases e⟩
  · refine ⟨_, _, _, rfl, ⟨rfl, hn, fun h => (by cases h), fun z hz => u8_wf (hb z hz).1 (hb z hz).2, .inr ⟨g, 0, rfl, (Array.getElem?_eq_some_iff.1 hh).1, fun k hk => ?_⟩⟩, rfl, by unfold maxLen at hc; omega, fun b o e => by cases e; exact ⟨hg, rfl, cur, hh, by simpa using ht⟩⟩
    rw [Nat.zero_add, World.ownsRow.cellAt h0 k (by omega)]
    simp [List.getD, List.getElem?_eq_getElem (show k < zs.length by omega)]
theorem Own.at {base base' : Nat} {w : World} {v : Value} {zs : List Int} (h : Own base w v zs) (hb : base' ≤ base) : Own base' w v zs := by
  refine ⟨h.1, ?_⟩
  rcases h.2 with hn | ⟨g, cap, cur, rfl, hg, r⟩
  · exact .inl hn
  · exact .inr ⟨g, cap, cur, rfl, by omega, r⟩
theorem wpList_append_row (w : World) {ops : Array Oper} {rest : List Oper} {o : Oper} {a : Act} {Q : Exit → Act → World → Prop} (hg : o.guard = none)
    (s x : Operand) (hop : o.op = Op.call { callee := Callee.builtin Builtin.append, args := #[s, x], argTypes := #[22, 22] })
    (base : Nat) (v : Value) (zs : List Int) (hs : a.eval s = v) (hown : Own base w v zs) (ao : Option Addr) (m c : Nat) (ys : List Int) (hx : a.eval x = .slice ao m c) (R : Row .u8 w ao m c ys)
    (hb : base ≤ w.heap.size) (hl : zs.length + m ≤ 140737488355328)
    (hK : ∀ v' w', Own base w' v' (zs ++ ys) → Below base w w' → wpList Tryd.prog ops Q rest (a.put o.dst v') w') : wpList Tryd.prog ops Q (o :: rest) a w := by
  obtain ⟨i0, hi, hz0, hz1, hz2⟩ := info_parts info5
  have hlz := R.size
  subst hlz
  cases ao with
  | none =>
    obtain ⟨e1, rfl⟩ := R.nil rfl
    have e : ys = [] := List.eq_nil_of_length_eq_zero e1
    subst e
    exact wpList_append_own_none hg s x 22 hop base 5 i0 1 Tryd.underlying22 hi v zs.length (zs.map bv) hs hown hx (hK v w (by simpa using hown) (Below.refl _ _))
  | some ad =>
    refine wpList_append_own w hg s x 22 hop base 5 i0 (.int .u8 0) 1 1 Tryd.underlying22 hi hz0 hz1 hz2 rfl (by decide) v zs.length (zs.map bv) hs hown ad ys.length c (ys.map bv) hx (by simp) R.cells (bv_one _) (by unfold maxLen; omega) (by omega) hb ?_
    intro v' w' ho hgr _
    exact hK v' w' (by simpa [Own] using ho) ((Below.refl _ _).grown hgr hb hown.lt)
set_option maxRecDepth 100000 in
set_option maxHeartbeats 2000000 in
theorem image_any (d l : Nat) (S : DS) (w : World) (D : DkP w d l S) : Calls Tryd.prog 13 #[.pointer (some ⟨d, 0, none⟩)] w fun e w' => ∃ v, e = .returned v ∧ Own w.heap.size w' v S.bs ∧ Below w.heap.size w w' := by
  obtain ⟨i0, hi, hz0, hz1, hz2⟩ := info_parts info5
  have c3 := D.cel.c3
  have hn := D.ok.hi
  have hlen := D.ok.len
  have HD : Hid (DkP w d l S) := D
  go_enter Tryd.func13, Tryd.ntmps13
  go_wp2_with (first
    | (go_at_call 36; refine (given_any d l S _ D).mono ?_; rintro e w1 ⟨rfl, rfl⟩)
    | (at_make; refine wpList_make_own _ rfl _ _ 22 rfl _ 5 i0 (.int .u8 0) 1 Tryd.underlying22 hi hz0 hz1 .i64 .i64 _ (S.n * 16) rfl rfl (by omega) (by rw [hz2]; omega) (by unfold maxLen; omega) (Nat.le_refl _) ?_; intro w2 own2 g2; have B2 := (Below.refl w1.heap.size w1).grown g2 (Nat.le_refl _) (fun k hk => by cases hk); have c32 := (D.below B2).cel.c3))
  have hok := D.ok
  go_loopg [3, 21] S.n (fun g v3 v21 wr => ∃ i : Nat, v21 = .int .i64 (i : Int) ∧ i + g = S.n ∧ Hid (Own w1.heap.size wr v3 (S.bs.take (16 * i))) ∧ Hid (Below w1.heap.size w1 wr))
  case atStart => exact ⟨0, rfl, by omega, by show Own _ _ _ _; simpa [Own] using own2, B2⟩
  case round =>
    obtain ⟨i, rfl, hg, HO, HB⟩ := hrel
    have B0 := HB.out
    have Dr := HD.out.below B0
    by_cases hi' : i < S.n
    · have hiI : (i : Int) < (S.n : Int) := by omega
      have hsl := sec_len hok hi'
      have hst := image_step S.bs i (by omega)
      have hfew : (S.bs.take (16 * i)).length + 16 ≤ 140737488355328 := by rw [List.length_take]; omega
      have hsb := sec_byt hok i
      go_wp2_with (first
        | ((with_reducible show wpList _ _ _ (Oper.mk _ (Op.load 77 _) _ _ _ _ :: _) _ _); refine wpList_load_mid rfl 77 _ rfl l (i * 16) rfl ((sec S.bs i).map bv) _ (sec_at hok hi' Dr.lst) Tryd.underlying77 rfl (by rw [List.length_map, hsl]; kernel_rfl) ?_)
        | ((with_reducible show wpList _ _ _ (Oper.mk _ (Op.store 77 _ _) _ _ _ _ :: _) _ _); refine wpList_store58 rfl _ _ rfl (sec S.bs i) hsl _ rfl rfl rfl ?_; have B3 : Below wr.heap.size wr (wr.alloc (.cells ((sec S.bs i).map bv).toArray 77)) := (Below.refl _ _).alloc (Nat.le_refl _) _; have R3 := row_of (World.alloc_heap_new wr (.cells ((sec S.bs i).map bv).toArray 77)) hsb 16 16 hsl.symm (Nat.le_refl _); obtain ⟨w3, hw3⟩ : ∃ w3, wr.alloc (.cells ((sec S.bs i).map bv).toArray 77) = w3 := ⟨_, rfl⟩; rw [hw3] at B3 R3 ⊢)
        | ((with_reducible show wpList _ _ _ (Oper.mk _ (Op.call { callee := Callee.builtin Builtin.append, args := _, argTypes := _ }) _ _ _ _ :: _) _ _); refine wpList_append_row _ rfl _ _ rfl w1.heap.size u3 (S.bs.take (16 * i)) rfl (HO.out.below B3) (some ⟨wr.heap.size, 0, none⟩) 16 16 (sec S.bs i) rfl R3 (by have := B0.size; have := B3.size; omega) hfew ?_; intro v5 w5 O5 b5; rw [← hst] at O5; have B5 := (B0.trans (B3.mono B0.size)).trans b5))
      go_roundg (gk - 1)
      case measure => omega
      case rel => exact ⟨i + 1, by go_num, by omega, by exact (show Hid _ from O5), B5⟩
    · obtain rfl : i = S.n := by omega
      have hO := HO.out
      rw [List.take_of_length_le (by omega)] at hO
      go_wp2
      go_ret
      exact ⟨_, rfl, hO, B0⟩
end Go.Proofs.YtaacggbfoejjhaaDoor.D
