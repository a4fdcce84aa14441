/-
  Package plan: a random network: its pairs, as they are handed out.
-/
import Derived.Test.YtpdmpekkmblgmaaGrMf
import Derived.Test.YtpdmpekkmblgmaaP7c
import Derived.Test.YtpdmpekkmblgmaaF1
import Derived.Test.YtpdmpekkmblgmaaPB
namespace Go.Proofs.Ytpdmpekkmblgmaa
open Go.ChangeShapes Go.WideShapes Go.ChangeAt Go.RowKit Go.Maps Go.Shelf
set_option linter.unusedVariables false
set_option linter.unusedSimpArgs false
attribute [local go_sem] Oper.semAt_some

set_option maxRecDepth 100000 in
set_option maxHeartbeats 1000000 in
theorem index_any (a : Option Addr) (k cap : Nat) (l : List LK) (x : LK) (w : World) (hr : RdL w a k cap l) : Calls Try.prog 86 #[.slice a k cap, .agg #[.int .i64 x.1, .int .i64 x.2]] w fun e w' => ∃ j : Int, e = .returned (.int .i64 j) ∧ (0 ≤ j ↔ x ∈ l) ∧ Below w.heap.size w w' := by
  have HN : Hid (k ≤ 140737488355328) := hr.small
  have HL : Hid (l.length = k) := hr.size
  go_enter Try.func86, Try.ntmps86
  go_wp2
  have X6 := World.alloc_heap_new w (.cells #[.int .i64 x.1, .int .i64 x.2] 49)
  have B1 := (Below.refl _ w).alloc (Nat.le_refl _) (.cells #[.int .i64 x.1, .int .i64 x.2] 49)
  obtain ⟨w1, hw1⟩ : ∃ X, w.alloc (.cells #[.int .i64 x.1, .int .i64 x.2] 49) = X := ⟨_, rfl⟩
  rw [hw1] at X6 B1 ⊢
  clear hw1
  go_loopg [8] k (fun gk v8 wr => ∃ i : Nat, v8 = .int .i64 (i : Int) ∧ i + gk = k ∧ Below w1.heap.size w1 wr ∧ x ∉ l.take i)
  case atStart => exact ⟨0, by first | rfl | go_num, by omega, Below.refl _ _, by simp⟩
  case round =>
    obtain ⟨i, rfl, hg, B, ht⟩ := hrel
    have HT : Hid (x ∉ l.take i) := ht
    clear ht
    have B0 := B1.trans (B.mono B1.size)
    by_cases hi : i < k
    case neg =>
      have HE : Hid ((0 : Int) ≤ -1 ↔ x ∈ l) := by
        have := HT.out
        rw [List.take_of_length_le (by have := HL.out; omega)] at this
        exact ⟨fun h => by omega, fun h => absurd h this⟩
      have hin : ¬ (i : Int) < (k : Int) := by omega
      go_wp2
      go_ret
      exact ⟨_, rfl, HE.out, B0⟩
    case pos =>
      have hiI : (i : Int) < (k : Int) := by omega
      have hin : IntKind.i64.wrap ((i : Int) + 1) = (i : Int) + 1 := by rw [IntKind.wrap_i64]; have := HN.out; omega
      obtain ⟨b, off, rfl, hb, hd, hra⟩ := (hr.below B0).at i hi
      obtain ⟨p, hp⟩ : ∃ x : LK, l.getD i LK.z = x := ⟨_, rfl⟩
      rw [hp] at hra hd
      clear hp
      have BB := Below.refl wr.heap.size wr
      cases heq : eqL x p with
      | true =>
        have HE : Hid (0 ≤ (i : Int) ↔ x ∈ l) := ⟨fun _ => by rw [(eqL_iff x p).1 heq]; exact List.mem_of_getElem? hd, fun _ => by omega⟩
        clear hd
        go_wp2
        refine wp_region_qw (fun X => Below wr.heap.size wr X) (by kernel_rfl) (by kernel_rfl) (Below.refl _ _).drew ?_
        repeat (first
          | (refine QW.skip (by rfl) ?_; simp only [Act.put, List.setIfInBounds_toArray, List.set_cons_zero, List.set_cons_succ])
          | (refine QW.val (LK.val p) (by rfl) (fun X hX => exec_load49 rfl b (off + i * 2) p rfl (range_later hra hb (BB.trans (hX.mono BB.size)))) ?_; simp only [Act.put, List.setIfInBounds_toArray, List.set_cons_zero, List.set_cons_succ])
          | (refine QW.val (LK.val x) (by rfl) (fun X hX => exec_load49 rfl w.heap.size 0 x rfl (range_rowL (((B.trans (hX.mono B.size)).block _ (row_lt X6)).trans X6))) ?_; simp only [Act.put, List.setIfInBounds_toArray, List.set_cons_zero, List.set_cons_succ])
          | (refine QW.val (.bool (eqL x p)) (by rfl) (fun X _ => exec_eql49 rfl x p rfl rfl X) ?_; simp only [Act.put, List.setIfInBounds_toArray, List.set_cons_zero, List.set_cons_succ]; rw [heq])
          | (refine QW.op (by rfl) ?_; apply Exists.intro; refine ⟨fun X hX => ?_, ?_⟩; (have s1 := hiI; go_simp <;> first | exact rfl); simp only [Act.put, List.setIfInBounds_toArray, List.set_cons_zero, List.set_cons_succ]))
        refine QW.nil ?_
        intro X hS
        go_wp2
        go_ret
        exact ⟨_, rfl, HE.out, B0.trans (hS.mono B0.size)⟩
      | false =>
        have HE : Hid (x ∉ l.take (i + 1)) := take_no HT.out hd (fun e => by rw [(eqL_iff x p).2 e.symm] at heq; cases heq)
        clear hd
        go_wp2
        refine wp_region_qw (fun X => Below wr.heap.size wr X) (by kernel_rfl) (by kernel_rfl) (Below.refl _ _).drew ?_
        repeat (first
          | (refine QW.skip (by rfl) ?_; simp only [Act.put, List.setIfInBounds_toArray, List.set_cons_zero, List.set_cons_succ])
          | (refine QW.val (LK.val p) (by rfl) (fun X hX => exec_load49 rfl b (off + i * 2) p rfl (range_later hra hb (BB.trans (hX.mono BB.size)))) ?_; simp only [Act.put, List.setIfInBounds_toArray, List.set_cons_zero, List.set_cons_succ])
          | (refine QW.val (LK.val x) (by rfl) (fun X hX => exec_load49 rfl w.heap.size 0 x rfl (range_rowL (((B.trans (hX.mono B.size)).block _ (row_lt X6)).trans X6))) ?_; simp only [Act.put, List.setIfInBounds_toArray, List.set_cons_zero, List.set_cons_succ])
          | (refine QW.val (.bool (eqL x p)) (by rfl) (fun X _ => exec_eql49 rfl x p rfl rfl X) ?_; simp only [Act.put, List.setIfInBounds_toArray, List.set_cons_zero, List.set_cons_succ]; rw [heq])
          | (refine QW.op (by rfl) ?_; apply Exists.intro; refine ⟨fun X hX => ?_, ?_⟩; (have s1 := hiI; go_simp <;> first | exact rfl); simp only [Act.put, List.setIfInBounds_toArray, List.set_cons_zero, List.set_cons_succ]))
        refine QW.nil ?_
        intro X hS
        go_wp2
        go_roundg (gk - 1)
        case measure => omega
        case rel => exact ⟨i + 1, by first | rfl | go_num, by omega, B.trans (hS.mono B.size), HE.out⟩
set_option maxRecDepth 100000 in
set_option maxHeartbeats 1000000 in
theorem contains_any (a : Option Addr) (k cap : Nat) (l : List LK) (x : LK) (w : World) (hr : RdL w a k cap l) : Calls Try.prog 75 #[.slice a k cap, .agg #[.int .i64 x.1, .int .i64 x.2]] w fun e w' => e = .returned (.bool (decide (x ∈ l))) ∧ Below w.heap.size w w' := by
  have B1 := (Below.refl _ w).alloc (Nat.le_refl _) (.cells #[.int .i64 x.1, .int .i64 x.2] 49)
  have KI := index_any a k cap l x (w.alloc (.cells #[.int .i64 x.1, .int .i64 x.2] 49)) (hr.below B1)
  clear hr
  by_cases hm : x ∈ l
  case pos =>
    have HM : Hid (x ∈ l) := hm
    clear hm
    go_enter Try.func75, Try.ntmps75
    go_wp2_with (go_at_call 86; refine KI.mono ?_; clear KI; rintro e w1 ⟨j, rfl, hj, b1⟩; have hj1 := hj.2 HM.out; clear hj)
    go_ret
    exact ⟨ret_bool (decide_eq_true HM.out).symm, B1.trans (b1.mono B1.size)⟩
  case neg =>
    have HM : Hid (x ∉ l) := hm
    clear hm
    go_enter Try.func75, Try.ntmps75
    go_wp2_with (go_at_call 86; refine KI.mono ?_; clear KI; rintro e w1 ⟨j, rfl, hj, b1⟩; have hj1 : ¬ 0 ≤ j := fun h => HM.out (hj.1 h); have hj2 : decide (0 ≤ j) = false := decide_eq_false hj1; clear hj)
    go_ret
    exact ⟨ret_bool (by first | rw [decide_eq_false HM.out, hj2] | (rw [decide_eq_false HM.out])), B1.trans (b1.mono B1.size)⟩
set_option maxRecDepth 100000 in
set_option maxHeartbeats 1000000 in
theorem room_any (a : Option Addr) (k cap : Nat) (l : List LK) (p q : Int) (w : World) (hr : RdL w a k cap l) (ha : Apart l) : Calls Try.prog 67 #[.slice a k cap, .agg #[.int .i64 p, .int .i64 q]] w fun e w' => e = .returned (.bool (roomB l (p, q))) ∧ Below w.heap.size w w' := by
  have X6 := World.alloc_heap_new w (.cells #[.int .i64 p, .int .i64 q] 49)
  have B1 := (Below.refl _ w).alloc (Nat.le_refl _) (.cells #[.int .i64 p, .int .i64 q] 49)
  have kc0 : ∀ X, Below (w.alloc (.cells #[.int .i64 p, .int .i64 q] 49)).heap.size (w.alloc (.cells #[.int .i64 p, .int .i64 q] 49)) X → X.cell? ⟨w.heap.size, 0, none⟩ = some (.int .i64 p) := fun X h => row_cell ((h.block _ (row_lt X6)).trans X6) 0 _ rfl
  have kc1 : ∀ X, Below (w.alloc (.cells #[.int .i64 p, .int .i64 q] 49)).heap.size (w.alloc (.cells #[.int .i64 p, .int .i64 q] 49)) X → X.cell? ⟨w.heap.size, 1, none⟩ = some (.int .i64 q) := fun X h => row_cell ((h.block _ (row_lt X6)).trans X6) 1 _ rfl
  clear X6
  by_cases hpq : p = q
  case pos =>
    have HB : Hid (roomB l (p, q) = false) := by show _ = _; unfold roomB; simp [hpq]
    have hpb : (p != q) = false := by simp [hpq]
    clear hpq
    go_enter Try.func67, Try.ntmps67
    go_wp2
    go_ret
    exact ⟨ret_bool (by rw [HB.out]), B1⟩
  case neg =>
    have hpb : (p != q) = true := by simpa using hpq
    by_cases hm : (p, q) ∈ l
    case pos =>
      have HM : Hid (decide ((p, q) ∈ l) = true) := decide_eq_true hm
      have HB : Hid (roomB l (p, q) = false) := by show _ = _; unfold roomB; simp [hm]
      go_enter Try.func67, Try.ntmps67
      go_wp2_with (go_at_call 75; refine (contains_any a k cap l (p, q) _ (hr.below B1)).mono ?_; rintro e w2 ⟨rfl, b2⟩; rw [HM.out]; have B2 := B1.trans (b2.mono B1.size); have K0 := kc0 _ b2; have K1 := kc1 _ b2)
      go_ret
      exact ⟨ret_bool (by rw [HB.out]), B2⟩
    case neg =>
      have HM : Hid (decide ((p, q) ∈ l) = false) := decide_eq_false hm
      obtain ⟨dp, hdp⟩ : ∃ d, dg l p = d := ⟨_, rfl⟩
      obtain ⟨dq, hdq⟩ : ∃ d, dg l q = d := ⟨_, rfl⟩
      have HD : Hid (dg l p = dp ∧ dg l q = dq) := ⟨hdp, hdq⟩
      by_cases h1 : dp < 6
      case neg =>
        have h1I : ¬ (dp : Int) < 6 := by omega
        have h1b : decide ((dp : Int) < 6) = false := decide_eq_false h1I
        have HB : Hid (roomB l (p, q) = false) := by show _ = _; unfold roomB; simp only [hdp]; simp [h1]
        clear hdp hdq
        go_enter Try.func67, Try.ntmps67
        go_wp2_with (first | (go_at_call 16; refine (degree_any a k cap l p _ (hr.below B2) ha).mono ?_; rintro e w3 ⟨rfl, b3⟩; rw [HD.out.1]; have B3 := B2.trans (b3.mono B2.size); have K2 := kc1 _ (b2.trans (b3.mono b2.size))) | (go_at_call 75; refine (contains_any a k cap l (p, q) _ (hr.below B1)).mono ?_; rintro e w2 ⟨rfl, b2⟩; rw [HM.out]; have B2 := B1.trans (b2.mono B1.size); have K0 := kc0 _ b2; have K1 := kc1 _ b2))
        go_ret
        exact ⟨ret_bool (by rw [HB.out]), B3⟩
      case pos =>
        have h1I : (dp : Int) < 6 := by omega
        by_cases h2 : dq < 6
        case neg =>
          have h2I : ¬ (dq : Int) < 6 := by omega
          have h2b : decide ((dq : Int) < 6) = false := decide_eq_false h2I
          have HB : Hid (roomB l (p, q) = false) := by show _ = _; unfold roomB; simp only [hdq]; simp [h2]
          clear hdp hdq
          go_enter Try.func67, Try.ntmps67
          go_wp2_with (first | (go_at_call 16; refine (degree_any a k cap l q _ (hr.below B3) ha).mono ?_; rintro e w4 ⟨rfl, b4⟩; rw [HD.out.2]; have B4 := B3.trans (b4.mono B3.size)) | (go_at_call 16; refine (degree_any a k cap l p _ (hr.below B2) ha).mono ?_; rintro e w3 ⟨rfl, b3⟩; rw [HD.out.1]; have B3 := B2.trans (b3.mono B2.size); have K2 := kc1 _ (b2.trans (b3.mono b2.size))) | (go_at_call 75; refine (contains_any a k cap l (p, q) _ (hr.below B1)).mono ?_; rintro e w2 ⟨rfl, b2⟩; rw [HM.out]; have B2 := B1.trans (b2.mono B1.size); have K0 := kc0 _ b2; have K1 := kc1 _ b2))
          go_ret
          exact ⟨ret_bool (by rw [HB.out]), B4⟩
        case pos =>
          have h2I : (dq : Int) < 6 := by omega
          have HB : Hid (roomB l (p, q) = true) := by show _ = _; unfold roomB; simp only [hdp, hdq]; simp [h1, h2, hm, hpq]
          clear hdp hdq
          go_enter Try.func67, Try.ntmps67
          go_wp2_with (first | (go_at_call 16; refine (degree_any a k cap l q _ (hr.below B3) ha).mono ?_; rintro e w4 ⟨rfl, b4⟩; rw [HD.out.2]; have B4 := B3.trans (b4.mono B3.size)) | (go_at_call 16; refine (degree_any a k cap l p _ (hr.below B2) ha).mono ?_; rintro e w3 ⟨rfl, b3⟩; rw [HD.out.1]; have B3 := B2.trans (b3.mono B2.size); have K2 := kc1 _ (b2.trans (b3.mono b2.size))) | (go_at_call 75; refine (contains_any a k cap l (p, q) _ (hr.below B1)).mono ?_; rintro e w2 ⟨rfl, b2⟩; rw [HM.out]; have B2 := B1.trans (b2.mono B1.size); have K0 := kc0 _ b2; have K1 := kc1 _ b2))
          go_ret
          exact ⟨ret_bool (by rw [HB.out]), B4⟩
end Go.Proofs.Ytpdmpekkmblgmaa

namespace Go.Proofs.Ytpdmpekkmblgmaa
open Go.ChangeShapes Go.WideShapes Go.ChangeAt Go.RowKit Go.Maps Go.Shelf
set_option linter.unusedVariables false
set_option linter.unusedSimpArgs false
attribute [local go_sem] Oper.semAt_some

/-- J of what lies at m and above; a cell b0 with the yield; a cell b1 with a list of one's own, its block at n and above. -/
structure RQ (J : (Nat → Prop) → World → Prop) (m n b0 b1 : Nat) (y v : Value) (xs : List LK) (Co : Nat → Prop) (A : World) : Prop where
  j : J Co A
  co : ∀ c, Co c → m ≤ c ∧ c < A.heap.size
  old : ∀ b, m ≤ b → b < n → ¬ Co b
  yld : One A b0 y
  lst : One A b1 v
  own : A.ownsRow n 49 2 v xs.length (csL xs)
  apart : ∀ g, v.ownBlock = some g → ¬ Co g
/-- The blocks that it may write. -/
def CC (n : Nat) (Co : Nat → Prop) (v : Value) : Nat → Prop := fun b => (Co b ∧ n ≤ b) ∨ v.ownBlock = some b
theorem RQ.mine {J : (Nat → Prop) → World → Prop} {m n b0 b1 : Nat} {y v : Value} {xs : List LK} {Co : Nat → Prop} {A : World} (h : RQ J m n b0 b1 y v xs Co A) (b : Nat) (hb : CC n Co v b) : n ≤ b ∧ b < A.heap.size := by
  rcases hb with ⟨h1, h2⟩ | h1
  · exact ⟨h2, (h.co b h1).2⟩
  · exact h.own.lt b h1
theorem RQ.same {J : (Nat → Prop) → World → Prop} {m n b0 b1 : Nat} {y v : Value} {xs : List LK} {Co : Nat → Prop} {A B : World} (h : RQ J m n b0 b1 y v xs Co A) (hm : m ≤ n) (h0 : b0 < n) (h1 : b1 < n) (hJ : ∀ C A B, J C A → Same m C A B → J C B) (s : Same n (CC n Co v) A B) : RQ J m n b0 b1 y v xs Co B where
  j := hJ _ _ _ h.j ⟨s.os, s.tape, s.output, s.size, fun b hb hc => s.block b hb (by
    rcases hc with hc | hc
    · exact .inl (by omega)
    · by_cases hn : b < n
      · exact .inl hn
      · exact .inr (.inl ⟨hc, by omega⟩))⟩
  co := fun c hc => ⟨(h.co c hc).1, Nat.lt_of_lt_of_le (h.co c hc).2 s.size⟩
  old := h.old
  yld := h.yld.same s h0
  lst := h.lst.same s h1
  own := owns_of_block h.own fun g hg => s.block g (h.own.lt g hg).2 (.inr (.inr hg))
  apart := h.apart
/-- The append done and stored back. -/
theorem RQ.grow {J : (Nat → Prop) → World → Prop} {m n b0 b1 : Nat} {y v : Value} {xs : List LK} {Co : Nat → Prop} {A W1 : World} {p : LK} {g cap : Nat} {tmp : Obj} (h : RQ J m n b0 b1 y v xs Co A) (hm : m ≤ n) (h0 : b0 < n) (h1 : b1 < n) (h01 : b0 ≠ b1) (hn : n ≤ A.heap.size) (hJ : ∀ C A B, J C A → Same m C A B → J C B) (hb : m ≤ b1)
    (r1 : W1.ownsRow n 49 2 (.slice (some ⟨g, 0, none⟩) (xs.length + 1) cap) (xs.length + 1) (csL xs ++ LK.cells p)) (r2 : (A.alloc tmp).grownBy W1 v.ownBlock) (r3 : v.ownBlock = some g ∨ g = (A.alloc tmp).heap.size) :
    One W1 b1 v ∧ RQ J m n b0 b1 y (.slice (some ⟨g, 0, none⟩) (xs.length + 1) cap) (xs ++ [p]) Co (W1.setCell ⟨b1, 0, none⟩ (.slice (some ⟨g, 0, none⟩) (xs.length + 1) cap)) ∧
      Turn n (CC n Co v) (CC n Co (.slice (some ⟨g, 0, none⟩) (xs.length + 1) cap)) A (W1.setCell ⟨b1, 0, none⟩ (.slice (some ⟨g, 0, none⟩) (xs.length + 1) cap)) ∧ b1 ≠ g ∧ b0 ≠ g ∧ ∀ b, b < A.heap.size → b ≠ b1 → some b ≠ v.ownBlock → (W1.setCell ⟨b1, 0, none⟩ (.slice (some ⟨g, 0, none⟩) (xs.length + 1) cap)).heap[b]? = A.heap[b]? := by
  have hsz : A.heap.size + 1 ≤ W1.heap.size := by have := r2.size; simpa using this
  have hge : n ≤ g := (r1.lt g rfl).1
  have hgs : g < W1.heap.size := (r1.lt g rfl).2
  have hbv : ∀ b, b < n → some b ≠ v.ownBlock := fun b hb e => by have := (h.own.lt b e.symm).1; omega
  have o1 : One W1 b1 v := h.lst.of_block ((r2.block b1 (by have := h.lst.2.2; simp; omega) (hbv b1 h1)).trans (Below.heap_alloc _ _ _ h.lst.2.2)) (by omega)
  have hkeep : ∀ b, b < A.heap.size → b ≠ b1 → some b ≠ v.ownBlock → (W1.setCell ⟨b1, 0, none⟩ (.slice (some ⟨g, 0, none⟩) (xs.length + 1) cap)).heap[b]? = A.heap[b]? := fun b h5 h6 h7 =>
    (Below.heap_setCell _ _ _ _ (by show b ≠ b1; exact h6)).trans ((r2.block b (by simp; omega) h7).trans (Below.heap_alloc _ _ _ h5))
  have hco : ∀ c, Co c → c ≠ b1 ∧ some c ≠ v.ownBlock := fun c hc => ⟨fun e => h.old b1 hb h1 (e ▸ hc), fun e => h.apart c e.symm hc⟩
  refine ⟨o1, ⟨?_, ?_, h.old, ?_, o1.set _, ?_, ?_⟩, ⟨?_, ?_, ?_⟩, by omega, by omega, hkeep⟩
  · -- J
    refine hJ _ _ _ (hJ _ _ _ h.j (Same.alloc m Co A tmp)) ?_
    refine ⟨r2.os, r2.tape, r2.output, ?_, ?_⟩
    · simp [World.setCell]; have := r2.size; simpa using this
    · intro b h5 h6
      have hne : b ≠ b1 ∧ some b ≠ v.ownBlock := by
        rcases h6 with h6 | h6
        · exact ⟨by omega, fun e => by have := (h.own.lt b e.symm).1; omega⟩
        · exact hco b h6
      exact (Below.heap_setCell _ _ _ _ (by show b ≠ b1; exact hne.1)).trans (r2.block b h5 hne.2)
  · intro c hc
    exact ⟨(h.co c hc).1, by have := (h.co c hc).2; simp [World.setCell]; omega⟩
  · exact h.yld.of_block (hkeep b0 h.yld.2.2 h01 (hbv b0 h0)) (by simp [World.setCell]; omega)
  · have e : (xs ++ [p]).length = xs.length + 1 := by simp
    rw [e, csL_append]
    have e2 : csL [p] = LK.cells p := by simp [csL]
    rw [e2]
    exact owns_of_block r1 (fun g' hg' => Below.heap_setCell _ _ _ _ (by
      have : g = g' := by simpa [Value.ownBlock] using hg'
      show g' ≠ b1; omega))
  · intro g' hg'
    have e : g = g' := by simpa [Value.ownBlock] using hg'
    subst e
    rcases r3 with h5 | h5
    · exact h.apart g h5
    · intro hc
      have := (h.co g hc).2
      simp at h5
      omega
  · simp [World.setCell]; omega
  · intro b h5 h6 h7
    exact hkeep b h6 (by omega) (fun e => h7 (.inr e.symm))
  · intro b hb
    rcases hb with ⟨h5, h6⟩ | h5
    · exact ⟨h6, by have := (h.co b h5).2; simp [World.setCell]; omega, .inl (.inl ⟨h5, h6⟩)⟩
    · have e : g = b := by simpa [Value.ownBlock] using h5
      subst e
      refine ⟨hge, by simpa [World.setCell] using hgs, ?_⟩
      rcases r3 with h8 | h8
      · exact .inl (.inr h8)
      · exact .inr (by simp at h8; omega)
/-- A pair handed out. -/
theorem RQ.turn {J J' : (Nat → Prop) → World → Prop} {m n b0 b1 : Nat} {y v : Value} {xs : List LK} {Co Co' : Nat → Prop} {A B : World} (h : RQ J m n b0 b1 y v xs Co A) (hm0 : m ≤ b0) (hm1 : m ≤ b1) (h0 : b0 < n) (h1 : b1 < n) (hmn : m ≤ n) (hn : n ≤ A.heap.size) (hj : J' Co' B) (t : Turn m Co Co' A B) :
    RQ J' m n b0 b1 y v xs Co' B ∧ Turn n (CC n Co v) (CC n Co' v) A B := by
  have hnew : ∀ b, Co' b → b < A.heap.size → Co b := fun b hb hs => (t.mine b hb).2.2.elim id (fun h => by omega)
  refine ⟨⟨hj, fun c hc => ⟨(t.mine c hc).1, (t.mine c hc).2.1⟩, fun b h5 h6 h7 => h.old b h5 h6 (hnew b h7 (by omega)), h.yld.turn t hm0 (h.old b0 hm0 h0), h.lst.turn t hm1 (h.old b1 hm1 h1), ?_, ?_⟩, ⟨t.size, ?_, ?_⟩⟩
  · exact owns_of_block h.own fun g hg => t.keep g (by have := (h.own.lt g hg).1; omega) (h.own.lt g hg).2 (h.apart g hg)
  · intro g hg hc
    exact h.apart g hg (hnew g hc (h.own.lt g hg).2)
  · intro b h5 h6 h7
    exact t.keep b (by omega) h6 (fun hc => h7 (.inl ⟨hc, h5⟩))
  · intro b hb
    rcases hb with ⟨h5, h6⟩ | h5
    · refine ⟨h6, (t.mine b h5).2.1, ?_⟩
      rcases (t.mine b h5).2.2 with h7 | h7
      · exact .inl (.inl ⟨h7, h6⟩)
      · exact .inr h7
    · exact ⟨(h.own.lt b h5).1, Nat.lt_of_lt_of_le (h.own.lt b h5).2 t.size, .inl (.inr h5)⟩
end Go.Proofs.Ytpdmpekkmblgmaa

namespace Go.Proofs.Ytpdmpekkmblgmaa
open Go.ChangeShapes Go.WideShapes Go.ChangeAt Go.RowKit Go.Maps Go.Shelf
set_option linter.unusedVariables false
set_option linter.unusedSimpArgs false
attribute [local go_sem] Oper.semAt_some

theorem own_ne {A : World} {n q : Nat} {v : Value} {xs : List LK} {a b c d : Int} (h : A.ownsRow n 49 2 v xs.length (csL xs)) (hx : xs[0]? = some (a, b)) (hq : A.heap[q]? = some (.cells #[.int .i64 c, .int .i64 d] 49 (0, 0))) (hc : c ≠ a) : v.ownBlock ≠ some q := by
  intro e
  rcases h.2 with ⟨rfl, h0⟩ | ⟨g, cap, cur, rfl, hg, hh, hnc, hcc, hcs, ht⟩
  · cases e
  · have e1 : g = q := by simpa [Value.ownBlock] using e
    subst e1
    rw [hh] at hq
    have e2 : cur = #[.int .i64 c, .int .i64 d] := by simpa using hq
    have hl := (List.getElem?_eq_some_iff.1 hx).1
    obtain ⟨ys, hys⟩ : ∃ ys, xs = (a, b) :: ys := by
      cases xs with
      | nil => simp at hx
      | cons z zs => exact ⟨zs, by simp at hx; rw [hx]⟩
    rw [e2, hys] at ht
    simp [csL, LK.cells] at ht
    rw [show (ys.length + 1) * 2 = ys.length * 2 + 1 + 1 by omega] at ht
    simp only [List.take_succ_cons, List.cons.injEq] at ht
    exact hc (by have := ht.1; simpa using this)
theorem rpairs_pre {n : Int} {l : List LK} {x : Int} {i m : Nat} (h : i ≤ m) : ∃ r, (rpairs n l x m).1 = (rpairs n l x i).1 ++ r := by
  induction m with
  | zero => exact ⟨[], by rw [show i = 0 by omega]; simp⟩
  | succ m ih =>
    by_cases hb : i = m + 1
    · subst hb; exact ⟨[], by simp⟩
    · obtain ⟨r, hr⟩ := ih (by omega)
      show ∃ r', rput n (rpairs n l x m).1 (rpairs n l x m).2 = _
      unfold rput
      split
      · exact ⟨r ++ [rnp n (rpairs n l x m).2], by rw [hr, List.append_assoc]⟩
      · exact ⟨r, hr⟩
theorem rand_line {N : Nat} {k : Int} {i : Nat} {x : LK} (h : (lineL N)[i]? = some x) : (randL N k)[i]? = some x := by
  obtain ⟨r, hr⟩ := rpairs_pre (n := (N : Int)) (l := lineL N) (x := IntKind.u64.wrap k) (Nat.zero_le (2 * N))
  have hl := (List.getElem?_eq_some_iff.1 h).1
  unfold randL
  rw [hr]
  show ((lineL N) ++ r)[i]? = _
  rw [List.getElem?_append_left hl, h]
theorem rand_at {N : Nat} {k : Int} {i : Nat} (hi : i < 2 * N) (hr : roomB (rpairs (N : Int) (lineL N) (IntKind.u64.wrap k) i).1 (rnp (N : Int) (rpairs (N : Int) (lineL N) (IntKind.u64.wrap k) i).2) = true) :
    (randL N k)[(rpairs (N : Int) (lineL N) (IntKind.u64.wrap k) i).1.length]? = some (rnp (N : Int) (rpairs (N : Int) (lineL N) (IntKind.u64.wrap k) i).2) := by
  obtain ⟨r, h1⟩ := rpairs_pre (n := (N : Int)) (l := lineL N) (x := IntKind.u64.wrap k) (show i + 1 ≤ 2 * N by omega)
  unfold randL
  rw [h1]
  show (rput _ _ _ ++ r)[_]? = _
  unfold rput
  rw [if_pos hr, List.append_assoc, List.getElem?_append_right (Nat.le_refl _), Nat.sub_self]
  rfl
end Go.Proofs.Ytpdmpekkmblgmaa

namespace Go.Proofs.Ytpdmpekkmblgmaa
open Go.ChangeShapes Go.WideShapes Go.ChangeAt Go.RowKit Go.Maps Go.Shelf
set_option linter.unusedVariables false
set_option linter.unusedSimpArgs false
attribute [local go_sem] Oper.semAt_some

theorem leavesM_tmps {F : Fence} {n : Nat} {P : Program} {fn : Func} {R : Ending → World → Prop} (hr : fn.results = #[]) (t t' : Array Value) : ∀ (ds : List Deferred) (u : FrameMode) (w : World), LeavesInM F n P fn t R ds u w = LeavesInM F n P fn t' R ds u w := by
  intro ds
  induction ds with
  | nil =>
    intro u w
    cases u with
    | run => rfl
    | returning => show (∃ v, (results fn t).run P w = .ok v w ∧ R (.returned v) w) = (∃ v, (results fn t').run P w = .ok v w ∧ R (.returned v) w); rw [results_none hr, results_none hr]
    | panicking c => rfl
  | cons d ds ih =>
    intro u w
    simp only [LeavesInM, ih]
/-- A panic leaves as it would have left ahead of a value. -/
theorem panic_put {F : Fence} {n : Nat} {P : Program} {fn : Func} {R : Ending → World → Prop} (hr : fn.results = #[]) {d : Nat} {v : Value} {c : List PanicEntry} {a : Act} {w : World} (h : bodyPostM F n P fn R (.panic c) (a.put (some d) v) w) : bodyPostM F n P fn R (.panic c) a w := by
  have e := leavesM_tmps (F := F) (n := n) (P := P) (R := R) hr (a.put (some d) v).tmps a.tmps a.defers (.panicking c) w
  exact e.mp h
theorem owns_rdL {A : World} {n : Nat} {v : Value} {xs : List LK} (h : A.ownsRow n 49 2 v xs.length (csL xs)) (hl : xs.length ≤ 100000) : ∃ a c, v = .slice a xs.length c ∧ RdL A a xs.length c xs := by
  obtain ⟨a, c, e, L, _⟩ := own_lstL h rfl
  exact ⟨a, c, e, L.rd (by omega)⟩
/-- RQ, and the numbers' cell at R, and the mark at n, both laid since. -/
structure RW (J : (Nat → Prop) → World → Prop) (m n b0 b1 R : Nat) (y : Value) (ob : Obj) (v : Value) (xs : List LK) (x : Int) (Co : Nat → Prop) (A : World) : Prop where
  q : RQ J m n b0 b1 y v xs Co A
  row : One A R (.int .u64 x)
  far : ¬ Co R ∧ v.ownBlock ≠ some R
  dead : A.heap[n]? = some ob
  dfar : ¬ Co n ∧ v.ownBlock ≠ some n
theorem RW.lt {J : (Nat → Prop) → World → Prop} {m n b0 b1 R : Nat} {y v : Value} {ob : Obj} {xs : List LK} {x : Int} {Co : Nat → Prop} {A : World} (h : RW J m n b0 b1 R y ob v xs x Co A) : n < A.heap.size := row_lt h.dead
theorem RW.later {J : (Nat → Prop) → World → Prop} {m n b0 b1 R : Nat} {y v : Value} {ob : Obj} {xs : List LK} {x : Int} {Co : Nat → Prop} {A B : World} (h : RW J m n b0 b1 R y ob v xs x Co A) (hm : m ≤ n) (h0 : b0 < n) (h1 : b1 < n) (hJ : ∀ C A B, J C A → Same m C A B → J C B) (b : Below A.heap.size A B) : RW J m n b0 b1 R y ob v xs x Co B :=
  ⟨h.q.same hm h0 h1 hJ (Same.of_below b), h.row.below b, h.far, (b.block _ h.lt).trans h.dead, h.dfar⟩
theorem RW.set {J : (Nat → Prop) → World → Prop} {m n b0 b1 R : Nat} {y v : Value} {ob : Obj} {xs : List LK} {x : Int} {Co : Nat → Prop} {A : World} (h : RW J m n b0 b1 R y ob v xs x Co A) (hm : m ≤ n) (h0 : b0 < n) (h1 : b1 < n) (hJ : ∀ C A B, J C A → Same m C A B → J C B) (hR : n < R) (x' : Int) : RW J m n b0 b1 R y ob v xs x' Co (A.setCell ⟨R, 0, none⟩ (.int .u64 x')) := by
  refine ⟨h.q.same hm h0 h1 hJ ((Same.refl _ _ _).setCell (by show n ≤ R; omega) ?_ _), h.row.set _, h.far, ?_, h.dfar⟩
  · rintro (hc | hc)
    · exact h.far.1 hc.1
    · exact h.far.2 hc
  · exact (Below.heap_setCell _ _ _ _ (by show n ≠ R; omega)).trans h.dead
theorem RW.grow {J : (Nat → Prop) → World → Prop} {m n b0 b1 R : Nat} {y v : Value} {ob : Obj} {xs : List LK} {x : Int} {Co : Nat → Prop} {A W1 : World} {p : LK} {g cap : Nat} {tmp : Obj} (h : RW J m n b0 b1 R y ob v xs x Co A) (hm : m ≤ n) (h0 : b0 < n) (h1 : b1 < n) (h01 : b0 ≠ b1) (hR : n < R) (hJ : ∀ C A B, J C A → Same m C A B → J C B) (hb : m ≤ b1)
    (r1 : W1.ownsRow n 49 2 (.slice (some ⟨g, 0, none⟩) (xs.length + 1) cap) (xs.length + 1) (csL xs ++ LK.cells p)) (r2 : (A.alloc tmp).grownBy W1 v.ownBlock) (r3 : v.ownBlock = some g ∨ g = (A.alloc tmp).heap.size) :
    One W1 b1 v ∧ RW J m n b0 b1 R y ob (.slice (some ⟨g, 0, none⟩) (xs.length + 1) cap) (xs ++ [p]) x Co (W1.setCell ⟨b1, 0, none⟩ (.slice (some ⟨g, 0, none⟩) (xs.length + 1) cap)) ∧
      A.heap.size ≤ (W1.setCell ⟨b1, 0, none⟩ (.slice (some ⟨g, 0, none⟩) (xs.length + 1) cap)).heap.size ∧ ∀ b, b < A.heap.size → b ≠ b1 → some b ≠ v.ownBlock → (W1.setCell ⟨b1, 0, none⟩ (.slice (some ⟨g, 0, none⟩) (xs.length + 1) cap)).heap[b]? = A.heap[b]? := by
  obtain ⟨o1, q1, t1, _, _, kp⟩ := h.q.grow hm h0 h1 h01 (by have := h.lt; omega) hJ hb r1 r2 r3
  have hlt := h.lt
  have hRs := h.row.2.2
  have hne : ∀ b, n ≤ b → b < A.heap.size → v.ownBlock ≠ some b → Value.ownBlock (.slice (some ⟨g, 0, none⟩) (xs.length + 1) cap) ≠ some b := by
    intro b h5 h6 h7 e
    have e1 : g = b := by simpa [Value.ownBlock] using e
    subst e1
    rcases r3 with h8 | h8
    · exact h7 h8
    · simp at h8; omega
  refine ⟨o1, ⟨q1, h.row.of_block (kp R hRs (by omega) (fun e => h.far.2 e.symm)) t1.size, ⟨h.far.1, hne R (by omega) hRs h.far.2⟩, (kp n hlt (by omega) (fun e => h.dfar.2 e.symm)).trans h.dead, ⟨h.dfar.1, hne n (Nat.le_refl _) hlt h.dfar.2⟩⟩, t1.size, kp⟩
theorem RW.turn {J J' : (Nat → Prop) → World → Prop} {m n b0 b1 R : Nat} {y v : Value} {ob : Obj} {xs : List LK} {x : Int} {Co Co' : Nat → Prop} {A B : World} (h : RW J m n b0 b1 R y ob v xs x Co A) (hm0 : m ≤ b0) (hm1 : m ≤ b1) (h0 : b0 < n) (h1 : b1 < n) (hmn : m ≤ n) (hR : n < R) (hj : J' Co' B) (t : Turn m Co Co' A B) : RW J' m n b0 b1 R y ob v xs x Co' B := by
  have hlt := h.lt
  have hRs := h.row.2.2
  obtain ⟨q1, _⟩ := h.q.turn hm0 hm1 h0 h1 hmn (by omega) hj t
  have hn : ∀ b, b < A.heap.size → ¬ Co b → ¬ Co' b := fun b h5 h6 h7 => (t.mine b h7).2.2.elim h6 (fun h => by omega)
  exact ⟨q1, h.row.turn t (by omega) h.far.1, ⟨hn R hRs h.far.1, h.far.2⟩, (t.keep n hmn hlt h.dfar.1).trans h.dead, ⟨hn n hlt h.dfar.1, h.dfar.2⟩⟩
theorem rput_apart {n : Int} {l : List LK} {x : Int} (h : Apart l) : Apart (rput n l x) := by
  unfold rput
  split
  · rename_i hr
    unfold roomB at hr
    simp only [Bool.and_eq_true, decide_eq_true_eq] at hr
    intro p hp
    rcases List.mem_append.1 hp with h1 | h1
    · exact h p h1
    · have e : p = rnp n x := by simpa using h1
      rw [e]
      exact hr.1
  · exact h
theorem rpairs_apart {n : Int} {l : List LK} {x : Int} (h : Apart l) (m : Nat) : Apart (rpairs n l x m).1 := by
  induction m with
  | zero => exact h
  | succ m ih => exact rput_apart ih
theorem randL_apart (n : Nat) (k : Int) : Apart (randL n k) := rpairs_apart (lineL_apart n) _
theorem randL_len {n : Nat} {k : Int} : (randL n k).length ≤ 3 * n := by
  have h := rpairs_len (n : Int) (lineL n) (IntKind.u64.wrap k) (2 * n)
  rw [lineL_len] at h
  show (rpairs _ _ _ _).1.length ≤ _
  omega
theorem rpairs_yes {n : Int} {l : List LK} {x : Int} {i : Nat} {p : LK} (hp : rnp n (rpairs n l x i).2 = p) (h : roomB (rpairs n l x i).1 p = true) : (rpairs n l x (i + 1)).1 = (rpairs n l x i).1 ++ [p] := by
  show rput n (rpairs n l x i).1 (rpairs n l x i).2 = _
  unfold rput
  rw [hp, if_pos h]
theorem rpairs_not {n : Int} {l : List LK} {x : Int} {i : Nat} {p : LK} (hp : rnp n (rpairs n l x i).2 = p) (h : roomB (rpairs n l x i).1 p = false) : (rpairs n l x (i + 1)).1 = (rpairs n l x i).1 := by
  show rput n (rpairs n l x i).1 (rpairs n l x i).2 = _
  unfold rput
  rw [hp, if_neg (by rw [h]; decide)]
end Go.Proofs.Ytpdmpekkmblgmaa

namespace Go.Proofs.Ytpdmpekkmblgmaa
open Go.ChangeShapes Go.WideShapes Go.ChangeAt Go.RowKit Go.Maps Go.Shelf
set_option linter.unusedVariables false
set_option linter.unusedSimpArgs false
attribute [local go_sem] Oper.semAt_some

set_option maxRecDepth 100000 in
set_option maxHeartbeats 2000000 in
theorem rand_gives (fa fb : Nat) (N : Nat) (k : Int) (hn : 1 ≤ N ∧ N ≤ 16) (w : World) : Gives Try.prog 65 #[.pointer (some ⟨fa, 0, none⟩), .pointer (some ⟨fb, 0, none⟩)] encL (randL N k) w (fun A => One A fa (.int .i64 (N : Int)) ∧ One A fb (.int .i64 k)) := by
  intro lp J Jx W hbW hJ hJx hKeep hY h0
  have K0 := hKeep _ _ _ h0
  refine (callsIn_wide (n := 2)).1 ?_
  refine callsIn_of_wp_marks Try.func65 rfl trivial ?_
  simp only [Try.ntmps65, List.size_toArray, List.length_cons, List.length_nil, Nat.reduceAdd, Nat.reduceSub, Array.replicate_succ, Array.replicate_zero, List.push_toArray, List.append_toArray, List.nil_append, List.cons_append]
  have HN : Hid (1 ≤ N ∧ N ≤ 16) := hn
  obtain ⟨⟨o0, o1, oz⟩, ⟨p0, p1, pz⟩⟩ := id K0
  have KL := fun X => line_any (N : Int) 0 X
  gi_wp2_with (refine ⟨trivial, ?_⟩; gi_at_call 44; refine (callsIn_wide.2 (KL _)).mono ?_; clear KL; rintro e w4 ⟨rfl, hw4⟩)
  obtain ⟨w4, hw4⟩ : ∃ X, ((W.alloc (.cells #[.func (.yield lp) #[] #[]] 86)).alloc (.cells #[.slice none 0 0] 23)).alloc (.cells #[.int .i64 (N : Int)] 3) = X := ⟨_, rfl⟩
  rw [hw4]
  have Z4 : w4.heap.size = W.heap.size + 3 := by rw [← hw4]; simp
  have OY : One w4 W.heap.size (.func (.yield lp) #[] #[]) := by rw [← hw4]; exact ((One.new _ _ _).alloc _).alloc _
  have OL : One w4 (W.heap.size + 1) (.slice none 0 0) := by rw [← hw4]; exact ((One.new _ _ _).at (by simp)).alloc _
  have ON : One w4 (W.heap.size + 2) (.int .i64 (N : Int)) := by rw [← hw4]; exact (One.new _ _ _).at (by simp)
  have S4 : Same W.heap.size (fun _ => False) W w4 := by rw [← hw4]; exact ((Same.alloc _ _ _ _).trans (Same.alloc _ _ _ _)).trans (Same.alloc _ _ _ _)
  have R4 : RQ (J 0) W.heap.size w4.heap.size W.heap.size (W.heap.size + 1) (.func (.yield lp) #[] #[]) (.slice none 0 0) ((lineL N).take 0) (fun _ => False) w4 := ⟨hJ _ _ _ _ h0 S4, fun c h => h.elim, fun _ _ _ h => h, OY, OL, World.ownsRow_nil _ _ 49 2, fun g e => by cases e⟩
  have C4 : (fun _ => False) = CC w4.heap.size (fun _ => False) (.slice none 0 0) := funext fun b => propext ⟨fun h => h.elim, fun h => by rcases h with ⟨h, _⟩ | h; exact h; cases h⟩
  clear hw4 K0 h0 o0 o1 oz p0 p1 pz S4 OY OL hn
  refine range_turns (gf := 60) (lb := #[.pointer (some ⟨W.heap.size + 2, 0, none⟩)]) (by first | rfl | simp) (enters_of Try.func60 (by kernel_rfl) rfl)
    (line_gives (W.heap.size + 2) N (by have := HN.out; omega) w4) (Below.refl _ _) (fun _ => rfl)
    (fun i C A => ∃ Co v, C = CC w4.heap.size Co v ∧ (i = 0 → v = .slice none 0 0) ∧ RQ (J i) W.heap.size w4.heap.size W.heap.size (W.heap.size + 1) (.func (.yield lp) #[] #[]) v ((lineL N).take i) Co A ∧ One A (W.heap.size + 2) (.int .i64 (N : Int)))
    (fun c C A => c = .ret ∧ ∃ Co v xs, C = CC w4.heap.size Co v ∧ RQ Jx W.heap.size w4.heap.size W.heap.size (W.heap.size + 1) (.func (.yield lp) #[] #[]) v xs Co A)
    (fun k C A ⟨Co, v, _, _, _, h⟩ => h)
    (fun k C A B ⟨Co, v, e, h1, h2, h3⟩ s => ⟨Co, v, e, h1, h2.same (by omega) (by omega) (by omega) (hJ k) (e ▸ s), h3.same s (by omega)⟩)
    (fun c C A B ⟨hc, Co, v, xs, e, h2⟩ s => ⟨hc, Co, v, xs, e, h2.same (by omega) (by omega) (by omega) hJx (e ▸ s)⟩)
    ⟨_, _, C4, fun _ => rfl, R4, ON⟩
    (fun x a' A => ∃ q : Nat, a' = { tmps := #[.func (.yield lp) #[] #[], .pointer (some ⟨fa, 0, none⟩), .pointer (some ⟨fb, 0, none⟩), .pointer (some ⟨W.heap.size, 0, none⟩), .pointer (some ⟨W.heap.size + 1, 0, none⟩), .pointer (some ⟨q, 0, none⟩), undef, undef, undef, undef, .int .i64 (N : Int), .func (.func 60) #[] #[.pointer (some ⟨W.heap.size + 2, 0, none⟩)], .agg #[.int .i64 x.1, .int .i64 x.2], undef, undef, undef, undef, undef, undef, undef, undef, undef, undef, undef, undef, undef, undef, undef, undef, undef, undef, undef, undef, undef, undef, undef, undef, undef, undef, undef, undef, undef, undef, undef, undef, undef, undef, undef, undef, undef, undef, undef], defers := [] } ∧ At A q #[.int .i64 x.1, .int .i64 x.2] 49 ∧ w4.heap.size + 2 ≤ q)
    (fun x a' A o ⟨q, h1, h2, h3⟩ => ⟨q, h1, (World.putObj_heap_other (by omega)).trans h2, h3⟩)
    ?assign ?body ?done ?stop
  case assign =>
    rintro k ⟨p, q⟩ A C K hi hs' hK
    dsimp only [encL]
    gi_wp2
    exact hK _ _ ⟨A.heap.size, by first | rfl | simp, World.alloc_heap_new A _, hs'⟩ ((Below.refl _ A).alloc (Nat.le_refl _) _)
  case body =>
    rintro i ⟨p, q⟩ C a' A ⟨Co, v, eC, hv0, H, O2⟩ ⟨r, rfl, hr, hrr⟩ hx hs' hC
    have hki := (List.getElem?_eq_some_iff.1 hx).1
    rw [lineL_len] at hki
    have hpk : p = (i : Int) := by
      have := hx.symm.trans (lineL_at hki)
      simp at this
      exact this.1
    have HNE : Hid (some r ≠ v.ownBlock) := by
      show _ ≠ _
      intro e
      by_cases hk : i = 0
      · rw [hv0 hk] at e; cases e
      · refine own_ne H.own (a := 0) (b := 1) ?_ hr (by rw [hpk]; omega) e.symm
        rw [List.getElem?_take, if_pos (by omega)]
        exact lineL_at (by omega)
    have HT : Hid ((lineL N).take (i + 1) = (lineL N).take i ++ [(p, q)]) := by show _ = _; rw [List.take_add_one, hx]; rfl
    have HLn : Hid (((lineL N).take i).length ≤ 1000) := by show _ ≤ _; rw [List.length_take, lineL_len]; have := HN.out; omega
    obtain ⟨xs, hxs⟩ : ∃ xs, (lineL N).take i = xs := ⟨_, rfl⟩
    rw [hxs] at H HT HLn
    have hra : A.rangeAt r 0 (LK.cells (p, q)) := range_rowL hr
    obtain ⟨o0, o1, oz⟩ := id H.yld
    obtain ⟨l0, l1, lz⟩ := id H.lst
    have HX : Hid ((randL N k)[i]? = some (p, q)) := rand_line hx
    have hAs : w4.heap.size ≤ A.heap.size := by omega
    have hrs : r < A.heap.size := row_lt hr
    clear hx hxs hki hpk hv0
    dsimp only
    gi_wp2_with (first
      | ((with_reducible show wpListIn _ _ _ _ _ (Oper.mk (some 18) (Op.load 49 _) _ _ _ _ :: _) _ _); refine wpListIn_load49 rfl _ rfl r 0 (p, q) rfl hra3 ?_; dsimp only [LK.val])
      | ((with_reducible show wpListIn _ _ _ _ _ (Oper.mk (some 14) (Op.load 49 _) _ _ _ _ :: _) _ _); refine wpListIn_load49 rfl _ rfl r 0 (p, q) rfl hra ?_; dsimp only [LK.val])
      | (gi_at_builtin; refine wpListIn_app_l rfl _ _ rfl w4.heap.size v xs.length (csL xs) rfl (owns_of_block H.own (fun g hg => Below.heap_alloc _ _ _ (H.own.lt g hg).2)) ⟨A.heap.size, 0, none⟩ (p, q) rfl (by intro j u hu; rw [add_plain, Nat.zero_add]; exact row_cell (World.alloc_heap_new A _) j u (by simpa [LK.cells] using hu)) (by have := HLn.out; omega) (by simp; omega) ?_; intro g c2 w2 r1 r2 r3; obtain ⟨O3, H3, T3, hne, hne2, hkp⟩ := H.grow (by omega) (by omega) (by omega) (by omega) hAs (hJ i) (by omega) r1 r2 r3; obtain ⟨m0, m1, mz⟩ := id O3; obtain ⟨y0, y1, yz⟩ := id H3.yld; have hra3 := range_rowL ((hkp r hrs (by omega) HNE.out).trans hr); have HO3 := O2.of_block (hkp _ O2.2.2 (by omega) (fun e => by have := (H.own.lt _ e.symm).1; omega)) T3.size; obtain ⟨fn1, tmps, assign, body, hy, hR⟩ := hY i Co (p, q) _ H3.j (by have := T3.size; omega) H3.co HX.out; dsimp only [encL] at hy hR))
    clear hy
    refine (RoundIn.wideAny hR).mono ?_
    clear hR
    rintro e W5 (⟨rfl, C', hJ5, t5⟩ | ⟨rfl, C', hx5, t5⟩)
    · obtain ⟨H5, T5⟩ := H3.turn (by omega) (by omega) (by omega) (by omega) (by omega) (by have := T3.size; omega) hJ5 t5
      have O5 := HO3.turn t5 (by omega) (H3.old _ (by omega) (by omega))
      gi_wp2
      exact ⟨_, ⟨C', _, rfl, fun h => (by omega), by rw [HT.out]; exact H5, O5⟩, by rw [eC]; exact T3.trans T5⟩
    · obtain ⟨H5, T5⟩ := H3.turn (by omega) (by omega) (by omega) (by omega) (by omega) (by have := T3.size; omega) hx5 t5
      gi_wp2
      exact ⟨_, ⟨rfl, C', _, _, rfl, H5⟩, by rw [eC]; exact T3.trans T5⟩
  case done =>
    rintro C A ⟨Co, v, eC, _, H, O2⟩ hK hC
    have hnC : ¬ Co w4.heap.size := fun h => by have := (hC _ (by rw [eC]; exact .inl ⟨h, Nat.le_refl _⟩)).1; omega
    have hnv : v.ownBlock ≠ some w4.heap.size := fun h => by have := (hC _ (by rw [eC]; exact .inr h)).1; omega
    have hAs : w4.heap.size < A.heap.size := row_lt hK
    have Kr := hKeep _ _ _ H.j
    obtain ⟨⟨o0, o1, oz⟩, ⟨p0, p1, pz⟩⟩ := id Kr
    rw [List.take_length] at H
    obtain ⟨x0, hx0⟩ : ∃ x0, IntKind.u64.wrap k = x0 := ⟨_, rfl⟩
    have HRA : Hid ((rpairs (N : Int) (lineL N) x0 (2 * N)).1 = randL N k ∧ ∀ i, i < 2 * N → roomB (rpairs (N : Int) (lineL N) x0 i).1 (rnp (N : Int) (rpairs (N : Int) (lineL N) x0 i).2) = true → (randL N k)[(rpairs (N : Int) (lineL N) x0 i).1.length]? = some (rnp (N : Int) (rpairs (N : Int) (lineL N) x0 i).2)) := by
      show _ ∧ _
      rw [← hx0]
      exact ⟨rfl, fun i h1 h2 => rand_at h1 h2⟩
    have h2N : IntKind.i64.wrap (2 * (N : Int)) = 2 * (N : Int) := by rw [IntKind.wrap_i64]; have := HN.out; omega
    have H0 : RW (J (rpairs (N : Int) (lineL N) x0 0).1.length) W.heap.size w4.heap.size W.heap.size (W.heap.size + 1) A.heap.size (.func (.yield lp) #[] #[]) (.deferred (some [])) v (rpairs (N : Int) (lineL N) x0 0).1 (rpairs (N : Int) (lineL N) x0 0).2 Co (A.alloc (.cells #[.int .u64 x0] 62)) := ⟨(H.same (by omega) (by omega) (by omega) (hJ _) (Same.alloc _ _ _ (.cells #[.int .u64 x0] 62))), One.new _ _ _, ⟨fun h => by have := (H.co _ h).2; omega, fun h => by have := (H.own.lt _ h).2; omega⟩, (Below.heap_alloc _ _ _ hAs).trans hK, hnC, hnv⟩
    have HF : Hid (fa < A.heap.size ∧ fb < A.heap.size) := ⟨oz, pz⟩
    have kq0 := Kr.1.alloc (.cells #[.int .u64 x0] 62)
    obtain ⟨f0, f1, fz⟩ := id kq0
    obtain ⟨w5, hw5⟩ : ∃ X, A.alloc (.cells #[.int .u64 x0] 62) = X := ⟨_, rfl⟩
    rw [hw5] at H0 f0 f1 fz
    clear H O2 kq0
    have HJE : Hid (RW (J (rpairs (N : Int) (lineL N) x0 0).1.length) W.heap.size w4.heap.size W.heap.size (W.heap.size + 1) A.heap.size (.func (.yield lp) #[] #[]) (.deferred (some [])) v (rpairs (N : Int) (lineL N) x0 0).1 (rpairs (N : Int) (lineL N) x0 0).2 Co w5) := H0
    obtain ⟨R, hR⟩ : ∃ R, A.heap.size = R := ⟨_, rfl⟩
    rw [hR] at HF hAs HJE
    gi_wp2
    try rw [hR]
    clear Kr o0 o1 oz p0 p1 pz f0 f1 fz hw5 hK hC hnC hnv eC H0 hR hx0 h2N
    gi_loopg [26] (2 * N) (fun g v26 wr => ∃ (i : Nat) (Co : Nat → Prop) (v : Value), v26 = .int .i64 (i : Int) ∧ i + g = 2 * N ∧ RW (J (rpairs (N : Int) (lineL N) x0 i).1.length) W.heap.size w4.heap.size W.heap.size (W.heap.size + 1) R (.func (.yield lp) #[] #[]) (.deferred (some [])) v (rpairs (N : Int) (lineL N) x0 i).1 (rpairs (N : Int) (lineL N) x0 i).2 Co wr)
    case atStart => exact ⟨0, Co, v, by first | rfl | go_num, by omega, HJE.out⟩
    case round =>
      clear HJE
      obtain ⟨i, Co, v, rfl, hg, H⟩ := hrel
      obtain ⟨⟨f0, f1, fz⟩, _⟩ := id (hKeep _ _ _ H.q.j)
      by_cases hi : i < 2 * N
      case neg =>
        have hiI : ¬ (i : Int) < 2 * (N : Int) := by omega
        have hie : i = 2 * N := by omega
        subst hie
        have hK := H.dead
        have hnC := H.dfar.1
        rw [Z4] at hK hnC
        gi_wp2
        refine ⟨by simp, .inl ⟨_, _, rfl, run_takeDeferred hK, ?_⟩⟩
        exact ⟨_, results_none rfl _ _ _, ⟨_, rfl⟩, Co, fun b hb => ⟨(H.q.co b hb).1, by have := (H.q.co b hb).2; simpa using this⟩, .inl (by rw [← HRA.out.1]; exact hJ _ _ _ _ H.q.j ((Same.refl _ _ _).putObj (by omega) hnC _))⟩
      case pos =>
        have hiI : (i : Int) < 2 * (N : Int) := by omega
        have HI : Hid (i < 2 * N ∧ i + gk = 2 * N) := ⟨hi, hg⟩
        have hin : IntKind.i64.wrap ((i : Int) + 1) = (i : Int) + 1 := by rw [IntKind.wrap_i64]; have := HN.out; omega
        have hap := rpairs_apart (n := (N : Int)) (x := x0) (lineL_apart N) i
        have hln := rpairs_len (N : Int) (lineL N) x0 i
        rw [lineL_len] at hln
        obtain ⟨l, hl⟩ : ∃ l, (rpairs (N : Int) (lineL N) x0 i).1 = l := ⟨_, rfl⟩
        obtain ⟨x, hx⟩ : ∃ x, (rpairs (N : Int) (lineL N) x0 i).2 = x := ⟨_, rfl⟩
        have HLX : Hid ((rpairs (N : Int) (lineL N) x0 i).1 = l ∧ (rpairs (N : Int) (lineL N) x0 i).2 = x) := ⟨hl, hx⟩
        have HX2 : Hid ((rpairs (N : Int) (lineL N) x0 (i + 1)).2 = nx (nx x)) := by show nx (nx (rpairs (N : Int) (lineL N) x0 i).2) = _; rw [hx]
        rw [hl] at hap hln
        rw [hl, hx] at H
        obtain ⟨a, c, hv, hrd⟩ := owns_rdL H.q.own (by have := HN.out; omega)
        subst hv
        have HAL : Hid (Apart l ∧ l.length ≤ 1000) := ⟨hap, by have := HN.out; omega⟩
        have HD := H.later (by omega) (by omega) (by omega) (hJ _) ((Below.refl _ _).drew)
        obtain ⟨WD, hWD⟩ : ∃ X, World.drew wr = X := ⟨_, rfl⟩
        rw [hWD] at HD
        have K66 := below_any R x (N : Int) WD HD.row (by have := HN.out; omega) (by have := HN.out; omega)
        have e0 := (hKeep _ _ _ HD.q.j).1.1
        clear H f0 f1 fz hrd hap hln hl hx hg hi
        gi_wp2_with (fail)
        refine region_heldIn (fun X => X.cell? ⟨fa, 0, none⟩ = some (.int .i64 (N : Int))) (by kernel_rfl) ?_
        rw [hWD]
        clear hWD
        refine anyInH_take 0 28 (.int .i64 (N : Int)) (by kernel_rfl) rfl rfl (by kernel_rfl) (by kernel_rfl) (by kernel_rfl) (fun _ _ _ h => panic_put rfl h) (Or.inl ⟨by rfl, by intro w hSw; have s1 := hSw; go_simp⟩) (fun w => by simp [Oper.about]) (e0) ?_
        try simp only [Act.put, List.setIfInBounds_toArray, List.set_cons_zero, List.set_cons_succ]
        refine anyInH_take 2 30 (.int .i64 (N : Int)) (by kernel_rfl) rfl rfl (by kernel_rfl) (by kernel_rfl) (by kernel_rfl) (fun _ _ _ h => panic_put rfl h) (Or.inl ⟨by rfl, by intro w hSw; have s1 := hSw; go_simp⟩) (fun w => by simp [Oper.about]) (e0) ?_
        try simp only [Act.put, List.setIfInBounds_toArray, List.set_cons_zero, List.set_cons_succ]
        refine anyInH_one 1 (by kernel_rfl) rfl (by rfl) (fun K hK => ?_)
        go_simp
        refine ⟨trivial, ?_⟩
        gi_at_call 66
        refine (callsIn_wide.2 K66).mono ?_
        clear K66
        rintro e w6 ⟨rfl, hw6⟩
        have H6 := HD.set (by omega) (by omega) (by omega) (hJ _) (show w4.heap.size < R by omega) (nx x)
        rw [← hw6] at H6
        clear hw6 HD e0
        have K67 := below_any R (nx x) (N : Int) w6 H6.row (by have := HN.out; omega) (by have := HN.out; omega)
        have e6 := (hKeep _ _ _ H6.q.j).1.1
        refine hK.out _ _ e6 (fun hS => ?_)
        clear hK hS
        try simp only [Act.put, List.setIfInBounds_toArray, List.set_cons_zero, List.set_cons_succ]
        refine anyInH_one 3 (by kernel_rfl) rfl (by rfl) (fun K hK => ?_)
        go_simp
        refine ⟨trivial, ?_⟩
        gi_at_call 66
        refine (callsIn_wide.2 K67).mono ?_
        clear K67
        rintro e w7 ⟨rfl, hw7⟩
        have H7 := H6.set (by omega) (by omega) (by omega) (hJ _) (show w4.heap.size < R by omega) (nx (nx x))
        rw [← hw7] at H7
        clear hw7 H6 e6
        have e7 := (hKeep _ _ _ H7.q.j).1.1
        refine hK.out _ _ e7 (fun hS => ?_)
        clear hK hS
        try simp only [Act.put, List.setIfInBounds_toArray, List.set_cons_zero, List.set_cons_succ]
        obtain ⟨u, hu⟩ : ∃ u, bl (N : Int) x = u := ⟨_, rfl⟩
        obtain ⟨z, hz⟩ : ∃ z, bl (N : Int) (nx x) = z := ⟨_, rfl⟩
        have HUZ : Hid (bl (N : Int) x = u ∧ bl (N : Int) (nx x) = z) := ⟨hu, hz⟩
        rw [hu, hz]
        clear hu hz
        refine anyInH_take 4 7 (.int .i64 u) (by kernel_rfl) rfl rfl (by kernel_rfl) (by kernel_rfl) (by kernel_rfl) (fun _ _ _ h => panic_put rfl h) (Or.inl ⟨by rfl, by intro w hSw; go_simp⟩) (fun w => by simp [Oper.about]) (e7) ?_
        try simp only [Act.put, List.setIfInBounds_toArray, List.set_cons_zero, List.set_cons_succ]
        refine anyInH_take 5 8 (.int .i64 z) (by kernel_rfl) rfl rfl (by kernel_rfl) (by kernel_rfl) (by kernel_rfl) (fun _ _ _ h => panic_put rfl h) (Or.inl ⟨by rfl, by intro w hSw; go_simp⟩) (fun w => by simp [Oper.about]) (e7) ?_
        try simp only [Act.put, List.setIfInBounds_toArray, List.set_cons_zero, List.set_cons_succ]
        refine anyInH_done (by kernel_rfl) ?_ _
        obtain ⟨p, hp⟩ : ∃ p, min u z = p := ⟨_, rfl⟩
        obtain ⟨q, hq⟩ : ∃ q, max u z = q := ⟨_, rfl⟩
        have HPQ : Hid (rnp (N : Int) (rpairs (N : Int) (lineL N) x0 i).2 = (p, q)) := by
          show _ = _
          rw [HLX.out.2]
          unfold rnp
          rw [HUZ.out.1, HUZ.out.2, hp, hq]
        have H8 := H7.later (by omega) (by omega) (by omega) (hJ _) ((Below.refl _ _).alloc (Nat.le_refl _) (.cells #[.int .i64 p, .int .i64 q] 49))
        obtain ⟨a', c', e', hrd8⟩ := owns_rdL H8.q.own (by have := HAL.out; omega)
        cases e'
        have KR := room_any a l.length c l p q _ hrd8 HAL.out.1
        have hra8 : (w7.alloc (.cells #[.int .i64 p, .int .i64 q] 49)).rangeAt w7.heap.size 0 (LK.cells (p, q)) := range_rowL (World.alloc_heap_new w7 _)
        have HR8 : Hid ((w7.alloc (.cells #[.int .i64 p, .int .i64 q] 49)).heap[w7.heap.size]? = some (.cells #[.int .i64 p, .int .i64 q] 49 (0, 0))) := World.alloc_heap_new w7 _
        have HOW : Hid (Value.ownBlock (.slice a l.length c) ≠ some w7.heap.size ∧ W.heap.size + 1 < w7.heap.size) := by
          refine ⟨fun e => ?_, H7.q.lst.2.2⟩
          have := (H7.q.own.lt _ e).2
          omega
        have H8' : Hid (RW (J l.length) W.heap.size w4.heap.size W.heap.size (W.heap.size + 1) R (.func (.yield lp) #[] #[]) (.deferred (some [])) (.slice a l.length c) l (nx (nx x)) Co (w7.alloc (.cells #[.int .i64 p, .int .i64 q] 49))) := H8
        obtain ⟨l0, l1, lz⟩ := id H7.q.lst
        have hlz8 : (w7.alloc (.cells #[.int .i64 p, .int .i64 q] 49)).heap.size = w7.heap.size + 1 := by simp
        have HZ7 : Hid (w4.heap.size < w7.heap.size) := H7.lt
        clear hrd8 H8 H7 e7
        cases hroom : roomB l (p, q) with
        | false =>
          have HE : Hid ((rpairs (N : Int) (lineL N) x0 (i + 1)).1 = l) := (rpairs_not HPQ.out (by rw [HLX.out.1]; exact hroom)).trans HLX.out.1
          rw [hroom] at KR
          clear hroom
          gi_wp2_with (first
            | ((with_reducible show wpListIn _ _ _ _ _ (Oper.mk (some 40) (Op.load 49 _) _ _ _ _ :: _) _ _); refine wpListIn_load49 rfl _ rfl w7.heap.size 0 (p, q) rfl hra8 ?_; dsimp only [LK.val])
            | (refine ⟨trivial, ?_⟩; gi_at_call 67; refine (callsIn_wide.2 KR).mono ?_; clear KR; rintro e w9 ⟨rfl, b9⟩))
          have H9 := H8'.out.later (by omega) (by omega) (by omega) (hJ _) b9
          gi_roundg (gk - 1)
          case measure => have := HI.out; omega
          case rel => exact ⟨i + 1, Co, _, by first | rfl | go_num, by have := HI.out; omega, by rw [HE.out, HX2.out]; exact H9⟩
        | true =>
          have HE : Hid ((rpairs (N : Int) (lineL N) x0 (i + 1)).1 = l ++ [(p, q)]) := (rpairs_yes HPQ.out (by rw [HLX.out.1]; exact hroom)).trans (by rw [HLX.out.1])
          have HXR : Hid ((randL N k)[l.length]? = some (p, q)) := by
            have := HRA.out.2 i HI.out.1 (by rw [HPQ.out, HLX.out.1]; exact hroom)
            rw [HPQ.out, HLX.out.1] at this
            exact this
          rw [hroom] at KR
          clear hroom
          gi_wp2_with (first
            | ((with_reducible show wpListIn _ _ _ _ _ (Oper.mk (some 48) (Op.load 49 _) _ _ _ _ :: _) _ _); refine wpListIn_load49 rfl _ rfl w7.heap.size 0 (p, q) rfl hra10 ?_; dsimp only [LK.val])
            | (gi_at_builtin; refine wpListIn_app_l rfl _ _ rfl w4.heap.size (.slice a l.length c) l.length (csL l) rfl (owns_of_block H9.q.own (fun g hg => Below.heap_alloc _ _ _ (H9.q.own.lt g hg).2)) ⟨w9.heap.size, 0, none⟩ (p, q) rfl (by intro j u hu; rw [add_plain, Nat.zero_add]; exact row_cell (World.alloc_heap_new w9 _) j u (by simpa [LK.cells] using hu)) (by have := HAL.out; omega) (by have := H9.lt; simp; omega) ?_; intro g c2 w2 r1 r2 r3; obtain ⟨O3, H10, T3, kp⟩ := H9.grow (by omega) (by omega) (by omega) (by omega) (show w4.heap.size < R by omega) (hJ _) (by omega) r1 r2 r3; obtain ⟨m0, m1, mz⟩ := id O3; obtain ⟨y0, y1, yz⟩ := id H10.q.yld; have hra10 : (w2.setCell ⟨W.heap.size + 1, 0, none⟩ (.slice (some ⟨g, 0, none⟩) (l.length + 1) c2)).rangeAt w7.heap.size 0 (LK.cells (p, q)) := range_rowL ((kp w7.heap.size hsz9 (by have := HOW.out; omega) (fun e => HOW.out.1 e.symm)).trans hr9); obtain ⟨fn1, tmps, assign, body, hy, hR⟩ := hY l.length Co (p, q) _ H10.q.j (by have := H10.lt; omega) H10.q.co HXR.out; dsimp only [encL] at hy hR)
            | ((with_reducible show wpListIn _ _ _ _ _ (Oper.mk (some 44) (Op.load 49 _) _ _ _ _ :: _) _ _); refine wpListIn_load49 rfl _ rfl w7.heap.size 0 (p, q) rfl hra9 ?_; dsimp only [LK.val])
            | ((with_reducible show wpListIn _ _ _ _ _ (Oper.mk (some 40) (Op.load 49 _) _ _ _ _ :: _) _ _); refine wpListIn_load49 rfl _ rfl w7.heap.size 0 (p, q) rfl hra8 ?_; dsimp only [LK.val])
            | (refine ⟨trivial, ?_⟩; gi_at_call 67; refine (callsIn_wide.2 KR).mono ?_; clear KR; rintro e w9 ⟨rfl, b9⟩; have H9 := H8'.out.later (by omega) (by omega) (by omega) (hJ _) b9; obtain ⟨n0, n1, nz⟩ := id H9.q.lst; have hr9 := (b9.block _ (row_lt HR8.out)).trans HR8.out; have hra9 : w9.rangeAt w7.heap.size 0 (LK.cells (p, q)) := range_rowL hr9; have hsz9 := row_lt hr9))
          clear hy
          refine (RoundIn.wideAny hR).mono ?_
          clear hR
          rintro e W5 (⟨rfl, C', hJ5, t5⟩ | ⟨rfl, C', hx5, t5⟩)
          · have H11 := H10.turn (by omega) (by omega) (by omega) (by omega) (by omega) (show w4.heap.size < R by omega) hJ5 t5
            gi_wp2
            gi_roundg (gk - 1)
            case measure => have := HI.out; omega
            case rel => exact ⟨i + 1, C', _, by first | rfl | go_num, by have := HI.out; omega, by rw [HE.out, HX2.out, show (l ++ [(p, q)]).length = l.length + 1 by simp]; exact H11⟩
          · have H11 := H10.turn (by omega) (by omega) (by omega) (by omega) (by omega) (show w4.heap.size < R by omega) hx5 t5
            have hK := H11.dead
            have hnC := H11.dfar.1
            rw [Z4] at hK hnC
            gi_wp2
            refine ⟨by simp, .inl ⟨_, _, rfl, run_takeDeferred hK, ?_⟩⟩
            exact ⟨_, results_none rfl _ _ _, ⟨_, rfl⟩, C', fun b hb => ⟨(H11.q.co b hb).1, by have := (H11.q.co b hb).2; simpa using this⟩, .inr (hJx _ _ _ H11.q.j ((Same.refl _ _ _).putObj (by omega) hnC _))⟩
  case stop =>
    rintro c C A ⟨rfl, Co, v, xs, eC, H⟩ hK hC
    have hnC : ¬ Co w4.heap.size := fun h => by have := (hC _ (by rw [eC]; exact .inl ⟨h, Nat.le_refl _⟩)).1; omega
    rw [Z4] at hK hnC
    gi_wp2
    refine ⟨by simp, .inl ⟨_, _, by first | rfl | (rw [Z4]), run_takeDeferred hK, ?_⟩⟩
    exact ⟨_, results_none rfl _ _ _, ⟨_, rfl⟩, Co, fun b hb => ⟨(H.co b hb).1, by have := (H.co b hb).2; simpa using this⟩, .inr (hJx _ _ _ H.j ((Same.refl _ _ _).putObj (by omega) hnC _))⟩
end Go.Proofs.Ytpdmpekkmblgmaa
