/-
  The document: has; a list of pairs that grows.
-/
import Derived.Test.YtpdmpekkmblgmaaPC
import Derived.Test.YtpdmpekkmblgmaaPD
import Derived.Test.YtpdmpekkmblgmaaE1
namespace Go.Proofs.Ytpdmpekkmblgmaa
open Go.ChangeShapes Go.WideShapes Go.ChangeAt Go.RowKit Go.Maps Go.Shelf
set_option linter.unusedVariables false
set_option linter.unusedSimpArgs false
attribute [local go_sem] Oper.semAt_some

/-- What a growing list of pairs keeps. -/
structure OwL (w : World) (v : Value) (xs : List LK) (W : World) : Prop where
  own : W.ownsRow w.heap.size 49 2 v xs.length (csL xs)
  below : Below w.heap.size w W
theorem OwL.nil (w : World) : OwL w (.slice none 0 0) [] w := ⟨World.ownsRow_nil _ _ 49 2, Below.refl _ _⟩
theorem OwL.later {w : World} {v : Value} {xs : List LK} {W W' : World} (h : OwL w v xs W) (b : Below W.heap.size W W') : OwL w v xs W' := ⟨owns_of_block h.own (fun g hg => b.block g (h.own.lt g hg).2), h.below.trans (b.mono h.below.size)⟩
theorem OwL.more {w : World} {v v' : Value} {xs : List LK} {W w' : World} (h : OwL w v xs W) (d : LK) (h1 : w'.ownsRow w.heap.size 49 2 v' (xs.length + 1) (csL xs ++ LK.cells d)) (h2 : W.grownBy w' v.ownBlock) : OwL w v' (xs ++ [d]) w' :=
  ⟨by rw [List.length_append, csL_append]; simpa [csL] using h1, h.below.grown h2 h.below.size (fun j e => (h.own.lt j e).1)⟩
theorem OwL.fin {w : World} {v : Value} {xs : List LK} {W : World} (h : OwL w v xs W) (hl : xs.length ≤ 100000) : ∃ a c, v = .slice a xs.length c ∧ RdL W a xs.length c xs := by
  obtain ⟨a, c, e, L, _⟩ := own_lstL h.own rfl
  exact ⟨a, c, e, L.rd (by omega)⟩
theorem row_allocL {W : World} (d : LK) (k : Nat) (hk : k = W.heap.size) (j : Nat) (u : Value) (h : (LK.cells d)[j]? = some u) : (W.alloc (.cells #[.int .i64 d.1, .int .i64 d.2] 49)).cell? ((⟨k, 0, none⟩ : Addr).add j) = some u := by
  subst hk
  rw [add_plain, Nat.zero_add]
  exact row_cell (World.alloc_heap_new W _) j u (by simpa [LK.cells] using h)
theorem take_no {l : List LK} {i : Nat} {x p : LK} (h : x ∉ l.take i) (hi : l[i]? = some p) (hp : p ≠ x) : x ∉ l.take (i + 1) := by
  rw [List.take_add_one, hi]
  intro h2
  rcases List.mem_append.1 h2 with h3 | h3
  · exact h h3
  · have h4 : x = p := by simpa using h3
    exact hp h4.symm
set_option maxRecDepth 100000 in
set_option maxHeartbeats 1000000 in
theorem has_any (a : Option Addr) (k cap : Nat) (l : List LK) (x : LK) (w : World) (hr : RdL w a k cap l) : Calls Try.prog 72 #[.slice a k cap, .agg #[.int .i64 x.1, .int .i64 x.2]] w fun e w' => e = .returned (.bool (decide (x ∈ l))) ∧ Below w.heap.size w w' := by
  have HN : Hid (k ≤ 140737488355328) := hr.small
  have HL : Hid (l.length = k) := hr.size
  go_enter Try.func72, Try.ntmps72
  go_wp2
  have X6 := World.alloc_heap_new w (.cells #[.int .i64 x.1, .int .i64 x.2] 49)
  have B1 := (Below.refl _ w).alloc (Nat.le_refl _) (.cells #[.int .i64 x.1, .int .i64 x.2] 49)
  obtain ⟨w1, hw1⟩ : ∃ X, w.alloc (.cells #[.int .i64 x.1, .int .i64 x.2] 49) = X := ⟨_, rfl⟩
  rw [hw1] at X6 B1 ⊢
  clear hw1
  go_loopg [5] k (fun gk v5 wr => ∃ i : Nat, v5 = .int .i64 (i : Int) ∧ i + gk = k ∧ Below w1.heap.size w1 wr ∧ x ∉ l.take i)
  case atStart => exact ⟨0, by first | rfl | go_num, by omega, Below.refl _ _, by simp⟩
  case round =>
    obtain ⟨i, rfl, hg, B, ht⟩ := hrel
    have HT : Hid (x ∉ l.take i) := ht
    clear ht
    have B0 := B1.trans (B.mono B1.size)
    by_cases hi : i < k
    case neg =>
      have HE : Hid (decide (x ∈ l) = false) := by
        have := HT.out
        rw [List.take_of_length_le (by have := HL.out; omega)] at this
        show _ = _
        simpa using this
      have hin : ¬ (i : Int) < (k : Int) := by omega
      go_wp2
      go_ret
      exact ⟨ret_bool HE.out.symm, B0⟩
    case pos =>
      have hiI : (i : Int) < (k : Int) := by omega
      have hin : IntKind.i64.wrap ((i : Int) + 1) = (i : Int) + 1 := by rw [IntKind.wrap_i64]; have := HN.out; omega
      obtain ⟨b, off, rfl, hb, hd, hra⟩ := (hr.below B0).at i hi
      obtain ⟨p, hp⟩ : ∃ x : LK, l.getD i LK.z = x := ⟨_, rfl⟩
      rw [hp] at hra hd
      clear hp
      have BB := Below.refl wr.heap.size wr
      cases heq : eqL p x with
      | true =>
        have HE : Hid (decide (x ∈ l) = true) := by
          show _ = _
          rw [← (eqL_iff p x).1 heq]
          simpa using List.mem_of_getElem? hd
        clear hd
        go_wp2
        refine wp_region_qw (fun X => Below wr.heap.size wr X) (by kernel_rfl) (by kernel_rfl) (Below.refl _ _).drew ?_
        repeat (first
          | (refine QW.skip (by rfl) ?_; simp only [Act.put, List.setIfInBounds_toArray, List.set_cons_zero, List.set_cons_succ])
          | (refine QW.val (LK.val p) (by rfl) (fun X hX => exec_load49 rfl b (off + i * 2) p rfl (range_later hra hb (BB.trans (hX.mono BB.size)))) ?_; simp only [Act.put, List.setIfInBounds_toArray, List.set_cons_zero, List.set_cons_succ])
          | (refine QW.val (LK.val x) (by rfl) (fun X hX => exec_load49 rfl w.heap.size 0 x rfl (range_rowL (((B.trans (hX.mono B.size)).block _ (row_lt X6)).trans X6))) ?_; simp only [Act.put, List.setIfInBounds_toArray, List.set_cons_zero, List.set_cons_succ])
          | (refine QW.val (.bool (eqL p x)) (by rfl) (fun X _ => exec_eql49 rfl p x rfl rfl X) ?_; simp only [Act.put, List.setIfInBounds_toArray, List.set_cons_zero, List.set_cons_succ]; rw [heq])
          | (refine QW.op (by rfl) ?_; apply Exists.intro; refine ⟨fun X hX => ?_, ?_⟩; (have s1 := hiI; go_simp <;> first | exact rfl); simp only [Act.put, List.setIfInBounds_toArray, List.set_cons_zero, List.set_cons_succ]))
        refine QW.nil ?_
        intro X hS
        go_wp2
        go_ret
        exact ⟨ret_bool HE.out.symm, B0.trans (hS.mono B0.size)⟩
      | false =>
        have HE : Hid (x ∉ l.take (i + 1)) := take_no HT.out hd (fun e => by rw [(eqL_iff p x).2 e] at heq; cases heq)
        clear hd
        go_wp2
        refine wp_region_qw (fun X => Below wr.heap.size wr X) (by kernel_rfl) (by kernel_rfl) (Below.refl _ _).drew ?_
        repeat (first
          | (refine QW.skip (by rfl) ?_; simp only [Act.put, List.setIfInBounds_toArray, List.set_cons_zero, List.set_cons_succ])
          | (refine QW.val (LK.val p) (by rfl) (fun X hX => exec_load49 rfl b (off + i * 2) p rfl (range_later hra hb (BB.trans (hX.mono BB.size)))) ?_; simp only [Act.put, List.setIfInBounds_toArray, List.set_cons_zero, List.set_cons_succ])
          | (refine QW.val (LK.val x) (by rfl) (fun X hX => exec_load49 rfl w.heap.size 0 x rfl (range_rowL (((B.trans (hX.mono B.size)).block _ (row_lt X6)).trans X6))) ?_; simp only [Act.put, List.setIfInBounds_toArray, List.set_cons_zero, List.set_cons_succ])
          | (refine QW.val (.bool (eqL p x)) (by rfl) (fun X _ => exec_eql49 rfl p x rfl rfl X) ?_; simp only [Act.put, List.setIfInBounds_toArray, List.set_cons_zero, List.set_cons_succ]; rw [heq])
          | (refine QW.op (by rfl) ?_; apply Exists.intro; refine ⟨fun X hX => ?_, ?_⟩; (have s1 := hiI; go_simp <;> first | exact rfl); simp only [Act.put, List.setIfInBounds_toArray, List.set_cons_zero, List.set_cons_succ]))
        refine QW.nil ?_
        intro X hS
        go_wp2
        go_roundg (gk - 1)
        case measure => omega
        case rel => exact ⟨i + 1, by first | rfl | go_num, by omega, B.trans (hS.mono B.size), HE.out⟩
end Go.Proofs.Ytpdmpekkmblgmaa
