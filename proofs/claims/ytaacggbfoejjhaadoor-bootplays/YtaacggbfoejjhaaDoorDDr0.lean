/-
  The document's disk.
-/
import Derived.Test.YtaacggbfoejjhaaDoorDDk3
namespace Go.Proofs.YtaacggbfoejjhaaDoor.D
open Go.ChangeShapes Go.WideShapes Go.ChangeAt Go.RowKit
set_option linter.unusedVariables false
set_option linter.unusedSimpArgs false

set_option maxHeartbeats 1000000 in
theorem rsectors_any (d l : Nat) (S : DS) (w : World) (D : DkR w d l S) : Calls Tryd.prog 48 #[.pointer (some ⟨d, 0, none⟩)] w fun e w' => e = .returned (.int .i64 (S.n : Int)) ∧ w' = w := by
  have c1 := D.cel.c1
  have hq : Int.tdiv (16 * (S.n : Int)) 16 = (S.n : Int) := by rw [Int.tdiv_eq_ediv_of_nonneg (by omega)]; omega
  have hn := D.ok.hi
  go_enter Tryd.func48, Tryd.ntmps48
  go_wp2
  go_ret
  exact ⟨rfl, rfl⟩
set_option maxHeartbeats 1000000 in
theorem rdead_any (d l : Nat) (S : DS) (w : World) (D : DkR w d l S) : Calls Tryd.prog 47 #[.pointer (some ⟨d, 0, none⟩)] w fun e w' => e = .returned (.bool S.gone) ∧ w' = w := by
  have c0 := D.cel.c0
  have c2 := D.cel.c2
  go_enter Tryd.func47, Tryd.ntmps47
  go_wp2
  go_ret
  exact ⟨rfl, rfl⟩
set_option maxHeartbeats 1000000 in
theorem rimage_any (d l : Nat) (S : DS) (w : World) (D : DkR w d l S) : Calls Tryd.prog 14 #[.pointer (some ⟨d, 0, none⟩)] w fun e w' => ∃ v, e = .returned v ∧ Own w.heap.size w' v S.bs ∧ Below w.heap.size w w' := by
  have c1 := D.cel.c1
  have R := row_of D.byt D.ok.byt (16 * S.n) (16 * S.n) D.ok.len.symm (Nat.le_refl _)
  have hn := D.ok.hi
  have hf : ([] : List Int).length + 16 * S.n ≤ 140737488355328 := by simp; omega
  go_enter Tryd.func14, Tryd.ntmps14
  go_wp2_with ((with_reducible show wpList _ _ _ (Oper.mk _ (Op.call { callee := Callee.builtin Builtin.append, args := _, argTypes := _ }) _ _ _ _ :: _) _ _); refine wpList_append_row _ rfl _ _ rfl w.heap.size (.slice none 0 0) [] rfl (Own.nil _ _) (some ⟨l, 0, none⟩) (16 * S.n) (16 * S.n) S.bs rfl R (Nat.le_refl _) hf ?_; intro v5 w5 O5 b5; rw [List.nil_append] at O5)
  go_ret
  exact ⟨_, rfl, O5, b5⟩
set_option maxHeartbeats 1000000 in
theorem rcut_any (d l : Nat) (S : DS) (x : Int) (w : World) (D : DkR w d l S) (hx : x ≤ 9223372036854775807) : Calls Tryd.prog 31 #[.pointer (some ⟨d, 0, none⟩), .int .i64 x] w fun e w' => e = .returned (.tuple #[]) ∧ DkR w' d l (S.cut x) ∧ Only (at1 d) w w' := by
  have c0 := D.cel.c0
  have c2 := D.cel.c2
  have c3 := D.cel.c3
  have c4 := D.cel.c4
  have f3 := D.free 3
  have f4 := D.free 4
  by_cases h : x < 0
  · have e : S.cut x = ⟨S.gone, -1, S.gone, S.n, S.bs, S.done⟩ := by simp only [DS.cut]; rw [if_pos (by omega)]
    have hk := D.ok.cut hx
    rw [e] at hk ⊢
    clear e
    go_enter Tryd.func31, Tryd.ntmps31
    go_wp2
    exact bodyPost_end (v := .tuple #[]) (by simp [results, Tryd.results31, go_sem]) rfl ⟨rfl, ⟨set_row (set_row (set_row D.obj 3 _) 3 _) 4 _, set_far (set_far (set_far D.byt D.ne.symm _ _) D.ne.symm _ _) D.ne.symm _ _, D.ne, hk⟩, (((Only.refl _ _).set _ _).set _ _).set _ _⟩
  · have e : S.cut x = ⟨S.gone, x, S.gone, S.n, S.bs, S.done⟩ := by simp only [DS.cut]; rw [if_neg (by omega)]
    have hk := D.ok.cut hx
    rw [e] at hk ⊢
    clear e
    go_enter Tryd.func31, Tryd.ntmps31
    go_wp2
    exact bodyPost_end (v := .tuple #[]) (by simp [results, Tryd.results31, go_sem]) rfl ⟨rfl, ⟨set_row (set_row D.obj 3 _) 4 _, set_far (set_far D.byt D.ne.symm _ _) D.ne.symm _ _, D.ne, hk⟩, ((Only.refl _ _).set _ _).set _ _⟩
set_option maxHeartbeats 1000000 in
theorem ron_any (d l : Nat) (S : DS) (w : World) (D : DkR w d l S) : Calls Tryd.prog 32 #[.pointer (some ⟨d, 0, none⟩)] w fun e w' => e = .returned (.tuple #[]) ∧ DkR w' d l S.on ∧ Only (at1 d) w w' := by
  have c0 := D.cel.c0
  have c2 := D.cel.c2
  have c3 := D.cel.c3
  have c4 := D.cel.c4
  have f2 := D.free 2
  have f3 := D.free 3
  have f4 := D.free 4
  cases hs : S.stays with
  | true =>
    rw [hs] at c4
    have e : S.on = ⟨false, S.left, false, S.n, S.bs, S.done⟩ := by simp [DS.on, hs]
    go_enter Tryd.func32, Tryd.ntmps32
    go_wp2
    exact bodyPost_end (v := .tuple #[]) (by simp [results, Tryd.results32, go_sem]) rfl ⟨rfl, ⟨by rw [e]; exact set_row (set_row D.obj 4 _) 2 _, by rw [e]; exact set_far (set_far D.byt D.ne.symm _ _) D.ne.symm _ _, D.ne, D.ok.on⟩, ((Only.refl _ _).set _ _).set _ _⟩
  | false =>
    rw [hs] at c4
    have e : S.on = ⟨false, -1, false, S.n, S.bs, S.done⟩ := by simp [DS.on, hs]
    go_enter Tryd.func32, Tryd.ntmps32
    go_wp2
    exact bodyPost_end (v := .tuple #[]) (by simp [results, Tryd.results32, go_sem]) rfl ⟨rfl, ⟨by rw [e]; exact set_row (set_row (set_row D.obj 3 _) 4 _) 2 _, by rw [e]; exact set_far (set_far (set_far D.byt D.ne.symm _ _) D.ne.symm _ _) D.ne.symm _ _, D.ne, D.ok.on⟩, (((Only.refl _ _).set _ _).set _ _).set _ _⟩
set_option maxRecDepth 100000 in
set_option maxHeartbeats 1000000 in
theorem rnew_no (x : Int) (w : World) (h : x < 1 ∨ 64 < x) : Calls Tryd.prog 23 #[.int .i64 x] w fun e w' => e = .returned (.pointer none) ∧ w' = w := by
  by_cases h1 : x < 1
  · go_enter Tryd.func23, Tryd.ntmps23
    go_wp2
    go_ret
    exact ⟨rfl, rfl⟩
  · have h2 : 64 < x := by omega
    go_enter Tryd.func23, Tryd.ntmps23
    go_wp2
    go_ret
    exact ⟨rfl, rfl⟩
set_option maxRecDepth 100000 in
set_option maxHeartbeats 1000000 in
theorem rnew_ok (n : Nat) (w : World) (h1 : 1 ≤ n) (h2 : n ≤ 64) : Calls Tryd.prog 23 #[.int .i64 (n : Int)] w fun e w' => ∃ d, e = .returned (.pointer (some ⟨d, 0, none⟩)) ∧ w.heap.size ≤ d ∧ (∃ l, w.heap.size ≤ l ∧ DkR w' d l (newS n) ∧ Below w.heap.size w w') := by
  have q1 : ¬ (n : Int) < 1 := by omega
  have q2 : ¬ (64 : Int) < (n : Int) := by omega
  have hmk : ∀ w : World, (Instr.makeSlice 22 (.int .i64 ((n : Int) * 16)) (.int .i64 ((n : Int) * 16))).run Tryd.prog w = .ok (.slice (some ⟨w.heap.size, 0, none⟩) (16 * n) (16 * n)) (w.alloc (.cells ((List.replicate (16 * n) (0 : Int)).map bv).toArray 5)) := fun w => by
    have := make28 (16 * n) (by omega) w
    rw [show ((16 * n : Nat) : Int) = (n : Int) * 16 by omega] at this
    exact this
  obtain ⟨Z, hZ⟩ : ∃ Z, ((List.replicate (16 * n) (0 : Int)).map bv).toArray = Z := ⟨_, rfl⟩
  rw [hZ] at hmk
  go_enter Tryd.func23, Tryd.ntmps23
  go_wp2
  go_ret
  refine ⟨w.heap.size + 1, rfl, by omega, w.heap.size, Nat.le_refl _, ⟨?_, ?_, by omega, newS_ok h1 h2⟩, ((Below.refl _ _).alloc (Nat.le_refl _) _).alloc (by simp) _⟩
  · have := World.alloc_heap_new (w.alloc (.cells Z 5)) (.cells #[.bool true, .slice (some ⟨w.heap.size, 0, none⟩) (16 * n) (16 * n), .bool false, .int .i64 (-1), .bool false, .int .i64 0] 79)
    rw [World.size_alloc] at this
    exact this
  · rw [Below.heap_alloc _ _ _ (by simp), World.alloc_heap_new]
    rw [← hZ]
    rfl
end Go.Proofs.YtaacggbfoejjhaaDoor.D
