/-
  Package plan: the search ring by ring: what it keeps.
-/
import Derived.Test.YtpdmpekkmblgmaaQ1
import Derived.Test.YtpdmpekkmblgmaaP4
import Derived.Test.YtpdmpekkmblgmaaP3b
import Derived.Scope
namespace Go.Proofs.Ytpdmpekkmblgmaa
open Go.ChangeShapes Go.WideShapes Go.ChangeAt Go.RowKit Go.Maps Go.Shelf
set_option linter.unusedVariables false
set_option linter.unusedSimpArgs false
attribute [local go_sem] Oper.semAt_some

/-- What is to be done at the end of a call: marks of loops over iterators, none with a call in it. -/
def Mk (N M : Nat) (ds : List Deferred) (W : World) : Prop := (∀ d ∈ ds, ∃ r, d = { target := .collected r, args := #[] } ∧ N ≤ r ∧ r < M ∧ W.heap[r]? = some (.deferred (some []))) ∧ ds.Pairwise fun x y => x ≠ y
theorem Mk.nil (N M : Nat) (W : World) : Mk N M [] W := ⟨fun d h => (by cases h), .nil⟩
theorem Mk.keep {N M : Nat} {ds : List Deferred} {W W' : World} (h : Mk N M ds W) (hk : ∀ r, N ≤ r → r < M → W.heap[r]? = some (.deferred (some [])) → W'.heap[r]? = W.heap[r]?) : Mk N M ds W' :=
  ⟨fun d hd => by obtain ⟨r, h1, h2, h3, h4⟩ := h.1 d hd; exact ⟨r, h1, h2, h3, (hk r h2 h3 h4).trans h4⟩, h.2⟩
theorem Mk.more {N M M' : Nat} {ds : List Deferred} {W : World} (h : Mk N M ds W) (hM : M < M') (hN : N ≤ M) (hW : W.heap[M]? = some (.deferred (some []))) : Mk N M' ({ target := .collected M, args := #[] } :: ds) W :=
  ⟨fun d hd => by
    rcases List.mem_cons.1 hd with rfl | hd
    · exact ⟨M, rfl, hN, hM, hW⟩
    · obtain ⟨r, h1, h2, h3, h4⟩ := h.1 d hd
      exact ⟨r, h1, h2, by omega, h4⟩,
   List.Pairwise.cons (fun d hd e => by
      obtain ⟨r, h1, h2, h3, h4⟩ := h.1 d hd
      rw [← e] at h1
      have : M = r := by simpa using h1
      omega) h.2⟩
theorem Mk.wide {N M M' : Nat} {ds : List Deferred} {W : World} (h : Mk N M ds W) (hM : M ≤ M') : Mk N M' ds W :=
  ⟨fun d hd => by obtain ⟨r, h1, h2, h3, h4⟩ := h.1 d hd; exact ⟨r, h1, h2, by omega, h4⟩, h.2⟩
theorem One.cells {W : World} {k : Nat} {v : Value} (h : One W k v) {o : Option (List Deferred)} (hd : W.heap[k]? = some (.deferred o)) : False := by
  have := h.1
  simp [World.cell?, hd] at this
/-- The marks done, the call ends. -/
theorem marks_leave {fn : Func} {tmps : Array Value} {R : Ending → World → Prop} {n N M : Nat} (hr : fn.results = #[]) : ∀ (ds : List Deferred) (W : World), Mk N M ds W → (∀ W', Below W.heap.size W W → (∀ b, b < N ∨ M ≤ b ∨ (∃ o, W.heap[b]? = some o ∧ ∀ x, o ≠ .deferred x) → W'.heap[b]? = W.heap[b]?) → W'.os = W.os → W'.tape = W.tape → W'.output = W.output → W'.heap.size = W.heap.size → R (.returned (.tuple #[])) W') → LeavesInM Fence.wide n Try.prog fn tmps R ds .returning W := by
  intro ds
  induction ds with
  | nil => intro W _ h; exact ⟨_, results_none hr _ _ _, h W (Below.refl _ _) (fun _ _ => rfl) rfl rfl rfl rfl⟩
  | cons d ds ih =>
    intro W hM h
    obtain ⟨r, rfl, h1, h2, h3⟩ := hM.1 d (.head _)
    refine ⟨by simp, .inl ⟨_, _, rfl, run_takeDeferred h3, ?_⟩⟩
    refine ih _ ⟨fun d hd => ?_, (List.pairwise_cons.1 hM.2).2⟩ ?_
    · obtain ⟨r', e, k1, k2, k3⟩ := hM.1 d (.tail _ hd)
      refine ⟨r', e, k1, k2, (World.putObj_heap_other (fun er => ?_)).trans k3⟩
      have := (List.pairwise_cons.1 hM.2).1 d hd
      rw [e, er] at this
      exact this rfl
    · intro W' _ hb a1 a2 a3 a4
      refine h W' (Below.refl _ _) (fun b hb' => ?_) a1 a2 a3 (a4.trans (by simp))
      have hbr : b ≠ r := by
        rintro rfl
        rcases hb' with x | x | ⟨o, x, y⟩
        · omega
        · omega
        · rw [h3] at x; cases x; exact y _ rfl
      have e := World.putObj_heap_other (w := W) (o := .deferred none) hbr
      exact (hb b (hb'.imp id (fun x => x.imp id (fun ⟨o, x, y⟩ => ⟨o, e.trans x, y⟩)))).trans e
/-- The world of the search: the distances in block g, the three variables of the search. -/
structure RS (w0 : World) (N M g n : Nat) (F : List Int) (r : Int) (k3 k4 k5 : Nat) (fu : Bool) (ds : List Deferred) (W : World) : Prop where
  below : Below w0.heap.size w0 W
  far : W.heap[g]? = some (.cells (F.map iv).toArray 3 (0, 0))
  c3 : One W k3 (.slice (some ⟨g, 0, none⟩) n n)
  c4 : One W k4 (.int .i64 r)
  c5 : One W k5 (.bool fu)
  mrk : Mk N M ds W
  ge : w0.heap.size ≤ g ∧ g < N ∧ N ≤ k3 ∧ N ≤ k4 ∧ N ≤ k5 ∧ k3 ≠ k4 ∧ k3 ≠ k5 ∧ k4 ≠ k5 ∧ w0.heap.size ≤ N ∧ k3 < M ∧ k4 < M ∧ k5 < M ∧ M ≤ W.heap.size
section
variable {w0 : World} {N M g n : Nat} {F : List Int} {r : Int} {k3 k4 k5 : Nat} {fu : Bool} {ds : List Deferred} {W W' : World}
theorem RS.alloc (h : RS w0 N M g n F r k3 k4 k5 fu ds W) (o : Obj) : RS w0 N M g n F r k3 k4 k5 fu ds (W.alloc o) where
  below := h.below.alloc h.below.size o
  far := (Below.heap_alloc _ _ _ (row_lt h.far)).trans h.far
  c3 := h.c3.alloc o
  c4 := h.c4.alloc o
  c5 := h.c5.alloc o
  mrk := h.mrk.keep fun r _ _ h => Below.heap_alloc _ _ _ (row_lt h)
  ge := by have := h.ge; simp only [World.size_alloc]; omega
theorem RS.same {m : Nat} {C : Nat → Prop} (h : RS w0 N M g n F r k3 k4 k5 fu ds W) (s : Same m C W W') (hM : M ≤ m) : RS w0 N M g n F r k3 k4 k5 fu ds W' where
  below := Below.same h.below s (by have := h.ge; omega) (Nat.le_refl _)
  far := (s.block g (row_lt h.far) (.inl (by have := h.ge; omega))).trans h.far
  c3 := h.c3.same s (by have := h.ge; omega)
  c4 := h.c4.same s (by have := h.ge; omega)
  c5 := h.c5.same s (by have := h.ge; omega)
  mrk := h.mrk.keep fun r _ h2 h => s.block r (row_lt h) (.inl (by omega))
  ge := by have := h.ge; have := s.size; omega
theorem RS.later (h : RS w0 N M g n F r k3 k4 k5 fu ds W) (b : Below W.heap.size W W') : RS w0 N M g n F r k3 k4 k5 fu ds W' := h.same (C := fun _ => False) (m := W.heap.size) (Same.of_below b) h.ge.2.2.2.2.2.2.2.2.2.2.2.2
theorem RS.drew (h : RS w0 N M g n F r k3 k4 k5 fu ds W) : RS w0 N M g n F r k3 k4 k5 fu ds W.drew := h.later (Below.refl _ _).drew
theorem RS.set5 (h : RS w0 N M g n F r k3 k4 k5 fu ds W) (b : Bool) : RS w0 N M g n F r k3 k4 k5 b ds (W.setCell ⟨k5, 0, none⟩ (.bool b)) where
  below := h.below.setCell (p := ⟨k5, 0, none⟩) (by have := h.ge; show _ ≤ k5; omega) _
  far := set_far h.far (by have := h.ge; omega) _ _
  c3 := h.c3.of_block (Below.heap_setCell _ _ _ _ (by have := h.ge; show k3 ≠ k5; omega)) (by simp [World.setCell])
  c4 := h.c4.of_block (Below.heap_setCell _ _ _ _ (by have := h.ge; show k4 ≠ k5; omega)) (by simp [World.setCell])
  c5 := h.c5.set _
  mrk := h.mrk.keep fun r _ _ hd => Below.heap_setCell _ _ _ _ (fun e => by have e : r = k5 := e; subst e; exact h.c5.cells hd)
  ge := by have := h.ge; simp only [World.setCell, Array.size_modify]; omega
theorem RS.set4 (h : RS w0 N M g n F r k3 k4 k5 fu ds W) (b : Int) : RS w0 N M g n F b k3 k4 k5 fu ds (W.setCell ⟨k4, 0, none⟩ (.int .i64 b)) where
  below := h.below.setCell (p := ⟨k4, 0, none⟩) (by have := h.ge; show _ ≤ k4; omega) _
  far := set_far h.far (by have := h.ge; omega) _ _
  c3 := h.c3.of_block (Below.heap_setCell _ _ _ _ (by have := h.ge; show k3 ≠ k4; omega)) (by simp [World.setCell])
  c4 := h.c4.set _
  c5 := h.c5.of_block (Below.heap_setCell _ _ _ _ (by have := h.ge; show k5 ≠ k4; omega)) (by simp [World.setCell])
  mrk := h.mrk.keep fun r _ _ hd => Below.heap_setCell _ _ _ _ (fun e => by have e : r = k4 := e; subst e; exact h.c4.cells hd)
  ge := by have := h.ge; simp only [World.setCell, Array.size_modify]; omega
theorem RS.setF (h : RS w0 N M g n F r k3 k4 k5 fu ds W) (v : Nat) (x : Int) : RS w0 N M g n (F.set v x) r k3 k4 k5 fu ds (W.setCell ⟨g, v, none⟩ (.int .i64 x)) where
  below := h.below.setCell (p := ⟨g, v, none⟩) (by have := h.ge; show _ ≤ g; omega) _
  far := by rw [set_row h.far]; simp [List.map_set]
  c3 := h.c3.of_block (Below.heap_setCell _ _ _ _ (by have := h.ge; show k3 ≠ g; omega)) (by simp [World.setCell])
  c4 := h.c4.of_block (Below.heap_setCell _ _ _ _ (by have := h.ge; show k4 ≠ g; omega)) (by simp [World.setCell])
  c5 := h.c5.of_block (Below.heap_setCell _ _ _ _ (by have := h.ge; show k5 ≠ g; omega)) (by simp [World.setCell])
  mrk := h.mrk.keep fun r _ _ hd => Below.heap_setCell _ _ _ _ (fun e => by have e : r = g := e; subst e; rw [h.far] at hd; cases hd)
  ge := by have := h.ge; simp only [World.setCell, Array.size_modify]; omega
theorem RS.at (h : RS w0 N M g n F r k3 k4 k5 fu ds W) {v : Nat} (hv : v < F.length) : W.cell? ⟨g, v, none⟩ = some (.int .i64 (F.getD v 0)) ∧ W.frozen? ⟨g, v, none⟩ = false :=
  ⟨row_cell h.far v _ (by simp [List.getD_eq_getElem?_getD, hv]), row_free h.far v⟩
theorem RS.wide (h : RS w0 N M g n F r k3 k4 k5 fu ds W) {M' : Nat} (h1 : M ≤ M') (h2 : M' ≤ W.heap.size) : RS w0 N M' g n F r k3 k4 k5 fu ds W :=
  ⟨h.below, h.far, h.c3, h.c4, h.c5, h.mrk.wide h1, by have := h.ge; omega⟩
theorem RS.mark (h : RS w0 N M g n F r k3 k4 k5 fu ds W) {M' : Nat} (h1 : M < M') (h2 : M' ≤ W.heap.size) (hk : W.heap[M]? = some (.deferred (some []))) : RS w0 N M' g n F r k3 k4 k5 fu ({ target := .collected M, args := #[] } :: ds) W :=
  ⟨h.below, h.far, h.c3, h.c4, h.c5, h.mrk.more h1 (by have := h.ge; omega) hk, by have := h.ge; omega⟩
end
end Go.Proofs.Ytpdmpekkmblgmaa
