/-
  What Floor returns: the greatest whole number that is not greater.
-/
import Derived.Test.YtiigmohnmkgfoaaDoorIter
namespace Go.Proofs.YtiigmohnmkgfoaaDoor
open Go.ChangeShapes Go.WideShapes Go.ChangeAt Go.RowKit Go.Shelf
set_option linter.unusedVariables false
set_option linter.unusedSimpArgs false
attribute [local go_sem] Oper.semAt_some

/-- Block k holds one cell, v, that may be written. -/
def One (W : World) (k : Nat) (v : Value) : Prop := W.cell? ⟨k, 0, none⟩ = some v ∧ W.frozen? ⟨k, 0, none⟩ = false ∧ k < W.heap.size
theorem One.new (W : World) (v : Value) (t : TypeId) : One (W.alloc (.cells #[v] t)) W.heap.size v := ⟨by simp, by simp, by simp⟩
theorem One.alloc {W : World} {k : Nat} {v : Value} (h : One W k v) (o : Obj) : One (W.alloc o) k v :=
  ⟨(World.cell?_alloc_past _ _ _ h.2.2).trans h.1, (World.frozen?_alloc_past _ _ _ h.2.2).trans h.2.1, by have := h.2.2; simp; omega⟩
theorem One.at {W : World} {k k' : Nat} {v : Value} (h : One W k v) (e : k = k') : One W k' v := e ▸ h
theorem One.of_block {W W' : World} {c : Nat} {v : Value} (h : One W c v) (e : W'.heap[c]? = W.heap[c]?) (hs : W.heap.size ≤ W'.heap.size) : One W' c v :=
  ⟨(World.cell?_of_block (w := W) (a := ⟨c, 0, none⟩) e).trans h.1, (World.frozen?_of_block (w := W) (a := ⟨c, 0, none⟩) e).trans h.2.1, Nat.lt_of_lt_of_le h.2.2 hs⟩
theorem One.same {W W' : World} {n c : Nat} {C : Nat → Prop} {v : Value} (h : One W c v) (s : Same n C W W') (hc : c < n) : One W' c v :=
  h.of_block (s.block c h.2.2 (.inl hc)) s.size
theorem One.below {W W' : World} {c : Nat} {v : Value} (h : One W c v) (s : Below W.heap.size W W') : One W' c v :=
  h.of_block (s.block c h.2.2) s.size
theorem One.set {W : World} {c : Nat} {v : Value} (h : One W c v) (v' : Value) : One (W.setCell ⟨c, 0, none⟩ v') c v' :=
  ⟨World.cell?_setCell_same _ _ _ h.1, by simpa using h.2.1, by simpa using h.2.2⟩
theorem Below.same {n m : Nat} {w A B : World} {C : Nat → Prop} (h : Below n w A) (s : Same m C A B) (hn : n ≤ m) (hw : n ≤ w.heap.size) : Below n w B :=
  h.trans ((s.mono hn).below (Nat.le_trans hw h.size))
theorem Two.putObj {W : World} {c l : Nat} {v0 v1 : Value} (h : Two W c v0 v1) (hn : c ≠ l) (o : Obj) : Two (W.putObj l o) c v0 v1 :=
  h.of_block (World.putObj_heap_other hn) (by simp)
theorem One.putObj {W : World} {c l : Nat} {v : Value} (h : One W c v) (hn : c ≠ l) (o : Obj) : One (W.putObj l o) c v :=
  h.of_block (World.putObj_heap_other hn) (by simp)
theorem Turn.setOld {n : Nat} {C : Nat → Prop} {A : World} (hC : ∀ b, C b → n ≤ b ∧ b < A.heap.size) {k : Nat} (hk : k < n) (o : Nat) (v : Value) : Turn n C C A (A.setCell ⟨k, o, none⟩ v) :=
  ⟨by simp [World.setCell], fun b h1 _ _ => Below.heap_setCell _ _ _ _ (by show b ≠ k; omega), fun b hb => ⟨(hC b hb).1, by simpa [World.setCell] using (hC b hb).2, .inl hb⟩⟩
theorem below_putObj {n : Nat} {w A : World} (h : Below n w A) {l : Nat} (hl : n ≤ l) (o : Obj) : Below n w (A.putObj l o) :=
  h.trans ⟨rfl, rfl, rfl, by simp, fun k hk => World.putObj_heap_other (by omega)⟩

theorem terms_mk (n d : Int) (w : World) :
    Calls Tryd.prog 59 #[fr n d] w fun e w' => e = .returned (.func (.func 67) #[] #[.pointer (some ⟨w.heap.size, 0, none⟩)]) ∧ Two w' w.heap.size (.int .i64 n) (.int .i64 d) ∧ Below w.heap.size w w' ∧ w'.heap.size = w.heap.size + 1 :=
  (terms_any n d w).mono fun e w' h => by
    obtain ⟨he, rfl⟩ := h
    exact ⟨he, Two.new _ _ _ _, (Below.refl _ w).alloc (Nat.le_refl _) _, by simp⟩

set_option maxRecDepth 100000 in
set_option maxHeartbeats 2000000 in
theorem floor_any (n d : Int) (w : World) (hn : I64 n) (hd : 0 < d) (hd' : d ≤ 9223372036854775807) :
    Calls Tryd.prog 49 #[fr n d] w fun e w' => e = .returned (.int .i64 (n / d)) ∧ Below w.heap.size w w' := by
  refine (callsIn_wide (n := 2)).1 ?_
  refine callsIn_of_wp_marks Tryd.func49 rfl trivial ?_
  simp only [Tryd.ntmps49, List.size_toArray, List.length_cons, List.length_nil, Nat.reduceAdd, Nat.reduceSub, Array.replicate_succ, Array.replicate_zero, List.push_toArray, List.append_toArray, List.nil_append, List.cons_append]
  gi_wp2_with (refine ⟨trivial, ?_⟩; gi_at_call 59; refine (callsIn_wide.2 (terms_mk _ _ _)).mono ?_; rintro e w1 ⟨rfl, T1, hb1, Z1⟩)
  replace T1 := T1.at (k' := w.heap.size + 1 + 1) (by simp)
  have O1 : One w1 (w.heap.size + 1) (.int .i64 0) := ((One.new _ _ _).at (by simp)).below hb1
  have B1 : Below w.heap.size w w1 := (((Below.refl _ w).alloc (Nat.le_refl _) _).alloc (by simp) _).trans (hb1.mono (by simp; omega))
  replace Z1 : w1.heap.size = w.heap.size + 3 := by rw [Z1]; simp
  clear hb1
  refine range_turns (gf := 67) (lb := #[.pointer (some ⟨w.heap.size + 1 + 1, 0, none⟩)]) rfl (enters_of Tryd.func67 (by kernel_rfl) rfl)
    (terms_gives n d (w.heap.size + 1 + 1) w1 hn (by omega) hd' T1) (Below.refl _ _) (fun _ => rfl)
    (fun k C W => k = 0 ∧ One W (w.heap.size + 1) (.int .i64 0) ∧ Below w.heap.size w W)
    (fun c C W => c = .ret ∧ One W (w.heap.size + 1) (.int .i64 (n / d)) ∧ Below w.heap.size w W)
    (fun k C A B h s => ⟨h.1, h.2.1.same s (by omega), Below.same h.2.2 s (by omega) (Nat.le_refl _)⟩)
    (fun c C A B h s => ⟨h.1, h.2.1.same s (by omega), Below.same h.2.2 s (by omega) (Nat.le_refl _)⟩)
    ⟨rfl, O1, B1⟩
    (fun x a' W => ∃ c, w1.heap.size + 2 ≤ c ∧ Two W c (.int .i64 x.1) (.bool x.2) ∧ a' = { tmps := #[fr n d, .pointer (some ⟨w.heap.size, 0, none⟩), .pointer (some ⟨w.heap.size + 1, 0, none⟩), .pointer (some ⟨c, 0, none⟩), fr n d, .func (.func 67) #[] #[.pointer (some ⟨w.heap.size + 1 + 1, 0, none⟩)], stp x.1 x.2, undef, undef], defers := [] })
    (fun x a' A o h => by obtain ⟨c, hc, hT, e⟩ := h; exact ⟨c, hc, hT.putObj (by omega) o, e⟩)
    ?assign ?body ?done ?stop
  case assign =>
    intro k x W C K hi hs hK
    gi_wp2
    exact hK _ _ ⟨W.heap.size, hs, Two.new _ _ _ _, rfl⟩ ((Below.refl _ W).alloc (Nat.le_refl _) _)
  case body =>
    rintro k x C a' W ⟨rfl, O2, B2⟩ ⟨c, hc, T2, rfl⟩ hx hs hC
    obtain ⟨q0, q1, f0, f1, z⟩ := id T2
    obtain ⟨o0, o1, oz⟩ := id O2
    rw [tms_pos n hd] at hx
    simp at hx
    subst hx
    gi_wp2
    exact ⟨C, ⟨rfl, O2.set _, B2.setCell (p := ⟨w.heap.size + 1, 0, none⟩) (by simp) _⟩, Turn.setOld (fun b hb => by have := hC b hb; omega) (by omega) _ _⟩
  case done =>
    rintro C W ⟨h, _, _⟩ _ _
    rw [tms_pos n hd] at h
    simp at h
  case stop =>
    rintro c C W ⟨rfl, O2, B2⟩ hK hC
    gi_wp2
    refine ⟨by simp, .inl ⟨_, _, rfl, run_takeDeferred hK, ?_⟩⟩
    have O3 := O2.putObj (l := w1.heap.size) (by omega) (.deferred none)
    refine ⟨.int .i64 (n / d), ?_, rfl, below_putObj B2 (by omega) _⟩
    simp [results, Tryd.results49, go_sem, O3.1]

end Go.Proofs.YtiigmohnmkgfoaaDoor
