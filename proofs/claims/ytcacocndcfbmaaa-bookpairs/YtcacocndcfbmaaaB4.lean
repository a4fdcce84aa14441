/-
  Package book: the sum over entries: what it rests on.
-/
import Derived.Test.YtcacocndcfbmaaaB3
import Derived.Test.YtcacocndcfbmaaaB1
namespace Go.Proofs.Ytcacocndcfbmaaa
open Go.ChangeShapes Go.WideShapes Go.ChangeAt Go.RowKit Go.Maps Go.Shelf
set_option linter.unusedVariables false
set_option linter.unusedSimpArgs false
attribute [local go_sem] Oper.semAt_some

section
variable {F : Fence} {n : Nat} {P : Program} {ops : Array Oper} {Q : Exit → Act → World → Prop} {md : Region.Mode} {S : World → Prop}
/-- Two operations may come now. -/
theorem anyInH_two (i j : Nat) {o p : Oper} {fuel : Nat} {listed : Array Bool} {a : Act} {w : World} (hr : Region.ready md ops listed = [i, j]) (ho : ops[i]? = some o) (hp : ops[j]? = some p) (hw : Region.wanted o (yielded ops a.tmps) = true) (hv : Region.wanted p (yielded ops a.tmps) = true)
    (h : ∀ K : Act → World → Prop, Shut (∀ a' w', S w' → (S w' → wpAnyInH F n P md ops Q S fuel (listed.setIfInBounds i true) a' w') → K a' w') → Oper.wpIn F n P o a w K Q)
    (k : ∀ K : Act → World → Prop, Shut (∀ a' w', S w' → (S w' → wpAnyInH F n P md ops Q S fuel (listed.setIfInBounds j true) a' w') → K a' w') → Oper.wpIn F n P p a w K Q) : wpAnyInH F n P md ops Q S (fuel + 1) listed a w := by
  refine ⟨fun h0 => (by rw [hr] at h0; cases h0), ?_⟩
  rw [hr]
  intro q hq
  have e : q = i ∨ q = j := by simpa using hq
  unfold wpOpIn
  rcases e with e | e
  · subst e
    simp only [ho]
    rw [if_pos hw]
    exact h _ (fun a' w' h1 h2 => ⟨h1, h2 h1⟩)
  · subst e
    simp only [hp]
    rw [if_pos hv]
    exact k _ (fun a' w' h1 h2 => ⟨h1, h2 h1⟩)
end
theorem wpIn_append_int {F : Fence} {n : Nat} {w : World} {o : Oper} {a : Act} {K : Act → World → Prop} {Q : Exit → Act → World → Prop}
    (s x : Operand) (hop : o.op = Op.call { callee := Callee.builtin Builtin.append, args := #[s, x], argTypes := #[44, 44] })
    (base : Nat) (v : Value) (k : Nat) (xs : List Value) (hs : a.eval s = v) (hown : w.ownsRow base 2 1 v k xs) (ad : Addr) (y : Int) (hx : a.eval x = .slice (some ad) 1 1)
    (hc : ∀ j u, [iv y][j]? = some u → w.cell? (ad.add j) = some u) (b2 : (k + 1) * 8 ≤ 140737488355328) (b3 : base ≤ w.heap.size)
    (hK : ∀ g cap w', w'.ownsRow base 2 1 (.slice (some ⟨g, 0, none⟩) (k + 1) cap) (k + 1) (xs ++ [iv y]) → w.grownBy w' v.ownBlock → (v.ownBlock = some g ∨ g = w.heap.size) → K (a.put o.dst (.slice (some ⟨g, 0, none⟩) (k + 1) cap)) w') : Oper.wpIn F n Try.prog o a w K Q := by
  obtain ⟨g, cap, w', hrun, r1, r2, r4⟩ := run_append_int o.type hown hc b2 b3
  unfold Oper.wpIn
  refine ⟨?_, ?_⟩
  · simp [Oper.about, hop, resolve, Target.leads, Sem.run_pure]
  · rw [Oper.semAt_plain F _ _ (by rw [hop]; intro c hc'; cases hc')]
    simp [execOp, hop, resolve, invoke, builtin, hs, hx, hrun, Result.andThen]
    exact hK g cap w' r1 r2 r4
/-- The variable in block b holds a list of its own; C: the block where it lies, if that is not below M. -/
def HoldsN (e size M : Nat) (W : World) (b base : Nat) (C : Nat → Prop) (n : Nat) (xs : List Value) : Prop :=
  ∃ v, One W b v ∧ W.ownsRow base e size v n xs ∧ (∀ g, C g ↔ (v.ownBlock = some g ∧ M ≤ g)) ∧ v.ownBlock ≠ some b
theorem HoldsN.same {e size M : Nat} {W W' : World} {b base : Nat} {C : Nat → Prop} {m : Nat} {xs : List Value} (h : HoldsN e size M W b base C m xs) (s : Same M C W W') (hb : b < M) : HoldsN e size M W' b base C m xs := by
  obtain ⟨v, h1, h2, h3, h4⟩ := h
  refine ⟨v, h1.same s hb, owns_of_block h2 (fun g hg => s.block g (h2.lt g hg).2 ?_), h3, h4⟩
  by_cases c : g < M
  · exact .inl c
  · exact .inr ((h3 g).2 ⟨hg, by omega⟩)
theorem HoldsN.grow {e size M : Nat} {W Wm W1 : World} {b base : Nat} {C : Nat → Prop} {m : Nat} {ys : List Value} {v : Value} {g cap : Nat}
    (h1 : One W b v) (h3 : ∀ g, C g ↔ (v.ownBlock = some g ∧ M ≤ g)) (h4 : v.ownBlock ≠ some b) (hb : b < M) (hn : M ≤ W.heap.size) (bm : Below W.heap.size W Wm)
    (r1 : W1.ownsRow base e size (.slice (some ⟨g, 0, none⟩) (m + 1) cap) (m + 1) ys) (r2 : Wm.grownBy W1 v.ownBlock) (r3 : v.ownBlock = some g ∨ g = Wm.heap.size) :
    One W1 b v ∧ HoldsN e size M (W1.setCell ⟨b, 0, none⟩ (.slice (some ⟨g, 0, none⟩) (m + 1) cap)) b base (fun k => k = g ∧ M ≤ g) (m + 1) ys ∧
      Turn M C (fun k => k = g ∧ M ≤ g) W (W1.setCell ⟨b, 0, none⟩ (.slice (some ⟨g, 0, none⟩) (m + 1) cap)) ∧ b ≠ g ∧ (∀ q, q < W.heap.size → q ≠ b → some q ≠ v.ownBlock → (W1.setCell ⟨b, 0, none⟩ (.slice (some ⟨g, 0, none⟩) (m + 1) cap)).heap[q]? = W.heap[q]?) := by
  have hz := bm.size
  have hz1 := r2.size
  have hbz := h1.2.2
  have hbv : some b ≠ v.ownBlock := fun e => h4 e.symm
  have hbg : b ≠ g := by
    rintro rfl
    rcases r3 with h | h
    · exact h4 h
    · omega
  have hgs : g < W1.heap.size := (r1.lt g rfl).2
  have o1 : One W1 b v := h1.of_block ((r2.block b (by omega) hbv).trans (bm.block b hbz)) (by omega)
  have far : ∀ q, q < W.heap.size → q ≠ b → some q ≠ v.ownBlock → (W1.setCell ⟨b, 0, none⟩ (.slice (some ⟨g, 0, none⟩) (m + 1) cap)).heap[q]? = W.heap[q]? := fun q hq h5 h6 => (set_far rfl h5 _ _).trans ((r2.block q (by omega) h6).trans (bm.block q hq))
  refine ⟨o1, ⟨_, o1.set _, ?_, fun k => ⟨fun e => ⟨by rw [e.1]; rfl, by rw [e.1]; exact e.2⟩, fun e => ?_⟩, fun e => hbg (by simpa [Value.ownBlock] using e.symm)⟩, ⟨?_, ?_, ?_⟩, hbg, far⟩
  · exact owns_of_block r1 (fun g' hg' => Below.heap_setCell _ _ _ _ (fun e => hbg (((show g = g' by simpa [Value.ownBlock] using hg').trans e).symm)))
  · have e1 : g = k := by simpa [Value.ownBlock] using e.1
    exact ⟨e1.symm, by rw [e1]; exact e.2⟩
  · simp [World.setCell]; omega
  · intro k h5 h6 h7
    exact far k h6 (by omega) (fun e => h7 ((h3 k).2 ⟨e.symm, h5⟩))
  · rintro k ⟨rfl, h5⟩
    refine ⟨h5, by simpa [World.setCell] using hgs, ?_⟩
    rcases r3 with h | h
    · exact .inl ((h3 k).2 ⟨h, h5⟩)
    · right; omega
def cntT (p : Int × Int) : Int := p.2
def cntE (p : Int × Int) : Int := -p.2
def cntR (peer : Int) (p : Int × Int) : Int := if p.1 = peer then 0 else -p.2
def cntB (peer : Int) (p : Int × Int) : Int := if p.1 = peer then p.2 else 0
theorem cntT_any (p : Int × Int) (w : World) : Calls Try.prog 27 #[.int .i64 p.1, .int .i64 p.2] w fun e w' => e = .returned (.int .i64 (cntT p)) ∧ w' = w := by
  unfold cntT
  go_enter Try.func27, Try.ntmps27
  go_wp2
  go_ret
  exact ⟨rfl, rfl⟩
theorem cntE_any (p : Int × Int) (w : World) (h : -2147483647 ≤ p.2 ∧ p.2 ≤ 2147483647) : Calls Try.prog 30 #[.int .i64 p.1, .int .i64 p.2] w fun e w' => e = .returned (.int .i64 (cntE p)) ∧ w' = w := by
  have hw : IntKind.i64.wrap (-p.2) = -p.2 := by rw [IntKind.wrap_i64]; omega
  unfold cntE
  go_enter Try.func30, Try.ntmps30
  go_wp2
  go_ret
  exact ⟨by first | rfl | rw [hw], rfl⟩
theorem cntR_any (peer : Int) (pb : Nat) (p : Int × Int) (w : World) (h : -2147483647 ≤ p.2 ∧ p.2 ≤ 2147483647) (O : One w pb (.int .i64 peer)) : Calls Try.prog 31 #[.int .i64 p.1, .int .i64 p.2, .pointer (some ⟨pb, 0, none⟩)] w fun e w' => e = .returned (.int .i64 (cntR peer p)) ∧ w' = w := by
  have hw : IntKind.i64.wrap (-p.2) = -p.2 := by rw [IntKind.wrap_i64]; omega
  obtain ⟨o0, o1, o2⟩ := O
  unfold cntR
  by_cases hp : p.1 = peer
  · have hq : (p.1 == peer) = true := by simpa using hp
    rw [if_pos hp]
    clear hp
    go_enter Try.func31, Try.ntmps31
    go_wp2
    go_ret
    exact ⟨rfl, rfl⟩
  · have hq : (p.1 == peer) = false := by simpa using hp
    rw [if_neg hp]
    clear hp
    go_enter Try.func31, Try.ntmps31
    go_wp2
    go_ret
    exact ⟨by first | rfl | rw [hw], rfl⟩
theorem cntB_any (peer : Int) (pb : Nat) (p : Int × Int) (w : World) (O : One w pb (.int .i64 peer)) : Calls Try.prog 32 #[.int .i64 p.1, .int .i64 p.2, .pointer (some ⟨pb, 0, none⟩)] w fun e w' => e = .returned (.int .i64 (cntB peer p)) ∧ w' = w := by
  obtain ⟨o0, o1, o2⟩ := O
  unfold cntB
  by_cases hp : p.1 = peer
  · have hq : (p.1 == peer) = true := by simpa using hp
    rw [if_pos hp]
    clear hp
    go_enter Try.func32, Try.ntmps32
    go_wp2
    go_ret
    exact ⟨rfl, rfl⟩
  · have hq : (p.1 == peer) = false := by simpa using hp
    rw [if_neg hp]
    clear hp
    go_enter Try.func32, Try.ntmps32
    go_wp2
    go_ret
    exact ⟨rfl, rfl⟩
theorem KeepE.far {w0 A B : World} {fb : Nat} {id : Int} {v : Value} {name : ByteArray} (h : KeepE w0 fb id v name A) (hb : Below w0.heap.size w0 B) (hz : A.heap.size ≤ B.heap.size) (far : ∀ q, fb ≤ q → q < fb + 3 → B.heap[q]? = A.heap[q]?) : KeepE w0 fb id v name B :=
  ⟨hb, h.id_.of_block (far _ (by omega) (by omega)) hz, h.lst.of_block (far _ (by omega) (by omega)) hz, h.nm.of_block (far _ (by omega) (by omega)) hz⟩
end Go.Proofs.Ytcacocndcfbmaaa
