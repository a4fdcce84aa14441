/- A law of our own on 'for .. := range f': the iterator may keep cells of its own, and lay new ones between two rounds; the caller may own blocks that its rounds laid. Conditions: no defer statement in a round, no panic in a round. -/
import Derived.RangeFuncRecord
import Derived.RangeFuncSeq
import Derived.ControlIn
import Derived.CallsIn
import Derived.Below
namespace Go.Proofs.Ytpdmpekkmblgmaa
open Go Go.RowKit

/-- From A to B what lies below n, and what is the caller's (C), is as it was. -/
structure Same (n : Nat) (C : Nat → Prop) (A B : World) : Prop where
  os : B.os = A.os
  tape : B.tape = A.tape
  output : B.output = A.output
  size : A.heap.size ≤ B.heap.size
  block : ∀ b, b < A.heap.size → (b < n ∨ C b) → B.heap[b]? = A.heap[b]?

/-- A round from A to B: of what lies from n on it turns only what is the caller's; what becomes the caller's is new. -/
structure Turn (n : Nat) (C C' : Nat → Prop) (A B : World) : Prop where
  size : A.heap.size ≤ B.heap.size
  keep : ∀ b, n ≤ b → b < A.heap.size → ¬ C b → B.heap[b]? = A.heap[b]?
  mine : ∀ b, C' b → n ≤ b ∧ b < B.heap.size ∧ (C b ∨ A.heap.size ≤ b)

theorem Same.refl (n : Nat) (C : Nat → Prop) (A : World) : Same n C A A := ⟨rfl, rfl, rfl, Nat.le_refl _, fun _ _ _ => rfl⟩
theorem Same.trans {n : Nat} {C : Nat → Prop} {A B D : World} (h : Same n C A B) (k : Same n C B D) : Same n C A D :=
  ⟨k.os.trans h.os, k.tape.trans h.tape, k.output.trans h.output, Nat.le_trans h.size k.size,
    fun b hb hc => (k.block b (Nat.lt_of_lt_of_le hb h.size) hc).trans (h.block b hb hc)⟩
theorem Same.mono {n m : Nat} {C : Nat → Prop} {A B : World} (h : Same n C A B) (hm : m ≤ n) : Same m C A B :=
  ⟨h.os, h.tape, h.output, h.size, fun b hb hc => h.block b hb (hc.imp (fun x => Nat.lt_of_lt_of_le x hm) id)⟩
theorem Same.below {n : Nat} {C : Nat → Prop} {A B : World} (h : Same n C A B) (hn : n ≤ A.heap.size) : Below n A B :=
  ⟨h.os, h.tape, h.output, h.size, fun b hb => h.block b (Nat.lt_of_lt_of_le hb hn) (.inl hb)⟩
theorem Same.alloc (n : Nat) (C : Nat → Prop) (A : World) (o : Obj) : Same n C A (A.alloc o) :=
  ⟨rfl, rfl, rfl, by simp, fun b hb _ => Below.heap_alloc _ _ _ hb⟩
theorem Same.drew {n : Nat} {C : Nat → Prop} {A B : World} (h : Same n C A B) : Same n C A B.drew := ⟨h.os, h.tape, h.output, h.size, h.block⟩
theorem Same.setCell {n : Nat} {C : Nat → Prop} {A B : World} (h : Same n C A B) {p : Addr} (hp : n ≤ p.block) (hc : ¬ C p.block) (v : Value) : Same n C A (B.setCell p v) :=
  h.trans ⟨rfl, rfl, rfl, by simp [World.setCell], fun b _ hb => Below.heap_setCell _ _ _ _ (fun e => by subst e; rcases hb with hb | hb; exact absurd hb (by omega); exact hc hb)⟩
theorem Same.putObj {n : Nat} {C : Nat → Prop} {A B : World} (h : Same n C A B) {l : Nat} (hp : n ≤ l) (hc : ¬ C l) (o : Obj) : Same n C A (B.putObj l o) :=
  h.trans ⟨rfl, rfl, rfl, by simp, fun b _ hb => World.putObj_heap_other (fun e => by subst e; rcases hb with hb | hb; exact absurd hb (by omega); exact hc hb)⟩
/-- Whatever keeps all that lay. -/
theorem Same.of_below {n : Nat} {C : Nat → Prop} {A B : World} (h : Below A.heap.size A B) : Same n C A B :=
  ⟨h.os, h.tape, h.output, h.size, fun b hb _ => h.block b hb⟩
theorem Turn.of_below {n : Nat} {C : Nat → Prop} {A B : World} (h : Below A.heap.size A B) (hC : ∀ b, C b → n ≤ b ∧ b < A.heap.size) : Turn n C C A B :=
  ⟨h.size, fun b _ hb _ => h.block b hb, fun b hb => ⟨(hC b hb).1, Nat.lt_of_lt_of_le (hC b hb).2 h.size, .inl hb⟩⟩
theorem Turn.trans {n : Nat} {C C' C'' : Nat → Prop} {A B D : World} (h : Turn n C C' A B) (k : Turn n C' C'' B D) : Turn n C C'' A D :=
  ⟨Nat.le_trans h.size k.size,
    fun b hn hb hc => (k.keep b hn (Nat.lt_of_lt_of_le hb h.size) (fun hc' => by rcases (h.mine b hc').2.2 with x | x; exact hc x; omega)).trans (h.keep b hn hb hc),
    fun b hb => ⟨(k.mine b hb).1, (k.mine b hb).2.1, by
      rcases (k.mine b hb).2.2 with x | x
      · exact (h.mine b x).2.2
      · exact .inr (Nat.le_trans h.size x)⟩⟩

/-- An iterator, the function g with what it has captured, that hands out just xs: whatever loop takes them. -/
def Gives {α : Type} (P : Program) (g : Nat) (lb : Array Value) (encs : α → Array Value) (xs : List α) (w : World) (Keep : World → Prop) : Prop :=
  ∀ (l : Nat) (J : Nat → (Nat → Prop) → World → Prop) (Jx : (Nat → Prop) → World → Prop) (W : World), Below w.heap.size w W →
    (∀ k C A B, J k C A → Same W.heap.size C A B → J k C B) → (∀ C A B, Jx C A → Same W.heap.size C A B → Jx C B) → (∀ k C A, J k C A → Keep A) →
    (∀ k C x W1, J k C W1 → W.heap.size ≤ W1.heap.size → (∀ b, C b → W.heap.size ≤ b ∧ b < W1.heap.size) → xs[k]? = some x →
      YieldAt Fence.wide 3 P l (encs x) W1 fun e W' =>
        (e = .returned (.bool true) ∧ ∃ C', J (k + 1) C' W' ∧ Turn W.heap.size C C' W1 W') ∨ (e = .returned (.bool false) ∧ ∃ C', Jx C' W' ∧ Turn W.heap.size C C' W1 W')) →
    J 0 (fun _ => False) W →
    Calls P g (#[.func (.yield l) #[] #[]] ++ lb) W fun e W' => (∃ v, e = .returned v) ∧
      ∃ C, (∀ b, C b → W.heap.size ≤ b ∧ b < W'.heap.size) ∧ (J xs.length C W' ∨ Jx C W')

/-- How a round's body may be left. -/
def turnPost (n : Nat) (I : Nat → (Nat → Prop) → World → Prop) (Ix : Code → (Nat → Prop) → World → Prop) (k : Nat) (C : Nat → Prop) (W : World) : Exit → Act → World → Prop
  | .normal, _, W' => ∃ C', I (k + 1) C' W' ∧ Turn n C C' W W'
  | .ret, _, W' => ∃ C', Ix .ret C' W' ∧ Turn n C C' W W'
  | .exit id, _, W' => ∃ C', Ix (.exit id) C' W' ∧ Turn n C C' W W'
  | .goto t, _, W' => ∃ C', Ix (.goto t) C' W' ∧ Turn n C C' W W'
  | .panic _, _, _ => False
  | .outgrown, _, _ => False

theorem RoundIn.wideAny {m m' : Nat} {P : Program} {l : Nat} {f : FuncId} {tmps : Array Value} {assign body : Code} {w : World} {R : Ending → World → Prop}
    (h : RoundIn Fence.wide m P l f tmps assign body w R) : RoundIn Fence.wide m' P l f tmps assign body w R :=
  ⟨h.1, fun c cs _ => h.2 c cs (room_wide _)⟩

/-- The statement, over an iterator that hands out xs. -/
theorem range_turns {α : Type} {P : Program} {n : Nat} {g : Operand} {ps : Array Tmp} {assign body : Code} {Q : Exit → Act → World → Prop} {a : Act} {w : World}
    {gf : Nat} {lb : Array Value} (hg : a.eval g = .func (.func gf) #[] lb) (eg : ∀ args w, (callFunc gf args).run P w = .ok (.enter gf args) w)
    {encs : α → Array Value} {xs : List α} {w0 : World} {Keep : World → Prop} (hseq : Gives P gf lb encs xs w0 Keep) (hb0 : Below w0.heap.size w0 w) (hps : ∀ x, (encs x).size = ps.size)
    (I : Nat → (Nat → Prop) → World → Prop) (Ix : Code → (Nat → Prop) → World → Prop)
    (hKeep : ∀ k C A, I k C A → Keep A) (hI : ∀ k C A B, I k C A → Same w.heap.size C A B → I k C B) (hIx : ∀ c C A B, Ix c C A → Same w.heap.size C A B → Ix c C B)
    (h0 : I 0 (fun _ => False) w) (Ax : α → Act → World → Prop)
    (hAx : ∀ x a' A o, Ax x a' A → Ax x a' (A.putObj (w.heap.size + 1) o))
    (hassign : ∀ (k : Nat) (x : α) (W : World) (C : Nat → Prop) (K : Act → World → Prop), I k C W → w.heap.size + 2 ≤ W.heap.size →
      (∀ a' W', Ax x a' W' → Below W.heap.size W W' → K a' W') →
      assign.wpIn (Fence.wide.inRound (w.heap.size + 1)) 3 P (Exit.then K (fun _ _ _ => False)) { tmps := (ps.zip (encs x)).foldl (fun t (p, v) => t.setIfInBounds p v) a.tmps, defers := [] } W)
    (hbody : ∀ (k : Nat) (x : α) (C : Nat → Prop) (a' : Act) (W : World), I k C W → Ax x a' W → xs[k]? = some x → w.heap.size + 2 ≤ W.heap.size →
      (∀ b, C b → w.heap.size + 2 ≤ b ∧ b < W.heap.size) → body.wpIn (Fence.wide.inRound (w.heap.size + 1)) 3 P (turnPost w.heap.size I Ix k C W) a' W)
    (hdone : ∀ (C : Nat → Prop) (W : World), I xs.length C W → W.heap[w.heap.size]? = some (.deferred (some [])) → (∀ b, C b → w.heap.size + 2 ≤ b ∧ b < W.heap.size) →
      Q .normal { a with defers := { target := .collected w.heap.size, args := #[] } :: a.defers } W)
    (hstop : ∀ (c : Code) (C : Nat → Prop) (W : World), Ix c C W → W.heap[w.heap.size]? = some (.deferred (some [])) → (∀ b, C b → w.heap.size + 2 ≤ b ∧ b < W.heap.size) →
      c.wpIn Fence.wide n P Q { a with defers := { target := .collected w.heap.size, args := #[] } :: a.defers } W) :
    (Code.rangeFunc g ps assign body).wpIn Fence.wide n P Q a w := by
  refine wpIn_rangeFunc ?_
  intro fn hfn
  obtain ⟨rec, hrec⟩ : ∃ rec : LoopState → Option Code → Loop, rec = fun st pe => { state := st, pending := pe, fn, tmps := a.tmps, params := ps, assign, body, defers := w.heap.size } := ⟨_, rfl⟩
  obtain ⟨W1, hW1⟩ : ∃ W1, (w.alloc (.deferred (some []))).alloc (.loop (rec .ready none)) = W1 := ⟨_, rfl⟩
  have hs1 : W1.heap.size = w.heap.size + 2 := by rw [← hW1]; simp
  have sm1 : Same w.heap.size (fun _ => False) w W1 := by rw [← hW1]; exact (Same.alloc _ _ _ _).trans (Same.alloc _ _ _ _)
  have hL1 : W1.heap[w.heap.size + 1]? = some (.loop (rec .ready none)) := by
    rw [← hW1]; have := World.alloc_heap_new (w.alloc (.deferred (some []))) (.loop (rec .ready none)); rwa [World.size_alloc] at this
  have hK1 : W1.heap[w.heap.size]? = some (.deferred (some [])) := by
    rw [← hW1]; exact (Below.heap_alloc _ _ _ (by simp)).trans (World.alloc_heap_new w _)
  have hb1 : Below w0.heap.size w0 W1 := hb0.trans ((sm1.below (Nat.le_refl _)).mono hb0.size)
  refine ⟨w.heap.size + 1, [{ target := .collected w.heap.size, args := #[] }], W1, { target := .fn (.func gf) lb, args := #[.func (.yield (w.heap.size + 1)) #[] #[]] }, W1, gf,
    #[.func (.yield (w.heap.size + 1)) #[] #[]] ++ lb, W1, ?_, ?_, ?_, ?_, ?_, ?_⟩
  · rw [← hW1, hrec]; exact run_enterLoop_outer _ _ _ _ _
  · simp only [resolve, hg]
    simp [go_sem]
  · intro f' hf'; exact trivial
  · simp [invoke, go_sem, eg]
  · intro h; exact absurd h (by simp [Fence.wide])
  · refine callsIn_wide.2 ?_
    have key := hseq (w.heap.size + 1)
      (fun k C W => I k C W ∧ W.heap[w.heap.size + 1]? = some (.loop (rec .ready none)) ∧ W.heap[w.heap.size]? = some (.deferred (some [])))
      (fun C W => ∃ c, Ix c C W ∧ W.heap[w.heap.size + 1]? = some (.loop (rec .done (some c))) ∧ W.heap[w.heap.size]? = some (.deferred (some [])))
      W1 hb1
      (fun k C A B h sm => ⟨hI k C A B h.1 (sm.mono (by omega)),
        (sm.block _ (Array.getElem?_eq_some_iff.1 h.2.1).1 (.inl (by omega))).trans h.2.1, (sm.block _ (Array.getElem?_eq_some_iff.1 h.2.2).1 (.inl (by omega))).trans h.2.2⟩)
      (fun C A B h sm => by
        obtain ⟨c, hc, hl, hk⟩ := h
        exact ⟨c, hIx c C A B hc (sm.mono (by omega)),
          (sm.block _ (Array.getElem?_eq_some_iff.1 hl).1 (.inl (by omega))).trans hl, (sm.block _ (Array.getElem?_eq_some_iff.1 hk).1 (.inl (by omega))).trans hk⟩)
      (fun k C A h => hKeep k C A h.1) ?_ ⟨hI _ _ _ _ h0 sm1, hL1, hK1⟩
    · refine key.mono ?_
      rintro e W2 ⟨⟨v, rfl⟩, C, hC, (⟨hi, hl, hk⟩ | ⟨c, hi, hl, hk⟩)⟩
      · have hCl : ¬ C (w.heap.size + 1) := fun h => by have := (hC _ h).1; omega
        refine ⟨none, _, by have := run_endLoop (P := P) hl (by rw [hrec]; simp); rw [hrec] at this; exact this, ?_⟩
        exact hdone C _ (hI _ _ _ _ hi ((Same.refl _ _ _).putObj (by omega) hCl _)) ((World.putObj_heap_other (by omega)).trans hk) (fun b hb => by have := hC b hb; simp; omega)
      · have hCl : ¬ C (w.heap.size + 1) := fun h => by have := (hC _ h).1; omega
        refine ⟨some c, _, by have := run_endLoop (P := P) hl (by rw [hrec]; simp); rw [hrec] at this; exact this, ?_⟩
        exact hstop c C _ (hIx _ _ _ _ hi ((Same.refl _ _ _).putObj (by omega) hCl _)) ((World.putObj_heap_other (by omega)).trans hk) (fun b hb => by have := hC b hb; simp; omega)
    · rintro k C x W ⟨hi, hl, hk⟩ hWs hC hx
      rw [hs1] at hWs hC
      have hCl : ¬ C (w.heap.size + 1) := fun h => by have := (hC _ h).1; omega
      have hy := run_yield (P := P) (args := encs x) hl (by rw [hrec]; exact hps x)
      rw [hrec] at hy
      refine ⟨fn, _, assign, body, hy, roundIn_of_wpIn hfn (hassign k x W C _ hi hWs ?_)⟩
      intro a' Wa hax hba
      have hla : Wa.heap[w.heap.size + 1]? = some (.loop (rec .ready none)) := (hba.block _ (by omega)).trans hl
      have hka : Wa.heap[w.heap.size]? = some (.deferred (some [])) := (hba.block _ (by omega)).trans hk
      have hsa := hba.size
      refine ⟨_, run_beginRound hla (by rw [hrec]), ?_⟩
      have hlt : w.heap.size + 1 < Wa.heap.size := by omega
      obtain ⟨Wb, hWb⟩ : ∃ Wb, Wa.putObj (w.heap.size + 1) (.loop { rec .ready none with state := .busy }) = Wb := ⟨_, rfl⟩
      rw [hWb]
      have hsb : Wb.heap.size = Wa.heap.size := by rw [← hWb]; simp
      have hlb : Wb.heap[w.heap.size + 1]? = some (.loop { rec .ready none with state := .busy }) := by rw [← hWb]; exact World.putObj_heap_same hlt
      have hkb : Wb.heap[w.heap.size]? = some (.deferred (some [])) := by rw [← hWb]; exact (World.putObj_heap_other (by omega)).trans hka
      have hib : I k C Wb := hI _ _ _ _ hi (by rw [← hWb]; exact (Same.of_below hba).putObj (by omega) hCl _)
      have haxb : Ax x a' Wb := by rw [← hWb]; exact hAx _ _ _ _ hax
      have tb : ∀ b, w.heap.size + 2 ≤ b → b < W.heap.size → Wb.heap[b]? = W.heap[b]? := fun b h1 h2 => by
        rw [← hWb]; exact (World.putObj_heap_other (by omega)).trans (hba.block b h2)
      have hCb : ∀ b, C b → w.heap.size + 2 ≤ b ∧ b < Wb.heap.size := fun b hb => by have := hC b hb; omega
      refine wpIn_mono (hbody k x C a' Wb hib haxb hx (by omega) hCb) ?_
      have fin : ∀ (jump : Option Code) (C' : Nat → Prop) (W3 : World), Turn w.heap.size C C' Wb W3 →
          (Instr.endRound (w.heap.size + 1) jump).run P W3 = .ok (.bool jump.isNone) (W3.putObj (w.heap.size + 1) (.loop (rec (if jump.isNone then .ready else .done) jump))) ∧
          ¬ C' (w.heap.size + 1) ∧
          (W3.putObj (w.heap.size + 1) (.loop (rec (if jump.isNone then .ready else .done) jump))).heap[w.heap.size + 1]? = some (.loop (rec (if jump.isNone then .ready else .done) jump)) ∧
          (W3.putObj (w.heap.size + 1) (.loop (rec (if jump.isNone then .ready else .done) jump))).heap[w.heap.size]? = some (.deferred (some [])) ∧
          Turn (w.heap.size + 2) C C' W (W3.putObj (w.heap.size + 1) (.loop (rec (if jump.isNone then .ready else .done) jump))) := fun jump C' W3 t3 => by
        have hl3 := (t3.keep _ (by omega) (by omega) hCl).trans hlb
        have hk3 := (t3.keep _ (Nat.le_refl _) (by omega) (fun h => by have := (hC _ h).1; omega)).trans hkb
        have hs3 := t3.size
        have hn' : ¬ C' (w.heap.size + 1) := fun h => by
          rcases (t3.mine _ h).2.2 with x | x
          · exact hCl x
          · omega
        have := run_endRound (P := P) jump hl3
        rw [hrec] at this ⊢
        refine ⟨this, hn', World.putObj_heap_same (Array.getElem?_eq_some_iff.1 hl3).1, (World.putObj_heap_other (by omega)).trans hk3, ?_⟩
        refine ⟨by simp; omega, fun b h1 h2 h3 => ?_, fun b hb => ?_⟩
        · exact (World.putObj_heap_other (by omega)).trans ((t3.keep b (by omega) (by omega) h3).trans (tb b h1 h2))
        · have m := t3.mine b hb
          refine ⟨?_, by simpa using m.2.1, ?_⟩
          · rcases m.2.2 with x | x
            · exact (hC b x).1
            · omega
          · rcases m.2.2 with x | x
            · exact .inl x
            · exact .inr (by omega)
      rintro e a3 W3 hp
      cases e with
      | normal =>
        obtain ⟨C', hi3, t3⟩ := hp
        obtain ⟨hr, hn', hl4, hk4, t4⟩ := fin none C' W3 t3
        exact ⟨_, _, hr, .inl ⟨rfl, C', ⟨hI _ _ _ _ hi3 ((Same.refl _ _ _).putObj (by omega) hn' _), hl4, hk4⟩, by rw [hs1]; exact t4⟩⟩
      | ret =>
        obtain ⟨C', hi3, t3⟩ := hp
        obtain ⟨hr, hn', hl4, hk4, t4⟩ := fin (some .ret) C' W3 t3
        exact ⟨_, _, hr, .inr ⟨rfl, C', ⟨.ret, hIx _ _ _ _ hi3 ((Same.refl _ _ _).putObj (by omega) hn' _), hl4, hk4⟩, by rw [hs1]; exact t4⟩⟩
      | exit id =>
        obtain ⟨C', hi3, t3⟩ := hp
        obtain ⟨hr, hn', hl4, hk4, t4⟩ := fin (some (.exit id)) C' W3 t3
        exact ⟨_, _, hr, .inr ⟨rfl, C', ⟨.exit id, hIx _ _ _ _ hi3 ((Same.refl _ _ _).putObj (by omega) hn' _), hl4, hk4⟩, by rw [hs1]; exact t4⟩⟩
      | goto t =>
        obtain ⟨C', hi3, t3⟩ := hp
        obtain ⟨hr, hn', hl4, hk4, t4⟩ := fin (some (.goto t)) C' W3 t3
        exact ⟨_, _, hr, .inr ⟨rfl, C', ⟨.goto t, hIx _ _ _ _ hi3 ((Same.refl _ _ _).putObj (by omega) hn' _), hl4, hk4⟩, by rw [hs1]; exact t4⟩⟩
      | panic ch => exact hp.elim
      | outgrown => exact hp.elim

end Go.Proofs.Ytpdmpekkmblgmaa
