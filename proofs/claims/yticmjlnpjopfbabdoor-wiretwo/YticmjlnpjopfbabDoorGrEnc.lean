/-
  The law WireItems, walked.
-/
import Derived.Test.YticmjlnpjopfbabDoorSRange
import Derived.Test.YticmjlnpjopfbabDoorGrSlots
import Derived.Test.YticmjlnpjopfbabDoorSBlocks
import Derived.Shelf.Abstract
import Derived.Shelf.RegionOpen
import Derived.OwnWalkIn
import Derived.TacticsInMore
import Derived.LoopNIn
import Derived.LoopIn
import Derived.Sort.LoopGhostIn
import Derived.Scope
import Derived.WalkMore
import Derived.Test.YticmjlnpjopfbabDoorFitH
import Derived.Test.YticmjlnpjopfbabDoorSSeal
import Derived.Test.YticmjlnpjopfbabDoorCFields
import Derived.Test.YticmjlnpjopfbabDoorCRead
import Derived.Test.YticmjlnpjopfbabDoorWire
import Derived.RangeFuncCalls
import Derived.Test.YticmjlnpjopfbabDoorSOpen
import Derived.Test.YticmjlnpjopfbabDoorCRefWrite
import Derived.Test.YticmjlnpjopfbabDoorSHeld
import Derived.Test.YticmjlnpjopfbabDoorFitC
import Derived.Test.YticmjlnpjopfbabDoorFitE
import Derived.Test.YticmjlnpjopfbabDoorFitA
import Derived.Deep.DeepCutAuto
namespace Go.Proofs.YticmjlnpjopfbabDoor
open Go Go.RowKit S

/-- A round from A to B: of what lies from n on it turns nothing. -/
structure Turn0 (n : Nat) (A B : World) : Prop where
  size : A.heap.size ≤ B.heap.size
  keep : ∀ b, n ≤ b → b < A.heap.size → B.heap[b]? = A.heap[b]?
theorem Turn0.of_below {n : Nat} {A B : World} (h : Below A.heap.size A B) : Turn0 n A B := ⟨h.size, fun b _ hb => h.block b hb⟩
theorem Turn0.trans {n : Nat} {A B D : World} (h : Turn0 n A B) (k : Turn0 n B D) : Turn0 n A D :=
  ⟨Nat.le_trans h.size k.size, fun b hn hb => (k.keep b hn (Nat.lt_of_lt_of_le hb h.size)).trans (h.keep b hn hb)⟩

/-- An iterator, the function g with what it has captured, called where m blocks lie, that hands out just xs; Out tells more of what it hands out. -/
def GivesM {α : Type} (P : Program) (g : Nat) (lb : Array Value) (encs : α → Array Value) (xs : List α) (m : Nat) (Out : α → World → Prop) (Keep : World → Prop) : Prop :=
  ∀ (l : Nat) (J : Nat → World → Prop) (Jx : World → Prop) (W : World), W.heap.size = m →
    (∀ k A B, J k A → Below m A B → J k B) → (∀ A B, Jx A → Below m A B → Jx B) → (∀ k A, J k A → Keep A) →
    (∀ k x W1, J k W1 → m ≤ W1.heap.size → xs[k]? = some x → Out x W1 →
      YieldAt Fence.wide 3 P l (encs x) W1 fun e W' =>
        (e = .returned (.bool true) ∧ J (k + 1) W' ∧ Turn0 m W1 W') ∨ (e = .returned (.bool false) ∧ Jx W' ∧ Turn0 m W1 W')) →
    J 0 W →
    Calls P g (#[.func (.yield l) #[] #[]] ++ lb) W fun e W' => (∃ v, e = .returned v) ∧ (J xs.length W' ∨ Jx W')

/-- How a round's body may be left. -/
def turnPost0 (n : Nat) (I : Nat → World → Prop) (Ix : Code → World → Prop) (k : Nat) (W : World) : Exit → Act → World → Prop
  | .normal, _, W' => I (k + 1) W' ∧ Turn0 n W W'
  | .ret, _, W' => Ix .ret W' ∧ Turn0 n W W'
  | .exit id, _, W' => Ix (.exit id) W' ∧ Turn0 n W W'
  | .goto t, _, W' => Ix (.goto t) W' ∧ Turn0 n W W'
  | .panic _, _, _ => False
  | .outgrown, _, _ => False

theorem below_putObj {n l : Nat} {A : World} (h : n ≤ l) (o : Obj) : Below n A (A.putObj l o) :=
  ⟨rfl, rfl, rfl, by simp, fun b hb => World.putObj_heap_other (by omega)⟩

/-- The statement, over an iterator that hands out xs. -/
theorem range_m {α : Type} {P : Program} {n : Nat} {g : Operand} {ps : Array Tmp} {assign body : Code} {Q : Exit → Act → World → Prop} {a : Act} {w : World}
    {gf : Nat} {lb : Array Value} (hg : a.eval g = .func (.func gf) #[] lb) (eg : ∀ args w, (callFunc gf args).run P w = .ok (.enter gf args) w)
    {encs : α → Array Value} {xs : List α} {m : Nat} {Out : α → World → Prop} {Keep : World → Prop} (hm : w.heap.size + 2 = m) (hseq : GivesM P gf lb encs xs m Out Keep) (hps : ∀ x, (encs x).size = ps.size)
    (I : Nat → World → Prop) (Ix : Code → World → Prop)
    (hKeep : ∀ k A, I k A → Keep A) (hI : ∀ k A B, I k A → Below w.heap.size A B → I k B) (hIx : ∀ c A B, Ix c A → Below w.heap.size A B → Ix c B)
    (h0 : I 0 w) (Ax : α → Act → World → Prop)
    (hAx : ∀ x a' A o, Ax x a' A → Ax x a' (A.putObj (w.heap.size + 1) o))
    (hassign : ∀ (k : Nat) (x : α) (W : World) (K : Act → World → Prop), I k W → w.heap.size + 2 ≤ W.heap.size → Out x W → xs[k]? = some x →
      (∀ a' W', Ax x a' W' → Below W.heap.size W W' → K a' W') →
      assign.wpIn (Fence.wide.inRound (w.heap.size + 1)) 3 P (Exit.then K (fun _ _ _ => False)) { tmps := (ps.zip (encs x)).foldl (fun t (p, v) => t.setIfInBounds p v) a.tmps, defers := [] } W)
    (hbody : ∀ (k : Nat) (x : α) (a' : Act) (W : World), I k W → Ax x a' W → xs[k]? = some x → w.heap.size + 2 ≤ W.heap.size →
      body.wpIn (Fence.wide.inRound (w.heap.size + 1)) 3 P (turnPost0 w.heap.size I Ix k W) a' W)
    (hdone : ∀ (W : World), I xs.length W → W.heap[w.heap.size]? = some (.deferred (some [])) →
      Q .normal { a with defers := { target := .collected w.heap.size, args := #[] } :: a.defers } W)
    (hstop : ∀ (c : Code) (W : World), Ix c W → W.heap[w.heap.size]? = some (.deferred (some [])) →
      c.wpIn Fence.wide n P Q { a with defers := { target := .collected w.heap.size, args := #[] } :: a.defers } W) :
    (Code.rangeFunc g ps assign body).wpIn Fence.wide n P Q a w := by
  refine wpIn_rangeFunc ?_
  intro fn hfn
  obtain ⟨rec, hrec⟩ : ∃ rec : LoopState → Option Code → Loop, rec = fun st pe => { state := st, pending := pe, fn, tmps := a.tmps, params := ps, assign, body, defers := w.heap.size } := ⟨_, rfl⟩
  obtain ⟨W1, hW1⟩ : ∃ W1, (w.alloc (.deferred (some []))).alloc (.loop (rec .ready none)) = W1 := ⟨_, rfl⟩
  have hs1 : W1.heap.size = w.heap.size + 2 := by rw [← hW1]; simp
  have sm1 : Below w.heap.size w W1 := by rw [← hW1]; exact ((Below.refl _ _).alloc (Nat.le_refl _) _).alloc (by simp) _
  have hL1 : W1.heap[w.heap.size + 1]? = some (.loop (rec .ready none)) := by
    rw [← hW1]; have := World.alloc_heap_new (w.alloc (.deferred (some []))) (.loop (rec .ready none)); rwa [World.size_alloc] at this
  have hK1 : W1.heap[w.heap.size]? = some (.deferred (some [])) := by
    rw [← hW1]; exact (Below.heap_alloc _ _ _ (by simp)).trans (World.alloc_heap_new w _)
  refine ⟨w.heap.size + 1, [{ target := .collected w.heap.size, args := #[] }], W1, { target := .fn (.func gf) lb, args := #[.func (.yield (w.heap.size + 1)) #[] #[]] }, W1, gf,
    #[.func (.yield (w.heap.size + 1)) #[] #[]] ++ lb, W1, ?_, ?_, ?_, ?_, ?_, ?_⟩
  · rw [← hW1, hrec]; exact run_enterLoop_outer _ _ _ _ _
  · simp only [resolve, hg]
    simp [go_sem]
  · intro f' hf'; exact trivial
  · simp [invoke, go_sem, eg]
  · intro h; exact absurd h (by simp [Fence.wide])
  · refine callsIn_wide.2 ?_
    have key := hseq (w.heap.size + 1)
      (fun k W => I k W ∧ W.heap[w.heap.size + 1]? = some (.loop (rec .ready none)) ∧ W.heap[w.heap.size]? = some (.deferred (some [])))
      (fun W => ∃ c, Ix c W ∧ W.heap[w.heap.size + 1]? = some (.loop (rec .done (some c))) ∧ W.heap[w.heap.size]? = some (.deferred (some [])))
      W1 (hs1.trans hm)
      (fun k A B h sm => ⟨hI k A B h.1 (sm.mono (by omega)), (sm.block _ (by omega)).trans h.2.1, (sm.block _ (by omega)).trans h.2.2⟩)
      (fun A B h sm => by
        obtain ⟨c, hc, hl, hk⟩ := h
        exact ⟨c, hIx c A B hc (sm.mono (by omega)), (sm.block _ (by omega)).trans hl, (sm.block _ (by omega)).trans hk⟩)
      (fun k A h => hKeep k A h.1) ?_ ⟨hI _ _ _ h0 sm1, hL1, hK1⟩
    · refine key.mono ?_
      rintro e W2 ⟨⟨v, rfl⟩, (⟨hi, hl, hk⟩ | ⟨c, hi, hl, hk⟩)⟩
      · refine ⟨none, _, by have := run_endLoop (P := P) hl (by rw [hrec]; simp); rw [hrec] at this; exact this, ?_⟩
        exact hdone _ (hI _ _ _ hi (below_putObj (by omega) _)) ((World.putObj_heap_other (by omega)).trans hk)
      · refine ⟨some c, _, by have := run_endLoop (P := P) hl (by rw [hrec]; simp); rw [hrec] at this; exact this, ?_⟩
        exact hstop c _ (hIx _ _ _ hi (below_putObj (by omega) _)) ((World.putObj_heap_other (by omega)).trans hk)
    · rintro k x W ⟨hi, hl, hk⟩ hWs hx hOut
      rw [← hm] at hWs
      have hy := run_yield (P := P) (args := encs x) hl (by rw [hrec]; exact hps x)
      rw [hrec] at hy
      refine ⟨fn, _, assign, body, hy, roundIn_of_wpIn hfn (hassign k x W _ hi hWs hOut hx ?_)⟩
      intro a' Wa hax hba
      have hla : Wa.heap[w.heap.size + 1]? = some (.loop (rec .ready none)) := (hba.block _ (by omega)).trans hl
      have hka : Wa.heap[w.heap.size]? = some (.deferred (some [])) := (hba.block _ (by omega)).trans hk
      have hsa := hba.size
      refine ⟨_, run_beginRound hla (by rw [hrec]), ?_⟩
      have hlt : w.heap.size + 1 < Wa.heap.size := by omega
      obtain ⟨Wb, hWb⟩ : ∃ Wb, Wa.putObj (w.heap.size + 1) (.loop { rec .ready none with state := .busy }) = Wb := ⟨_, rfl⟩
      rw [hWb]
      have hsb : Wb.heap.size = Wa.heap.size := by rw [← hWb]; simp
      have hlb : Wb.heap[w.heap.size + 1]? = some (.loop { rec .ready none with state := .busy }) := by rw [← hWb]; exact World.putObj_heap_same hlt
      have hkb : Wb.heap[w.heap.size]? = some (.deferred (some [])) := by rw [← hWb]; exact (World.putObj_heap_other (by omega)).trans hka
      have hib : I k Wb := hI _ _ _ hi (by rw [← hWb]; exact (hba.mono (by omega)).trans (below_putObj (by omega) _))
      have haxb : Ax x a' Wb := by rw [← hWb]; exact hAx _ _ _ _ hax
      have tb : ∀ b, w.heap.size + 2 ≤ b → b < W.heap.size → Wb.heap[b]? = W.heap[b]? := fun b h1 h2 => by
        rw [← hWb]; exact (World.putObj_heap_other (by omega)).trans (hba.block b h2)
      refine wpIn_mono (hbody k x a' Wb hib haxb hx (by omega)) ?_
      have fin : ∀ (jump : Option Code) (W3 : World), Turn0 w.heap.size Wb W3 →
          (Instr.endRound (w.heap.size + 1) jump).run P W3 = .ok (.bool jump.isNone) (W3.putObj (w.heap.size + 1) (.loop (rec (if jump.isNone then .ready else .done) jump))) ∧
          (W3.putObj (w.heap.size + 1) (.loop (rec (if jump.isNone then .ready else .done) jump))).heap[w.heap.size + 1]? = some (.loop (rec (if jump.isNone then .ready else .done) jump)) ∧
          (W3.putObj (w.heap.size + 1) (.loop (rec (if jump.isNone then .ready else .done) jump))).heap[w.heap.size]? = some (.deferred (some [])) ∧
          Turn0 m W (W3.putObj (w.heap.size + 1) (.loop (rec (if jump.isNone then .ready else .done) jump))) := fun jump W3 t3 => by
        have hl3 := (t3.keep _ (by omega) (by omega)).trans hlb
        have hk3 := (t3.keep _ (Nat.le_refl _) (by omega)).trans hkb
        have hs3 := t3.size
        have := run_endRound (P := P) jump hl3
        rw [hrec] at this ⊢
        refine ⟨this, World.putObj_heap_same (Array.getElem?_eq_some_iff.1 hl3).1, (World.putObj_heap_other (by omega)).trans hk3, ?_⟩
        refine ⟨by simp; omega, fun b h1 h2 => ?_⟩
        exact (World.putObj_heap_other (by omega)).trans ((t3.keep b (by omega) (by omega)).trans (tb b (by omega) h2))
      rintro e a3 W3 hp
      cases e with
      | normal =>
        obtain ⟨hi3, t3⟩ := hp
        obtain ⟨hr, hl4, hk4, t4⟩ := fin none W3 t3
        exact ⟨_, _, hr, .inl ⟨rfl, ⟨hI _ _ _ hi3 (below_putObj (by omega) _), hl4, hk4⟩, t4⟩⟩
      | ret =>
        obtain ⟨hi3, t3⟩ := hp
        obtain ⟨hr, hl4, hk4, t4⟩ := fin (some .ret) W3 t3
        exact ⟨_, _, hr, .inr ⟨rfl, ⟨.ret, hIx _ _ _ hi3 (below_putObj (by omega) _), hl4, hk4⟩, t4⟩⟩
      | exit id =>
        obtain ⟨hi3, t3⟩ := hp
        obtain ⟨hr, hl4, hk4, t4⟩ := fin (some (.exit id)) W3 t3
        exact ⟨_, _, hr, .inr ⟨rfl, ⟨.exit id, hIx _ _ _ hi3 (below_putObj (by omega) _), hl4, hk4⟩, t4⟩⟩
      | goto t =>
        obtain ⟨hi3, t3⟩ := hp
        obtain ⟨hr, hl4, hk4, t4⟩ := fin (some (.goto t)) W3 t3
        exact ⟨_, _, hr, .inr ⟨rfl, ⟨.goto t, hIx _ _ _ hi3 (below_putObj (by omega) _), hl4, hk4⟩, t4⟩⟩
      | panic ch => exact hp.elim
      | outgrown => exact hp.elim

end Go.Proofs.YticmjlnpjopfbabDoor

namespace Go.Proofs.YticmjlnpjopfbabDoor
open Go.ChangeShapes Go.WideShapes Go.ChangeAt Go.RowKit Go.Shelf
open C (Fld)
open S (One One.new One.alloc One.at One.of_block One.below)
set_option linter.unusedVariables false
set_option linter.unusedSimpArgs false
attribute [local go_sem] Oper.semAt_some

theorem wide_scope {n : Nat} {P : Program} {c : Code} {Q : Exit → Act → World → Prop} {a : Act} {w : World} (h : c.wpIn Fence.wide n P (Exit.noGoto Q) a w) : (Code.scope c).wpIn Fence.wide n P Q a w :=
  wpIn_wide.2 (wp_scope_straight (wpIn_wide.1 h))

/-- What is handed out: the slots, and the fields that lie there. -/
def hdX (pb m : Nat) (p : Pkt) (len : Nat) : List (Slt × Fld) := (hdS pb m).zip (hdG p len)
def itX (b o : Nat) (x : Itm) : List (Slt × Fld) := (itS b o).zip (itG x)
def itsX (b off : Nat) : List Itm → Nat → List (Slt × Fld)
  | [], _ => []
  | x :: l, i => itX b (off + i * 19) x ++ itsX b off l (i + 1)
def slX (pb m b off : Nat) (p : Pkt) (len : Nat) : List (Slt × Fld) := hdX pb m p len ++ itsX b off p.items 0
theorem hdX_len (pb m : Nat) (p : Pkt) (len : Nat) : (hdX pb m p len).length = 8 := rfl
theorem itX_len (b o : Nat) (x : Itm) : (itX b o x).length = 19 := rfl
theorem itsX_len (b off : Nat) (l : List Itm) : ∀ i, (itsX b off l i).length = 19 * l.length := by
  induction l with
  | nil => intro i; rfl
  | cons x l ih => intro i; simp only [itsX, List.length_append, itX_len, ih, List.length_cons]; omega
theorem slX_len (pb m b off : Nat) (p : Pkt) (len : Nat) (h : p.items.length = len) : (slX pb m b off p len).length = 8 + 19 * len := by
  simp only [slX, List.length_append, hdX_len, itsX_len, h]
theorem itsX_at (b off : Nat) (l : List Itm) : ∀ (i0 i j : Nat), j < 19 → i < l.length → (itsX b off l i0)[19 * i + j]? = (itX b (off + (i0 + i) * 19) (l.getD i itZ))[j]? := by
  induction l with
  | nil => intro i0 i j _ h; simp at h
  | cons x l ih =>
    intro i0 i j hj hi
    cases i with
    | zero =>
      simp only [itsX, Nat.mul_zero, Nat.zero_add, Nat.add_zero, List.getD_cons_zero]
      rw [List.getElem?_append_left (by rw [itX_len]; exact hj)]
    | succ i =>
      simp only [itsX, List.getD_cons_succ]
      rw [List.getElem?_append_right (by rw [itX_len]; omega), itX_len, show 19 * (i + 1) + j - 19 = 19 * i + j by omega, ih (i0 + 1) i j hj (by simpa using hi), show i0 + 1 + i = i0 + (i + 1) by omega]
theorem slX_hd (pb m b off : Nat) (p : Pkt) (len : Nat) (j : Nat) (hj : j < 8) : (slX pb m b off p len)[j]? = (hdX pb m p len)[j]? := by
  unfold slX; rw [List.getElem?_append_left (by rw [hdX_len]; exact hj)]
theorem slX_it (pb m b off : Nat) (p : Pkt) (len : Nat) (i j : Nat) (hj : j < 19) (hi : i < p.items.length) : (slX pb m b off p len)[8 + 19 * i + j]? = (itX b (off + i * 19) (p.items.getD i itZ))[j]? := by
  unfold slX
  rw [List.getElem?_append_right (by rw [hdX_len]; omega), hdX_len, show 8 + 19 * i + j - 8 = 19 * i + j by omega, itsX_at _ _ _ _ _ _ hj hi, Nat.zero_add]
theorem zip_at {α β : Type} {l : List α} {k : List β} {j : Nat} {x : α} {y : β} (h : l[j]? = some x) (g : k[j]? = some y) : (l.zip k)[j]? = some (x, y) := by
  rw [List.getElem?_zip_eq_some]; exact ⟨h, g⟩

/-- What the iterator leans on: the variable that holds where the packet lies, the packet, its items. -/
structure KeepF (q pb : Nat) (p : Pkt) (a : Option Addr) (len cap : Nat) (A : World) : Prop where
  var : One A q (.pointer (some ⟨pb, 0, none⟩))
  pkt : PkAt A pb p a len cap
  row : RowI A a len cap p.items

theorem fields_any (pb : Nat) (w : World) :
    Calls Tryd.prog 17 #[.pointer (some ⟨pb, 0, none⟩)] w fun e w' => e = .returned (.func (.func 30) #[] #[.pointer (some ⟨w.heap.size, 0, none⟩)]) ∧ w' = w.alloc (.cells #[.pointer (some ⟨pb, 0, none⟩)] 52) := by
  have hmf : ∀ (fn : Fn) (first cap : Array Value) (w : World), (Instr.makeFunc fn first cap).run Tryd.prog w = .ok (.func fn first cap) w := fun _ _ _ _ => rfl
  go_enter Tryd.func17, Tryd.ntmps17
  go_wp2
  go_ret
  exact ⟨rfl, rfl⟩

set_option maxRecDepth 100000 in
set_option maxHeartbeats 8000000 in
theorem fields_gives (q pb m b off : Nat) (p : Pkt) (a : Option Addr) (len cap : Nat) (ha : 0 < len → a = some ⟨b, off, none⟩) :
    GivesM Tryd.prog 30 #[.pointer (some ⟨q, 0, none⟩)] (fun x : Slt × Fld => #[x.1.v]) (slX pb m b off p len) m (fun x W => SlotAt W x.1 x.2) (KeepF q pb p a len cap) := by
  intro l J Jx W hWm hJ hJx hKeep hY h0
  subst hWm
  have KF := hKeep _ _ h0
  have HL : Hid (p.items.length = len) := KF.row.size
  have hle := KF.row.le
  have hcp := KF.row.max
  obtain ⟨o0, of0, oz0⟩ := id KF.var
  have c7 := KF.pkt 7 _ rfl
  refine (callsIn_wide (n := 2)).1 ?_
  refine callsIn_of_wp Tryd.func30 rfl trivial ?_
  simp only [Tryd.ntmps30, List.size_toArray, List.length_cons, List.length_nil, Nat.reduceAdd, Nat.reduceSub, Array.replicate_succ, Array.replicate_zero, List.push_toArray, List.append_toArray, List.nil_append, List.cons_append]
  gi_wp2
  refine wide_scope ?_
  gi_wp2_with (refine ⟨trivial, ?_⟩; gi_at_call 31; refine (callsIn_wide.2 (head_slots pb W.heap.size _)).mono ?_; rintro e w1 ⟨rfl, hb1⟩)
  have B1 : Below W.heap.size W w1 := ((Below.refl _ _).alloc (Nat.le_refl _) _).trans (hb1.mono (by simp))
  have O1 : One w1 W.heap.size (.int .i64 (len : Int)) := (One.new W _ 3).below hb1
  clear hb1 o0 of0 oz0 c7 KF
  gi_loopg [16] 8 (fun g c wr => ∃ k : Nat, c = .int .i64 k ∧ k + g = 8 ∧ J k wr ∧ One wr W.heap.size (.int .i64 (len : Int)))
  case atStart => exact ⟨0, rfl, by omega, hJ _ _ _ h0 B1, O1⟩
  case round =>
    obtain ⟨k, rfl, hg, hJk, Oc⟩ := hrel
    have HG : Hid (k + gk = 8) := hg
    have hk8 : k ≤ 8 := by omega
    clear hg
    by_cases hk : k < 8
    · obtain ⟨s, hs⟩ : ∃ s, (hdS pb W.heap.size)[k]? = some s := ⟨_, List.getElem?_eq_getElem (by rw [hdS_len]; exact hk)⟩
      have hix := hd_ix pb W.heap.size k s hs
      have hsz := Oc.2.2
      obtain ⟨f, hf, hS⟩ := slot_hd (n := len) (hKeep _ _ hJk).pkt hsz Oc.1 k s hs
      have hx : (slX pb W.heap.size b off p len)[k]? = some (s, f) := by rw [slX_hd _ _ _ _ _ _ _ hk]; exact zip_at hs hf
      obtain ⟨kd, q1, q2, q3, q4⟩ := s
      have Ba : Below wr.heap.size wr (wr.alloc (.cells #[.int .i64 kd, .pointer q1, .pointer q2, .pointer q3, .pointer q4] 58)) := (Below.refl _ _).alloc (Nat.le_refl _) _
      obtain ⟨fn, tmps, assign, body, hy, hR⟩ := hY k (⟨kd, q1, q2, q3, q4⟩, f) (wr.alloc (.cells #[.int .i64 kd, .pointer q1, .pointer q2, .pointer q3, .pointer q4] 58)) (hJ _ _ _ hJk (Ba.mono (by omega))) (by have := Ba.size; omega) hx (hS.below Ba)
      have Oa := Oc.below Ba
      dsimp only [Slt.v] at hy hix
      clear hS hx hf hs
      gi_wp2
      refine (S.RoundIn.wideAny hR).mono ?_
      clear hR hy hix
      rintro e W3 (⟨rfl, hJ3, t3⟩ | ⟨rfl, hx3, t3⟩)
      · have O3 : One W3 W.heap.size (.int .i64 (len : Int)) := Oa.of_block (t3.keep _ (Nat.le_refl _) Oa.2.2) t3.size
        clear hY
        gi_wp2
        gi_roundg (gk - 1)
        case measure => have := HG.out; omega
        case rel => exact ⟨k + 1, by first | rfl | go_num, by have := HG.out; omega, hJ3, O3⟩
      · clear hY
        gi_wp2
        exact ⟨rfl, _, results_none rfl _ _ _, ⟨_, rfl⟩, .inr hx3⟩
    · obtain rfl : k = 8 := by omega
      clear HG hk hk8
      rename World => wa
      rename Nat => gk0
      gi_wp2
      refine wpIn_label ?_
      obtain ⟨d0, d1, d2⟩ := id Oc
      gi_wp2
      clear d0 d1 d2
      gi_loopg [25] len (fun g c wr => ∃ i : Nat, c = .int .i64 i ∧ i + g = len ∧ J (8 + 19 * i) wr ∧ One wr W.heap.size (.int .i64 (len : Int)))
      case atStart => exact ⟨0, rfl, by omega, hJk, Oc⟩
      case round =>
        rename World => wo
        rename Nat => gko
        clear hJk Oc
        obtain ⟨i, rfl, hg, hJi, Oc⟩ := hrel
        have HGo : Hid (i + gko = len) := hg
        have hi8 : i ≤ len := by omega
        clear hg
        by_cases hi : i < len
        · have hI : (i : Int) < (len : Int) := by omega
          have hne : ((i : Int) == (len : Int)) = false := by simp; omega
          obtain rfl := ha (by omega)
          have KF := hKeep _ _ hJi
          obtain ⟨o0, of0, oz0⟩ := id KF.var
          have c7 := KF.pkt 7 _ rfl
          gi_wp2_with (refine ⟨trivial, ?_⟩; gi_at_call 32; refine (callsIn_wide.2 (parts_slots b (off + i * 19) _)).mono ?_; rintro e w2 ⟨rfl, hb2⟩)
          have hzo := Oc.2.2
          have J2 := hJ _ _ _ hJi (hb2.mono (Nat.le_of_lt hzo))
          have O2 := Oc.below hb2
          clear hb2 o0 of0 oz0 c7 KF hJi Oc
          gi_loopg [52] 19 (fun g c wr => ∃ j : Nat, c = .int .i64 j ∧ j + g = 19 ∧ J (8 + 19 * i + j) wr ∧ One wr W.heap.size (.int .i64 (len : Int)))
          case atStart => exact ⟨0, rfl, by omega, J2, O2⟩
          case round =>
            clear J2 O2
            obtain ⟨k, rfl, hg, hJk, Oc⟩ := hrel
            have HG : Hid (k + gk = 19) := hg
            have hk8 : k ≤ 19 := by omega
            clear hg
            by_cases hk : k < 19
            · obtain ⟨s, hs⟩ : ∃ s, (itS b (off + i * 19))[k]? = some s := ⟨_, List.getElem?_eq_getElem (by rw [itS_len]; exact hk)⟩
              have hix := it_ix b (off + i * 19) k s hs
              have hsz := Oc.2.2
              have RR := (hKeep _ _ hJk).row
              obtain ⟨b', off', hbo, hbz, hIt⟩ := RR.mem.resolve_left (by omega)
              cases hbo
              obtain ⟨f, hf, hS⟩ := slot_it hbz (hIt i hi) k s hs
              have hx : (slX pb W.heap.size b off p len)[8 + 19 * i + k]? = some (s, f) := by rw [slX_it _ _ _ _ _ _ _ _ hk (by have := HL.out; omega)]; exact zip_at hs hf
              obtain ⟨kd, q1, q2, q3, q4⟩ := s
              have Ba : Below wr.heap.size wr (wr.alloc (.cells #[.int .i64 kd, .pointer q1, .pointer q2, .pointer q3, .pointer q4] 58)) := (Below.refl _ _).alloc (Nat.le_refl _) _
              obtain ⟨fn, tmps, assign, body, hy, hR⟩ := hY (8 + 19 * i + k) (⟨kd, q1, q2, q3, q4⟩, f) (wr.alloc (.cells #[.int .i64 kd, .pointer q1, .pointer q2, .pointer q3, .pointer q4] 58)) (hJ _ _ _ hJk (Ba.mono (by omega))) (by have := Ba.size; omega) hx (hS.below Ba)
              have Oa := Oc.below Ba
              dsimp only [Slt.v] at hy hix
              clear hS hx hf hs RR hIt
              gi_wp2
              refine (S.RoundIn.wideAny hR).mono ?_
              clear hR hy hix
              rintro e W3 (⟨rfl, hJ3, t3⟩ | ⟨rfl, hx3, t3⟩)
              · have O3 : One W3 W.heap.size (.int .i64 (len : Int)) := Oa.of_block (t3.keep _ (Nat.le_refl _) Oa.2.2) t3.size
                clear hY
                gi_wp2
                gi_roundg (gk - 1)
                case measure => have := HG.out; omega
                case rel => exact ⟨k + 1, by first | rfl | go_num, by have := HG.out; omega, hJ3, O3⟩
              · clear hY
                gi_wp2
                exact ⟨rfl, _, results_none rfl _ _ _, ⟨_, rfl⟩, .inr hx3⟩
            · obtain rfl : k = 19 := by omega
              clear hk hk8 hY
              gi_wp2
              gi_roundg (gko - 1)
              case measure => have := HGo.out; omega
              case rel => exact ⟨i + 1, by first | rfl | go_num, by have := HGo.out; omega, by rw [show 8 + 19 * (i + 1) = 8 + 19 * i + 19 by omega]; exact hJk, Oc⟩
        · have HE : Hid ((slX pb W.heap.size b off p len).length = 8 + 19 * i) := by show _ = _; rw [slX_len _ _ _ _ _ _ HL.out]; omega
          obtain rfl : i = len := by omega
          gi_wp2
          exact ⟨rfl, _, results_none rfl _ _ _, ⟨_, rfl⟩, .inl (by rw [HE.out]; exact hJi)⟩
end Go.Proofs.YticmjlnpjopfbabDoor

namespace Go.Proofs.YticmjlnpjopfbabDoor
open Go.ChangeShapes Go.WideShapes Go.ChangeAt Go.RowKit Go.Shelf
open C (Fld fcells)
open S (One One.new One.alloc One.at One.of_block One.below Tab info5)
set_option linter.unusedVariables false
set_option linter.unusedSimpArgs false

/-- A row of fields that is being made in the block g: k of N are there. -/
def Room (W : World) (g k N : Nat) (fs : List Fld) : Prop := fs.length = k ∧ k ≤ N ∧ N ≤ maxLen ∧ ∃ cur : Array Value, W.heap[g]? = some (.cells cur 60 (0, 0)) ∧ cur.size = N * 4 ∧ cur.toList.take (k * 4) = fs.flatMap fcells
theorem flat_len (fs : List Fld) : (fs.flatMap fcells).length = fs.length * 4 := by
  induction fs with
  | nil => rfl
  | cons f fs ih => simp only [List.flatMap_cons, List.length_append, ih, fcells, List.length_cons, List.length_nil]; omega
theorem Room.of_block {W W' : World} {g k N : Nat} {fs : List Fld} (h : Room W g k N fs) (hb : W'.heap[g]? = W.heap[g]?) : Room W' g k N fs := by
  obtain ⟨h1, h2, h3, cur, c1, c2, c3⟩ := h
  exact ⟨h1, h2, h3, cur, hb.trans c1, c2, c3⟩
theorem Room.lt {W : World} {g k N : Nat} {fs : List Fld} (h : Room W g k N fs) : g < W.heap.size := by
  obtain ⟨h1, h2, h3, cur, c1, c2, c3⟩ := h
  exact (Array.getElem?_eq_some_iff.1 c1).1
theorem Room.below {W W' : World} {g k N : Nat} {fs : List Fld} (h : Room W g k N fs) (hb : Below W.heap.size W W') : Room W' g k N fs := h.of_block (hb.block g h.lt)
theorem room_new {w w' : World} {base n : Nat} (h : w'.ownsRow base 60 4 (.slice (some ⟨w.heap.size, 0, none⟩) 0 n) 0 []) : Room w' w.heap.size 0 n [] := by
  rcases h.2 with ⟨h0, _⟩ | ⟨g, cap, cur, hv, hb, hg, hn, hm, hs, ht⟩
  · cases h0
  · cases hv
    exact ⟨rfl, Nat.zero_le _, hm, cur, hg, hs, by simp⟩
theorem info75 : (Tryd.prog.info? 60).map (fun i => (i.zero, i.size, i.bytes)) = some (some (.agg #[.int .i64 0, .int .i64 0, .string ⟨#[]⟩, .bool false]), 4, 40) := by kernel_rfl

def Slt.blk (s : Slt) : Nat := match s.q1, s.q2, s.q3, s.q4 with
  | some a, _, _, _ => a.block
  | _, some a, _, _ => a.block
  | _, _, some a, _ => a.block
  | _, _, _, some a => a.block
  | _, _, _, _ => 0
theorem SlotAt.of_block {W W' : World} {s : Slt} {f : Fld} (h : SlotAt W s f) (hb : W'.heap[s.blk]? = W.heap[s.blk]?) (hs : W.heap.size ≤ W'.heap.size) : SlotAt W' s f := by
  rcases h with ⟨b, o, x, rfl, rfl, h, c⟩ | ⟨b, o, x, rfl, rfl, h, c⟩ | ⟨b, o, x, rfl, rfl, h, c⟩ | ⟨b, o, x, rfl, rfl, h, c⟩ | ⟨b, o, x, rfl, rfl, h, c⟩
  · exact SlotAt.small b o x (Nat.lt_of_lt_of_le h hs) ((World.cell?_of_block (a := ⟨b, o, none⟩) hb).trans c)
  · exact SlotAt.num b o x (Nat.lt_of_lt_of_le h hs) ((World.cell?_of_block (a := ⟨b, o, none⟩) hb).trans c)
  · exact SlotAt.sgn b o x (Nat.lt_of_lt_of_le h hs) ((World.cell?_of_block (a := ⟨b, o, none⟩) hb).trans c)
  · exact SlotAt.text b o x (Nat.lt_of_lt_of_le h hs) ((World.cell?_of_block (a := ⟨b, o, none⟩) hb).trans c)
  · exact SlotAt.truth b o x (Nat.lt_of_lt_of_le h hs) ((World.cell?_of_block (a := ⟨b, o, none⟩) hb).trans c)
theorem hdS_blk {pb cb : Nat} {s : Slt} (h : s ∈ hdS pb cb) : s.blk = pb ∨ s.blk = cb := by
  simp only [hdS, List.mem_cons, List.not_mem_nil, or_false] at h
  rcases h with rfl | rfl | rfl | rfl | rfl | rfl | rfl | rfl <;> first | exact .inl rfl | exact .inr rfl
theorem itS_blk {b o : Nat} {s : Slt} (h : s ∈ itS b o) : s.blk = b := by
  simp only [itS, List.mem_cons, List.not_mem_nil, or_false] at h
  rcases h with rfl | rfl | rfl | rfl | rfl | rfl | rfl | rfl | rfl | rfl | rfl | rfl | rfl | rfl | rfl | rfl | rfl | rfl | rfl <;> rfl
theorem itsX_blk {b off : Nat} {x : Slt × Fld} (l : List Itm) : ∀ i, x ∈ itsX b off l i → x.1.blk = b := by
  induction l with
  | nil => intro i h; simp [itsX] at h
  | cons y l ih =>
    intro i h
    rcases List.mem_append.1 h with h | h
    · exact itS_blk (List.of_mem_zip h).1
    · exact ih _ h
theorem slX_blk {pb m b off : Nat} {p : Pkt} {len : Nat} {x : Slt × Fld} (h : x ∈ slX pb m b off p len) : x.1.blk = pb ∨ x.1.blk = m ∨ (0 < p.items.length ∧ x.1.blk = b) := by
  rcases List.mem_append.1 h with h | h
  · rcases hdS_blk (List.of_mem_zip h).1 with e | e
    · exact .inl e
    · exact .inr (.inl e)
  · refine .inr (.inr ⟨?_, itsX_blk _ _ h⟩)
    rcases hl : p.items with _ | ⟨y, l⟩
    · rw [hl] at h; simp [itsX] at h
    · simp

theorem zip_snd {α β : Type} : ∀ (l : List α) (k : List β), l.length = k.length → (l.zip k).map (·.2) = k
  | [], [], _ => rfl
  | _ :: l, _ :: k, h => by simp [zip_snd l k (by simpa using h)]
theorem itsX_flds (b off : Nat) (l : List Itm) : ∀ i, (itsX b off l i).map (·.2) = l.flatMap itG := by
  induction l with
  | nil => intro i; rfl
  | cons y l ih => intro i; rw [itsX, List.map_append, ih, itX, zip_snd (itS b (off + i * 19)) (itG y) rfl, List.flatMap_cons]
/-- The fields as they lie in a packet, one behind the other. -/
def fsG (p : Pkt) (len : Nat) : List Fld := hdG p len ++ p.items.flatMap itG
theorem slX_flds (pb m b off : Nat) (p : Pkt) (len : Nat) : (slX pb m b off p len).map (·.2) = fsG p len := by
  rw [slX, List.map_append, itsX_flds, hdX, zip_snd (hdS pb m) (hdG p len) rfl, fsG]
theorem gN_eq {x : Int} (h : nOk x) : gN x = nF x := (nF_eq h).symm
theorem itG_eq {x : Itm} (h : itOk x) : itG x = itF x := by
  simp only [itG, itF, gN_eq h.epoch, gN_eq h.maker, gN_eq h.kind, gN_eq h.scale, gN_eq h.ver, gN_eq h.writer, gN_eq h.mn.origin, gN_eq h.mn.age, gN_eq h.mx.origin, gN_eq h.mx.age]
theorem its_eq : ∀ (l : List Itm), (∀ x ∈ l, itOk x) → l.flatMap itG = itsF l
  | [], _ => rfl
  | x :: l, h => by
    rw [List.flatMap_cons, itG_eq (h x (by simp)), its_eq l (fun y hy => h y (by simp [hy])), itsF_cons]
theorem fsG_eq {p : Pkt} {len : Nat} (h : pkOk p) (hl : p.items.length = len) : fsG p len = hdF p ++ itsF p.items := by
  have hL : nOk (len : Int) := ⟨by omega, by have := h.len; omega⟩
  rw [fsG, its_eq _ h.items, hdG, hdF, gN_eq h.kind, gN_eq h.src, gN_eq h.dst, gN_eq h.boot, gN_eq h.life, gN_eq h.echo, gN_eq h.echoLife, gN_eq hL, hl]
theorem fsG_flds {p : Pkt} {len : Nat} (h : pkOk p) (hl : p.items.length = len) : C.fldsOut (fsG p len) = bodyP p ∧ C.flds (fsG p len) = bodyP p := by
  rw [fsG_eq h hl]
  have e : C.flds (hdF p ++ itsF p.items) = bodyP p := by rw [flds_append, bodyP]
  refine ⟨?_, e⟩
  unfold C.fldsOut
  rw [if_pos ?_, e]
  rw [List.all_eq_true]
  intro f hf
  rcases List.mem_append.1 hf with hf | hf
  · exact hdF_fit p f hf
  · simp only [itsF, List.mem_flatMap] at hf
    obtain ⟨x, hx, hf⟩ := hf
    exact itF_fit x f hf
theorem fsG_wf {p : Pkt} {len : Nat} (h : pkOk p) (hl : p.items.length = len) : ∀ f ∈ fsG p len, (-9223372036854775808 ≤ f.kind ∧ f.kind ≤ 9223372036854775807) ∧ (-9223372036854775808 ≤ f.num ∧ f.num ≤ 9223372036854775807) ∧ f.text.size ≤ 1048576 := by
  rw [fsG_eq h hl]
  intro f hf
  have hok : C.okF f := by
    rcases List.mem_append.1 hf with hf | hf
    · exact hdF_ok h f hf
    · simp only [itsF, List.mem_flatMap] at hf
      obtain ⟨x, hx, hf⟩ := hf
      exact itF_ok (h.items x hx) f hf
  exact hok
theorem flat_at : ∀ (fs : List Fld) (j i : Nat), j < fs.length → i < 4 → (fs.flatMap fcells)[j * 4 + i]? = (fcells (fs.getD j C.fldZ))[i]?
  | [], _, _, h, _ => by simp at h
  | f :: fs, 0, i, _, hi => by
    rw [List.flatMap_cons, List.getElem?_append_left (by simp only [fcells, List.length_cons, List.length_nil]; omega)]
    simp
  | f :: fs, j + 1, i, h, hi => by
    rw [List.flatMap_cons, List.getElem?_append_right (by simp only [fcells, List.length_cons, List.length_nil]; omega)]
    have e : (j + 1) * 4 + i - (fcells f).length = j * 4 + i := by simp only [fcells, List.length_cons, List.length_nil]; omega
    rw [e, flat_at fs j i (by simpa using h) hi, List.getD_cons_succ]
theorem room_row {W : World} {g N : Nat} {fs : List Fld} (h : Room W g N N fs) (hw : ∀ f ∈ fs, (-9223372036854775808 ≤ f.kind ∧ f.kind ≤ 9223372036854775807) ∧ (-9223372036854775808 ≤ f.num ∧ f.num ≤ 9223372036854775807) ∧ f.text.size ≤ 1048576) : C.RowF W (some ⟨g, 0, none⟩) N N fs := by
  have hlt := h.lt
  obtain ⟨h1, h2, h3, cur, c1, c2, c3⟩ := h
  refine ⟨h1, Nat.le_refl _, fun h => (by cases h), hw, .inr ⟨g, 0, rfl, hlt, fun j hj => ?_⟩⟩
  have hj' : j < fs.length := by omega
  have key : ∀ i v, i < 4 → (fcells (fs.getD j C.fldZ))[i]? = some v → W.cell? ⟨g, 0 + j * 4 + i, none⟩ = some v := by
    intro i v hi hv
    rw [cell_of_row _ _ _ _ 60 _ c1]
    have e : (fs.flatMap fcells)[j * 4 + i]? = some v := by
      rw [flat_at fs j i hj' hi]; exact hv
    rw [← c3, List.getElem?_take, if_pos (by omega)] at e
    rw [Nat.zero_add]
    simpa using e
  exact ⟨key 0 _ (by omega) rfl, key 1 _ (by omega) rfl, key 2 _ (by omega) rfl, key 3 _ (by omega) rfl⟩

/-- append within the room: one field more. -/
theorem append_room {F : Fence} {n : Nat} {ops : Array Oper} {E : Prop} {o : Oper} {a : Act} {w : World} {K : Act → World → Prop} {Q : Exit → Act → World → Prop} (hgd : o.guard = none) (s x : Operand)
    (hop : o.op = .call { callee := .builtin .append, args := #[s, x], argTypes := #[48, 48] })
    (g k N : Nat) (fs : List Fld) (hR : Room w g k N fs) (hk : k < N) (hs : a.eval s = .slice (some ⟨g, 0, none⟩) k N)
    (ad : Addr) (f : Fld) (hx : a.eval x = .slice (some ad) 1 1) (hnews : ∀ j u, (fcells f)[j]? = some u → w.cell? (ad.add j) = some u)
    (h : ∀ w', Room w' g (k + 1) N (fs ++ [f]) → w.grownBy w' (some g) → w'.heap.size = w.heap.size → K (a.put o.dst (.slice (some ⟨g, 0, none⟩) (k + 1) N)) w') :
    if Region.wanted o (yielded ops a.tmps) = true then Oper.wpIn F n Tryd.prog o a w K Q else E := by
  have hw : Region.wanted o (yielded ops a.tmps) = true := by simp [Region.wanted, hgd]
  rw [if_pos hw]
  obtain ⟨i0, hi, hz0, hz1, hz2⟩ := info_parts info75
  obtain ⟨h1, h2, h3, cur, c1, c2, c3⟩ := hR
  have hr := run_append_room (P := Tryd.prog) w 48 o.type 60 i0 Tryd.underlying48 hi g k N cur c1 ad 1 1 (fcells f) (by rw [hz1]; rfl) hnews (by simp [fcells, Value.oneCell']) (by omega) (by rw [hz1, c2]; simp only [fcells, List.length_cons, List.length_nil]; omega)
  have fin := h _ ⟨by simp [h1], by omega, h3, _, setRow_heap w g cur (cur.toList.take (k * i0.size) ++ fcells f ++ cur.toList.drop (k * i0.size + (fcells f).length)).toArray 60 _ c1, ?_, ?_⟩ ⟨rfl, rfl, rfl, by simp, fun k _ hk => setRow_other w g k _ (fun e => hk (by simp [e]))⟩ (by simp)
  · unfold Oper.wpIn
    refine ⟨?_, ?_⟩
    · simp [Oper.about, hop, resolve, Target.leads, Sem.run_pure]
    · rw [Oper.semAt_plain F _ _ (by rw [hop]; intro c hc'; cases hc')]
      simp [execOp, hop, resolve, invoke, builtin, hs, hx, hr, Result.andThen]
      rw [List.append_assoc] at fin
      exact fin
  · rw [hz1]
    simp only [List.size_toArray, List.length_append, List.length_take, List.length_drop, Array.length_toList, fcells, List.length_cons, List.length_nil]
    omega
  · rw [hz1, c3]
    have e : (fs ++ [f]).flatMap fcells = fs.flatMap fcells ++ fcells f := by simp
    rw [e]
    have hl : (k + 1) * 4 = (fs.flatMap fcells ++ fcells f).length := by rw [List.length_append, flat_len, h1]; simp only [fcells, List.length_cons, List.length_nil]; omega
    rw [hl]
    exact List.take_left

/-- What holds when k fields are there. -/
structure EncI (p : Pkt) (a : Option Addr) (len cap : Nat) (w w1 : World) (g lb q N : Nat) (fs : List Fld) (k : Nat) (W : World) : Prop where
  room : Room W g k N (fs.take k)
  var : One W lb (.slice (some ⟨g, 0, none⟩) k N)
  ptr : One W q (.pointer (some ⟨w.heap.size, 0, none⟩))
  below : Below w1.heap.size w1 W
theorem EncI.keep {p : Pkt} {a : Option Addr} {len cap : Nat} {w w1 : World} {g lb q N : Nat} {fs : List Fld} {k : Nat} {A B : World} {n : Nat} (h : EncI p a len cap w w1 g lb q N fs k A) (hb : Below n A B) (h1 : g < n) (h2 : lb < n) (h3 : q < n) (h4 : w1.heap.size ≤ n) : EncI p a len cap w w1 g lb q N fs k B :=
  ⟨h.room.of_block (hb.block g h1), h.var.of_block (hb.block lb h2) hb.size, h.ptr.of_block (hb.block q h3) hb.size, h.below.trans (hb.mono h4)⟩
theorem below_undrew {w w' : World} (h : Below w.drew.heap.size w.drew w') : Below w.heap.size w w' := ⟨h.os, h.tape, h.output, h.size, h.block⟩

end Go.Proofs.YticmjlnpjopfbabDoor

namespace Go.Proofs.YticmjlnpjopfbabDoor
open Go.ChangeShapes Go.WideShapes Go.ChangeAt Go.RowKit Go.Shelf
open C (Fld fcells)
open S (One One.new One.alloc One.at One.of_block One.below Tab info5)
set_option linter.unusedVariables false
set_option linter.unusedSimpArgs false
attribute [local go_sem] Oper.semAt_some


set_option maxRecDepth 100000 in
set_option maxHeartbeats 8000000 in
theorem encode_fit (p : Pkt) (a : Option Addr) (len cap : Nat) (w : World) (R : RowI w a len cap p.items) (T : Tab w) (hf : fitP p = true) :
    Calls Tryd.prog 9 #[pkv p a len cap] w fun e w' => ∃ v, e = .returned v ∧ S.Own w.heap.size w' v (encP p) ∧ Below w.heap.size w w' := by
  have HP : Hid (pkOk p) := (fitP_ok hf).1
  obtain ⟨i0, hi, hz0, hz1, hz2⟩ := info_parts info75
  have HR : Hid (RowI w a len cap p.items) := R
  have HLn : Hid (p.items.length = len) := R.size
  have hlen : len ≤ 8 := by have := (fitP_ok hf).2.len; have := R.size; omega
  have hfit : ∀ w1, RowI w1 a len cap p.items → Calls Tryd.prog 16 #[pkv p a len cap] w1 fun e w' => e = .returned (.bool true) ∧ Below w1.heap.size w1 w' := fun w1 R1 => by have := fit_any p a len cap w1 R1; rwa [hf] at this
  refine (callsIn_wide (n := 2)).1 ?_
  refine callsIn_of_wp_marks Tryd.func9 rfl trivial ?_
  simp only [Tryd.ntmps9, List.size_toArray, List.length_cons, List.length_nil, Nat.reduceAdd, Nat.reduceSub, Array.replicate_succ, Array.replicate_zero, List.push_toArray, List.append_toArray, List.nil_append, List.cons_append]
  have hN : IntKind.i64.wrap (19 * (len : Int)) = 19 * (len : Int) := by rw [IntKind.wrap_i64]; omega
  have hN2 : IntKind.i64.wrap (8 + 19 * (len : Int)) = 8 + 19 * (len : Int) := by rw [IntKind.wrap_i64]; omega
  gi_wp2_with (first
    | (refine ⟨trivial, ?_⟩; gi_at_call 16; refine (callsIn_wide.2 (hfit _ (R.alloc _))).mono ?_; rintro e w1 ⟨rfl, hb1⟩; have PK1 := (pkAt_new w p a len cap).below hb1; have c7 := PK1 7 _ rfl; have B1 : Below w.heap.size w w1 := ((Below.refl _ _).alloc (Nat.le_refl _) _).trans (hb1.mono (by simp)))
    | (gi_at_make; refine wpListIn_make_own _ rfl _ _ 48 rfl w1.heap.size 60 i0 _ 4 Tryd.underlying48 hi hz0 hz1 .i64 .i64 _ (8 + 19 * len) rfl rfl (by omega) (by rw [hz2]; omega) (by unfold maxLen; omega) (Nat.le_refl _) ?_; intro w2 own2 hg2)
    | (refine ⟨trivial, ?_⟩; gi_at_call 17; refine (callsIn_wide.2 (fields_any w.heap.size _)).mono ?_; rintro e w3 ⟨rfl, hw3⟩; rw [hw3]; clear hw3 w3))
  have Rm2 := room_new own2
  have g2 := Rm2.lt
  have hpb := PK1.lt
  have B2 : Below w1.heap.size w1 w2 := (Below.refl _ _).grown hg2 (Nat.le_refl _) (fun k hk => by cases hk)
  obtain ⟨W0, hW0⟩ : ∃ W0, ((w2.alloc (.cells #[.slice (some ⟨w1.heap.size, 0, none⟩) 0 (8 + 19 * len)] 48)).alloc (.cells #[.pointer (some ⟨w.heap.size, 0, none⟩)] 52)) = W0 := ⟨_, rfl⟩
  have hs0 : W0.heap.size = w2.heap.size + 1 + 1 := by rw [← hW0]; simp
  have B20 : Below w2.heap.size w2 W0 := by rw [← hW0]; exact ((Below.refl _ _).alloc (Nat.le_refl _) _).alloc (by simp) _
  have OL0 : One W0 w2.heap.size (.slice (some ⟨w1.heap.size, 0, none⟩) 0 (8 + 19 * len)) := by rw [← hW0]; exact (One.new _ _ _).alloc _
  have OQ0 : One W0 (w2.heap.size + 1) (.pointer (some ⟨w.heap.size, 0, none⟩)) := by rw [← hW0]; exact (One.new _ _ _).at (by simp)
  rw [hW0]
  have I0 : EncI p a len cap w w1 w1.heap.size w2.heap.size (w2.heap.size + 1) (8 + 19 * len) (fsG p len) 0 W0 := ⟨Rm2.below B20, OL0, OQ0, B2.trans (B20.mono (Nat.le_of_lt g2))⟩
  have hs1 : W0.heap.size ≤ w2.heap.size + 2 := by omega
  have hs2 : w2.heap.size + 2 ≤ W0.heap.size := by omega
  clear hs0 hW0 own2 hg2 Rm2 OL0 OQ0 B20 B2 hb1 c7
  have R1 := R.below B1
  obtain ⟨b, off, ha, hbz⟩ : ∃ b off, (0 < len → a = some ⟨b, off, none⟩) ∧ (0 < len → b < w1.heap.size) := by
    rcases R1.mem with h | ⟨b, off, h, hb, _⟩
    · exact ⟨0, 0, fun h' => by omega, fun h' => by omega⟩
    · exact ⟨b, off, fun _ => h, fun _ => hb⟩
  refine range_m (gf := 30) (lb := #[.pointer (some ⟨w2.heap.size + 1, 0, none⟩)]) (by first | rfl | simp) (enters_of Tryd.func30 (by kernel_rfl) rfl) rfl
    (fields_gives (w2.heap.size + 1) w.heap.size (W0.heap.size + 2) b off p a len cap ha) (fun _ => rfl)
    (fun k W => EncI p a len cap w w1 w1.heap.size w2.heap.size (w2.heap.size + 1) (8 + 19 * len) (fsG p len) k W)
    (fun c W => False)
    (fun k A h => ⟨h.ptr, PK1.of_block (h.below.block _ hpb), R1.below h.below⟩)
    (fun k A B h s => h.keep s (by omega) (by omega) (by omega) (by omega))
    (fun c A B h s => h) I0
    (fun x a' A => ∃ sb, sb ≠ W0.heap.size + 1 ∧ x.1.blk ≠ W0.heap.size + 1 ∧ SlotAt A x.1 x.2 ∧ A.heap[sb]? = some (.cells #[.int .i64 x.1.kd, .pointer x.1.q1, .pointer x.1.q2, .pointer x.1.q3, .pointer x.1.q4] 58 (0, 0)) ∧ a' = { tmps := #[pkv p a len cap, .pointer (some ⟨w.heap.size, 0, none⟩), .slice none 0 0, .pointer (some ⟨w2.heap.size, 0, none⟩), .pointer (some ⟨sb, 0, none⟩), undef, undef, .agg #[.int .i64 p.kind, .int .i64 p.src, .int .i64 p.dst, .int .i64 p.boot, .int .i64 p.life, .int .i64 p.echo, .int .i64 p.echoLife, .slice a len cap], .bool true, .bool false, .pointer (some ⟨w.heap.size, 7, none⟩), .slice a len cap, .int .i64 (len : Int), .int .i64 (19 * (len : Int)), .int .i64 (8 + 19 * (len : Int)), .slice (some ⟨w1.heap.size, 0, none⟩) 0 (8 + 19 * len), .func (.func 30) #[] #[.pointer (some ⟨w2.heap.size + 1, 0, none⟩)], x.1.v, undef, undef, undef, undef, undef, undef, undef, undef, undef, undef, undef, undef], defers := [] })
    (fun x a' A o h => by
      obtain ⟨sb, h1, h2, h3, h4, h5⟩ := h
      exact ⟨sb, h1, h2, h3.of_block (World.putObj_heap_other h2) (by simp), (World.putObj_heap_other h1).trans h4, h5⟩)
    ?assign ?body ?done ?stop
  case assign =>
    rintro k ⟨⟨kd, q1, q2, q3, q4⟩, f⟩ W K hIk hs hOut hx hK
    have hblk := slX_blk (List.mem_of_getElem? hx)
    have hne : (⟨kd, q1, q2, q3, q4⟩ : Slt).blk ≠ W0.heap.size + 1 := by
      rcases hblk with h | h | ⟨h0, h⟩
      · have h' : (⟨kd, q1, q2, q3, q4⟩ : Slt).blk = w.heap.size := h
        omega
      · have h' : (⟨kd, q1, q2, q3, q4⟩ : Slt).blk = W0.heap.size + 2 := h
        omega
      · have h' : (⟨kd, q1, q2, q3, q4⟩ : Slt).blk = b := h
        have := hbz (by have := HLn.out; omega)
        omega
    dsimp only [Slt.v]
    gi_wp2
    refine hK _ _ ⟨W.heap.size, by omega, hne, hOut.below ((Below.refl _ _).alloc (Nat.le_refl _) _), World.alloc_heap_new _ _, rfl⟩ ((Below.refl _ _).alloc (Nat.le_refl _) _)
  case body =>
    rintro k ⟨⟨kd, q1, q2, q3, q4⟩, f⟩ a' W hIk ⟨sb, hsb, hne, hS, hcell, rfl⟩ hx hs
    have hkN : k < 8 + 19 * len := by have h := (List.getElem?_eq_some_iff.1 hx).1; rw [slX_len _ _ _ _ _ _ HLn.out] at h; exact h
    have hfk : (fsG p len)[k]? = some f := by rw [← slX_flds w.heap.size (W0.heap.size + 2) b off p len, List.getElem?_map, hx]; rfl
    have HT : Hid ((fsG p len).take (k + 1) = (fsG p len).take k ++ [f]) := by show _ = _; rw [List.take_add_one, hfk]; rfl
    have RM := hIk.room
    have OL := hIk.var
    obtain ⟨o0, o1, oz⟩ := id OL
    have f0 : W.cell? ⟨sb, 0, none⟩ = some (.int .i64 kd) := by rw [cell_of_row _ _ _ _ 58 _ hcell]; rfl
    have f1 : W.cell? ⟨sb, 1, none⟩ = some (.pointer q1) := by rw [cell_of_row _ _ _ _ 58 _ hcell]; rfl
    have f2 : W.cell? ⟨sb, 2, none⟩ = some (.pointer q2) := by rw [cell_of_row _ _ _ _ 58 _ hcell]; rfl
    have f3 : W.cell? ⟨sb, 3, none⟩ = some (.pointer q3) := by rw [cell_of_row _ _ _ _ 58 _ hcell]; rfl
    have f4 : W.cell? ⟨sb, 4, none⟩ = some (.pointer q4) := by rw [cell_of_row _ _ _ _ 58 _ hcell]; rfl
    have hS' : SlotAt W.drew ⟨kd, q1, q2, q3, q4⟩ f := hS.of_block rfl (Nat.le_refl _)
    have KS := field_slot hS'
    dsimp only [Slt.v] at KS ⊢
    have fin : ∀ (V W5 : World), Below W.heap.size W V → Room W5 w1.heap.size (k + 1) (8 + 19 * len) ((fsG p len).take k ++ [f]) → (V.alloc (.cells #[.int .i64 f.kind, .int .i64 f.num, .string f.text, .bool f.is] 60)).grownBy W5 (some w1.heap.size) → W5.heap.size = (V.alloc (.cells #[.int .i64 f.kind, .int .i64 f.num, .string f.text, .bool f.is] 60)).heap.size →
        EncI p a len cap w w1 w1.heap.size w2.heap.size (w2.heap.size + 1) (8 + 19 * len) (fsG p len) (k + 1) (W5.setCell ⟨w2.heap.size, 0, none⟩ (.slice (some ⟨w1.heap.size, 0, none⟩) (k + 1) (8 + 19 * len))) ∧ Turn0 W0.heap.size W (W5.setCell ⟨w2.heap.size, 0, none⟩ (.slice (some ⟨w1.heap.size, 0, none⟩) (k + 1) (8 + 19 * len))) := by
      intro V W5 hb R5 hg5 hs5
      have hz := hb.size
      have Ba : Below W.heap.size W (V.alloc (.cells #[.int .i64 f.kind, .int .i64 f.num, .string f.text, .bool f.is] 60)) := hb.alloc hz _
      have blk : ∀ c, c < W.heap.size → c ≠ w1.heap.size → W5.heap[c]? = W.heap[c]? := fun c hc hn => (hg5.block c (by simp; omega) (by simpa using hn)).trans (Ba.block c hc)
      have sz5 : W.heap.size ≤ W5.heap.size := by rw [hs5]; simp; omega
      have Ov := OL.of_block (blk w2.heap.size (by omega) (by omega)) sz5
      have Oq := hIk.ptr.of_block (blk (w2.heap.size + 1) (by omega) (by omega)) sz5
      refine ⟨⟨?_, Ov.set _, Oq.of_block (Below.heap_setCell _ _ _ _ (by show w2.heap.size + 1 ≠ w2.heap.size; omega)) (by simp [World.setCell]), ?_⟩, ?_⟩
      · rw [HT.out]
        exact R5.of_block (Below.heap_setCell _ _ _ _ (by show w1.heap.size ≠ w2.heap.size; omega))
      · have B5 : Below w1.heap.size w1 W5 := ((hIk.below.trans (Ba.mono hIk.below.size)).grown hg5 (by have := hIk.below.size; simp; omega) (fun c hc => by cases hc; exact Nat.le_refl _))
        exact B5.setCell (p := ⟨w2.heap.size, 0, none⟩) (by show w1.heap.size ≤ w2.heap.size; omega) _
      · exact ⟨by simp [World.setCell]; omega, fun c h1 h2 => (Below.heap_setCell _ _ _ _ (by show c ≠ w2.heap.size; omega)).trans (blk c h2 (by omega))⟩
    clear hS hS' hIk hcell hx hfk HT PK1 R1 I0 hfit
    gi_wp2
    refine wpIn_region_any (by kernel_rfl) ?_
    change wpAnyIn _ _ _ _ _ _ _ _ _ (World.drew _)
    refine wpAnyIn_ready (rs := [0, 1]) (by kernel_rfl) (by simp) ?_
    refine AllReadyIn.cons rfl (fun K hK => ?_) ?_
    · go_simp
      refine hK _ _ ?_
      clear hK K
      refine wpAnyIn_ready (rs := [1]) (by kernel_rfl) (by simp) ?_
      refine AllReadyIn.cons rfl (fun K hK => ?_) ?_
      · go_simp
        refine hK _ _ ?_
        clear hK K
        refine wpAnyIn_ready (rs := [2]) (by kernel_rfl) (by simp) ?_
        refine AllReadyIn.cons rfl (fun K hK => ?_) ?_
        · go_simp
          refine ⟨trivial, ?_⟩
          refine (CallsIn.inRound _ (callsIn_wide.2 KS)).mono ?_
          rintro e V ⟨rfl, hb0⟩
          have hb := below_undrew hb0
          have OV := OL.below hb
          obtain ⟨u0, u1, u2⟩ := id OV
          have RV := RM.below hb
          refine hK _ _ ?_
          clear hK K hb0
          refine wpAnyIn_ready (rs := [3]) (by kernel_rfl) (by simp) ?_
          refine AllReadyIn.cons rfl (fun K hK => ?_) ?_
          · go_simp
            refine hK _ _ ?_
            clear hK K
            refine wpAnyIn_ready (rs := [4]) (by kernel_rfl) (by simp) ?_
            refine AllReadyIn.cons rfl (fun K hK => ?_) ?_
            · refine append_room rfl _ _ rfl w1.heap.size k (8 + 19 * len) _ (RV.below ((Below.refl _ _).alloc (Nat.le_refl _) _)) hkN rfl ⟨V.heap.size, 0, none⟩ f rfl (C.new_cells _ _ _) ?_
              intro W5 R5 hg5 hs5
              have O5 := (OV.alloc (.cells #[.int .i64 f.kind, .int .i64 f.num, .string f.text, .bool f.is] 60)).of_block (hg5.block _ (by have := OV.2.2; simp; omega) (by simp; omega)) hg5.size
              obtain ⟨y0, y1, y2⟩ := id O5
              refine hK _ _ ?_
              clear hK K
              refine wpAnyIn_ready (rs := [5]) (by kernel_rfl) (by simp) ?_
              refine AllReadyIn.cons rfl (fun K hK => ?_) ?_
              · go_simp
                refine hK _ _ ?_
                clear hK K
                refine wpAnyIn_done (by kernel_rfl) ?_ _
                exact fin V W5 hb R5 hg5 hs5
              exact AllReadyIn.nil
            exact AllReadyIn.nil
          exact AllReadyIn.nil
        exact AllReadyIn.nil
      exact AllReadyIn.nil
    refine AllReadyIn.cons rfl (fun K hK => ?_) ?_
    · go_simp
      refine hK _ _ ?_
      clear hK K
      refine wpAnyIn_ready (rs := [0, 2]) (by kernel_rfl) (by simp) ?_
      refine AllReadyIn.cons rfl (fun K hK => ?_) ?_
      · go_simp
        refine hK _ _ ?_
        clear hK K
        refine wpAnyIn_ready (rs := [2]) (by kernel_rfl) (by simp) ?_
        refine AllReadyIn.cons rfl (fun K hK => ?_) ?_
        · go_simp
          refine ⟨trivial, ?_⟩
          refine (CallsIn.inRound _ (callsIn_wide.2 KS)).mono ?_
          rintro e V ⟨rfl, hb0⟩
          have hb := below_undrew hb0
          have OV := OL.below hb
          obtain ⟨u0, u1, u2⟩ := id OV
          have RV := RM.below hb
          refine hK _ _ ?_
          clear hK K hb0
          refine wpAnyIn_ready (rs := [3]) (by kernel_rfl) (by simp) ?_
          refine AllReadyIn.cons rfl (fun K hK => ?_) ?_
          · go_simp
            refine hK _ _ ?_
            clear hK K
            refine wpAnyIn_ready (rs := [4]) (by kernel_rfl) (by simp) ?_
            refine AllReadyIn.cons rfl (fun K hK => ?_) ?_
            · refine append_room rfl _ _ rfl w1.heap.size k (8 + 19 * len) _ (RV.below ((Below.refl _ _).alloc (Nat.le_refl _) _)) hkN rfl ⟨V.heap.size, 0, none⟩ f rfl (C.new_cells _ _ _) ?_
              intro W5 R5 hg5 hs5
              have O5 := (OV.alloc (.cells #[.int .i64 f.kind, .int .i64 f.num, .string f.text, .bool f.is] 60)).of_block (hg5.block _ (by have := OV.2.2; simp; omega) (by simp; omega)) hg5.size
              obtain ⟨y0, y1, y2⟩ := id O5
              refine hK _ _ ?_
              clear hK K
              refine wpAnyIn_ready (rs := [5]) (by kernel_rfl) (by simp) ?_
              refine AllReadyIn.cons rfl (fun K hK => ?_) ?_
              · go_simp
                refine hK _ _ ?_
                clear hK K
                refine wpAnyIn_done (by kernel_rfl) ?_ _
                exact fin V W5 hb R5 hg5 hs5
              exact AllReadyIn.nil
            exact AllReadyIn.nil
          exact AllReadyIn.nil
        exact AllReadyIn.nil
      refine AllReadyIn.cons rfl (fun K hK => ?_) ?_
      · go_simp
        refine ⟨trivial, ?_⟩
        refine (CallsIn.inRound _ (callsIn_wide.2 KS)).mono ?_
        rintro e V ⟨rfl, hb0⟩
        have hb := below_undrew hb0
        have OV := OL.below hb
        obtain ⟨u0, u1, u2⟩ := id OV
        have RV := RM.below hb
        refine hK _ _ ?_
        clear hK K hb0
        refine wpAnyIn_ready (rs := [0, 3]) (by kernel_rfl) (by simp) ?_
        refine AllReadyIn.cons rfl (fun K hK => ?_) ?_
        · go_simp
          refine hK _ _ ?_
          clear hK K
          refine wpAnyIn_ready (rs := [3]) (by kernel_rfl) (by simp) ?_
          refine AllReadyIn.cons rfl (fun K hK => ?_) ?_
          · go_simp
            refine hK _ _ ?_
            clear hK K
            refine wpAnyIn_ready (rs := [4]) (by kernel_rfl) (by simp) ?_
            refine AllReadyIn.cons rfl (fun K hK => ?_) ?_
            · refine append_room rfl _ _ rfl w1.heap.size k (8 + 19 * len) _ (RV.below ((Below.refl _ _).alloc (Nat.le_refl _) _)) hkN rfl ⟨V.heap.size, 0, none⟩ f rfl (C.new_cells _ _ _) ?_
              intro W5 R5 hg5 hs5
              have O5 := (OV.alloc (.cells #[.int .i64 f.kind, .int .i64 f.num, .string f.text, .bool f.is] 60)).of_block (hg5.block _ (by have := OV.2.2; simp; omega) (by simp; omega)) hg5.size
              obtain ⟨y0, y1, y2⟩ := id O5
              refine hK _ _ ?_
              clear hK K
              refine wpAnyIn_ready (rs := [5]) (by kernel_rfl) (by simp) ?_
              refine AllReadyIn.cons rfl (fun K hK => ?_) ?_
              · go_simp
                refine hK _ _ ?_
                clear hK K
                refine wpAnyIn_done (by kernel_rfl) ?_ _
                exact fin V W5 hb R5 hg5 hs5
              exact AllReadyIn.nil
            exact AllReadyIn.nil
          exact AllReadyIn.nil
        refine AllReadyIn.cons rfl (fun K hK => ?_) ?_
        · go_simp
          refine hK _ _ ?_
          clear hK K
          refine wpAnyIn_ready (rs := [0]) (by kernel_rfl) (by simp) ?_
          refine AllReadyIn.cons rfl (fun K hK => ?_) ?_
          · go_simp
            refine hK _ _ ?_
            clear hK K
            refine wpAnyIn_ready (rs := [4]) (by kernel_rfl) (by simp) ?_
            refine AllReadyIn.cons rfl (fun K hK => ?_) ?_
            · refine append_room rfl _ _ rfl w1.heap.size k (8 + 19 * len) _ (RV.below ((Below.refl _ _).alloc (Nat.le_refl _) _)) hkN rfl ⟨V.heap.size, 0, none⟩ f rfl (C.new_cells _ _ _) ?_
              intro W5 R5 hg5 hs5
              have O5 := (OV.alloc (.cells #[.int .i64 f.kind, .int .i64 f.num, .string f.text, .bool f.is] 60)).of_block (hg5.block _ (by have := OV.2.2; simp; omega) (by simp; omega)) hg5.size
              obtain ⟨y0, y1, y2⟩ := id O5
              refine hK _ _ ?_
              clear hK K
              refine wpAnyIn_ready (rs := [5]) (by kernel_rfl) (by simp) ?_
              refine AllReadyIn.cons rfl (fun K hK => ?_) ?_
              · go_simp
                refine hK _ _ ?_
                clear hK K
                refine wpAnyIn_done (by kernel_rfl) ?_ _
                exact fin V W5 hb R5 hg5 hs5
              exact AllReadyIn.nil
            exact AllReadyIn.nil
          exact AllReadyIn.nil
        exact AllReadyIn.nil
      exact AllReadyIn.nil
    exact AllReadyIn.nil
  case done =>
    rintro W hIk hK
    rw [slX_len _ _ _ _ _ _ HLn.out] at hIk
    have hlf : (fsG p len).length = 8 + 19 * len := by rw [← slX_flds 0 0 0 0 p len, List.length_map, slX_len _ _ _ _ _ _ HLn.out]
    have RM := hIk.room
    rw [List.take_of_length_le (by omega)] at RM
    obtain ⟨e1, e2⟩ := fsG_flds HP.out HLn.out
    have hbl := bodyP_len hf
    have RF := room_row RM (fsG_wf HP.out HLn.out)
    have KF := C.fields_any _ _ _ _ W RF (by omega) (by rw [e2]; omega)
    rw [e1] at KF
    obtain ⟨o0, o1, oz⟩ := id hIk.var
    have hby : S.Byt (bodyP p) := bodyP_byte HP.out
    have BW : Below w.heap.size w W := B1.trans (hIk.below.mono B1.size)
    have HE : Hid (encP p = S.frm (bodyP p)) := encP_fit hf
    obtain ⟨zs, hzs⟩ : ∃ zs, bodyP p = zs := ⟨_, rfl⟩
    rw [hzs] at KF hby HE hbl
    clear hzs
    clear hlf RM e1 e2 RF hIk I0 hfit PK1 R1
    gi_wp2_with (first
      | (refine ⟨trivial, ?_⟩; gi_at_call 20; refine (callsIn_wide.2 KF).mono ?_; rintro e w5 ⟨v5, rfl, own5, hb5⟩; have O5 : S.Own W.heap.size w5 v5 zs := own5; obtain ⟨a5, n5, c5, rfl, R5, hn5⟩ := O5.row' hby; have hn6 : n5 ≤ 9223372036854775807 := (by omega); clear hn5; have B5 : Below w.heap.size w w5 := BW.trans (hb5.mono BW.size); have T5 := T.below B5)
      | (refine ⟨trivial, ?_⟩; gi_at_call 19; refine (callsIn_wide.2 (S.seal_any _ _ _ _ w5 R5 T5 hn6)).mono ?_; rintro e w6 ⟨so6, hb6⟩; unfold S.SealOut at so6; rw [if_neg (by omega)] at so6; obtain ⟨v6, rfl, own6⟩ := so6))
    have hD : w6.heap[W0.heap.size]? = some (.deferred (some [])) := (hb6.block _ (by have := hb5.size; have := (Array.getElem?_eq_some_iff.1 hK).1; omega)).trans ((hb5.block _ (Array.getElem?_eq_some_iff.1 hK).1).trans hK)
    refine ⟨by simp, .inl ⟨_, _, rfl, run_takeDeferred hD, ?_⟩⟩
    have B6 : Below w.heap.size w w6 := B5.trans (hb6.mono B5.size)
    have hw0 := B1.size
    refine ⟨_, results_tmp rfl _ _ _, _, rfl, ?_, B6.trans (below_putObj (by omega) _)⟩
    rw [HE.out]
    have own7 := own6.at (base' := w.heap.size) (by have := B5.size; omega)
    exact own7.of_block fun c hc => World.putObj_heap_other (fun e => by have := (own6.lt c hc); have := hb5.size; have := (Array.getElem?_eq_some_iff.1 hK).1; omega)
  case stop =>
    rintro c W h _
    exact h.elim

end Go.Proofs.YticmjlnpjopfbabDoor

namespace Go.Proofs.YticmjlnpjopfbabDoor
open Go.ChangeShapes Go.WideShapes Go.ChangeAt Go.RowKit
open S (Tab Row Byt opn bv)
set_option linter.unusedVariables false
set_option linter.unusedSimpArgs false

set_option maxRecDepth 100000 in
set_option maxHeartbeats 2000000 in
theorem encode_no (p : Pkt) (a : Option Addr) (len cap : Nat) (w : World) (R : RowI w a len cap p.items) (hf : fitP p = false) :
    Calls Tryd.prog 9 #[pkv p a len cap] w fun e w' => e = .returned (.slice none 0 0) ∧ Below w.heap.size w w' := by
  have hfit : ∀ w1, RowI w1 a len cap p.items → Calls Tryd.prog 16 #[pkv p a len cap] w1 fun e w' => e = .returned (.bool false) ∧ Below w1.heap.size w1 w' := fun w1 R1 => by have := fit_any p a len cap w1 R1; rwa [hf] at this
  go_enter Tryd.func9, Tryd.ntmps9
  go_wp2_with (go_at_call 16; refine (hfit _ (R.alloc _)).mono ?_; rintro e w1 ⟨rfl, hb1⟩)
  go_ret
  exact ⟨rfl, ((Below.refl _ _).alloc (Nat.le_refl _) _).trans (hb1.mono (by simp))⟩
theorem encode_any (p : Pkt) (a : Option Addr) (len cap : Nat) (w : World) (R : RowI w a len cap p.items) (T : Tab w) :
    Calls Tryd.prog 9 #[pkv p a len cap] w fun e w' => ∃ v, e = .returned v ∧ S.Own w.heap.size w' v (encP p) ∧ Below w.heap.size w w' := by
  cases hf : fitP p with
  | true => exact encode_fit p a len cap w R T hf
  | false =>
    refine (encode_no p a len cap w R hf).mono ?_
    rintro e w' ⟨rfl, hb⟩
    exact ⟨_, rfl, by rw [encP, hf]; exact S.Own.nil _ _, hb⟩

theorem results_cell_tmp {P : Program} {fn : Func} {p : Tmp} {ty : TypeId} {t' : Tmp} (h : fn.results = #[.cell p ty, .tmp t']) (tmps : Array Value) (w : World) (g : Nat) (t : TypeId) (cs : Array Value) (fr : Nat × Nat) (d : TypeDesc)
    (hp : tmps.getD p undef = .pointer (some ⟨g, 0, none⟩)) (hg : w.heap[g]? = some (.cells cs t fr))
    (hu : P.underlying ty = some d) (hd : (match d with | .struct _ | .array _ _ => true | _ => false) = true) (hi : (P.info? ty).map (·.size) = some cs.size) :
    (results fn tmps).run P w = .ok (.tuple #[.agg cs, tmps.getD t' undef]) w := by
  have hp' : tmps[p]?.getD undef = .pointer (some ⟨g, 0, none⟩) := by simpa using hp
  simp [results, h, hp', asAddr, run_loadVar_row w g t ty cs fr d hg hu hd hi]
def zPk : Array Value := #[.int .i64 0, .int .i64 0, .int .i64 0, .int .i64 0, .int .i64 0, .int .i64 0, .int .i64 0, .slice none 0 0]

set_option maxRecDepth 100000 in
set_option maxHeartbeats 2000000 in
theorem decode_err (a : Option Addr) (len cap : Nat) (zs : List Int) (w : World) (R : Row .u8 w a len cap zs) (T : Tab w) (hl : len ≤ 140737488355328) (hcap : cap ≤ 9223372036854775807) (c : Int) (h : opn zs = .error c) (hc : (c != 0) = true) :
    Calls Tryd.prog 15 #[.slice a len cap] w fun e w' => e = .returned (.tuple #[pkv pkZ none 0 0, .int .i64 c]) ∧ Below w.heap.size w w' := by
  have KO : ∀ w1, Row .u8 w1 a len cap zs → Tab w1 → Calls Tryd.prog 24 #[.slice a len cap] w1 fun e w' => e = .returned (.tuple #[.slice none 0 0, .int .i64 0, .int .i64 c]) ∧ Below w1.heap.size w1 w' := fun w1 R1 T1 => by
    have := S.open_any a len cap zs w1 R1 T1 hl hcap
    rw [h] at this
    exact this
  go_enter Tryd.func15, Tryd.ntmps15
  go_wp2_with (first
    | (go_at_call 24; refine (KO _ (R.alloc _) (T.alloc _)).mono ?_; rintro e w1 ⟨rfl, hb1⟩; have G1 := (hb1.block w.heap.size (by simp)).trans (World.alloc_heap_new _ _))
    | ((with_reducible show wpList _ _ _ (Oper.mk _ (Op.store 24 _ _) _ _ _ _ :: _) _ _); refine wpList_store_row rfl 24 _ _ rfl w.heap.size zPk rfl rfl 24 _ G1 (by kernel_rfl) rfl (by simp [zPk, Value.oneCell']) ?_))
  have B1 : Below w.heap.size w w1 := ((Below.refl _ _).alloc (Nat.le_refl _) _).trans (hb1.mono (by simp))
  refine bodyPost_ret (results_cell_tmp rfl _ _ w.heap.size 24 zPk (0, 0) _ rfl (setRow_heap _ _ _ _ _ _ G1) Tryd.underlying24 rfl (by kernel_rfl)) rfl ⟨rfl, ?_⟩
  exact setRow_below B1 G1 _

def hel : Pkt := ⟨1, 3, 5, 300, 0, 0, 0, []⟩
def hel3 : Pkt := ⟨1, 3, 3, 300, 0, 0, 0, []⟩
theorem hel_enc : encP hel = [237, 91, 9, 0, 1, 3, 5, 172, 2, 0, 0, 0, 0, 155, 49, 24, 207] := by decide +kernel
theorem hel_cut : opn [237, 91, 9, 0, 1, 3, 5, 172, 2, 0, 0, 0, 0, 155, 49, 24] = .error 21 := by unfold opn; rw [if_neg (by decide), if_neg (by decide), if_pos (by decide)]
theorem hel_off : opn [237, 91, 9, 0, 1, 3, 5, 172, 2, 0, 0, 0, 0, 155, 49, 24, 206] = .error 22 := by unfold opn; rw [if_neg (by decide), if_neg (by decide), if_neg (by decide), if_pos (by decide +kernel)]
theorem hel3_no : fitP hel3 = false := by decide +kernel
theorem hel_num : C.enc 300 = [172, 2] := by decide +kernel
theorem hel_byt : Byt [237, 91, 9, 0, 1, 3, 5, 172, 2, 0, 0, 0, 0, 155, 49, 24, 207] := by intro z hz; simp at hz; omega
/-- One byte of a row of one's own is turned. -/
theorem row_set {w : World} {g len cap : Nat} {zs : List Int} (R : Row .u8 w (some ⟨g, 0, none⟩) len cap zs) (k : Nat) (x : Int) (hx : 0 ≤ x ∧ x < 256) (hk : k < len) : Row .u8 (w.setCell ⟨g, k, none⟩ (bv x)) (some ⟨g, 0, none⟩) len cap (zs.set k x) where
  size := by rw [List.length_set]; exact R.size
  le := R.le
  nil := R.nil
  wf := fun z hz => by
    rcases List.mem_or_eq_of_mem_set hz with h | rfl
    · exact R.wf z h
    · exact S.u8_wf hx.1 hx.2
  mem := by
    have hsz := R.size
    rcases R.mem with h | ⟨b, off, hb, hlt, hc⟩
    · omega
    · cases hb
      refine .inr ⟨g, 0, rfl, by simpa using hlt, fun j hj => ?_⟩
      by_cases e : j = k
      · subst e
        have h0 := hc j hj
        rw [Nat.zero_add] at h0 ⊢
        rw [World.cell?_setCell_same _ _ _ h0, List.getD_eq_getElem?_getD, List.getElem?_set_self (by omega)]
        rfl
      · rw [Nat.zero_add] at *
        have h0 := hc j hj
        rw [Nat.zero_add] at h0
        rw [World.cell?_setCell_other _ _ _ _ (by intro h; injection h with _ h; exact e h.symm), h0, List.getD_eq_getElem?_getD, List.getD_eq_getElem?_getD, List.getElem?_set_ne (fun h => e h.symm)]

set_option maxRecDepth 100000 in
set_option maxHeartbeats 4000000 in
theorem awake_any (w : World) (T : Tab w) : Calls Tryd.prog 8 #[] w fun e w' => e = .returned (.bool true) ∧ Below w.heap.size w w' := by
  have K1 := encode_any hel none 0 0 w (rowI_nil w) T
  rw [hel_enc] at K1
  go_enter Tryd.func8, Tryd.ntmps8
  go_wp2_with (first
    | (go_at_call 9; refine K1.mono ?_; rintro e w1 ⟨v1, rfl, O1, hb1⟩)
    | (go_at_call 14; refine (C.rnumber_any none 0 0 [] 300 _ (C.row_nil _ _) (by omega) (by omega) (by omega)).mono ?_; rintro e w2 ⟨v2, rfl, O2, hb2⟩))
  clear K1
  have O2' : S.Own w1.heap.size w2 v2 [172, 2] := by rw [List.nil_append, hel_num] at O2; exact O2
  clear O2
  obtain ⟨g1, c1, rfl, hg1, hg1', hn1, hc1⟩ := O1.some (by simp)
  obtain ⟨g2, c2, rfl, hg2, hg2', hn2, hc2⟩ := O2'.some (by simp)
  obtain ⟨a2, k2, hv2, R2⟩ := O2'.row (by intro z hz; simp at hz; omega)
  cases hv2
  obtain ⟨a1, k1, hv1, R1⟩ := O1.row hel_byt
  cases hv1
  simp only [List.length_cons, List.length_nil, Nat.reduceAdd] at R1 R2 hn1 hn2 hc1 hc2 ⊢
  have R1' := R1.below hb2
  have d0 := R1'.at 0 (by omega)
  have d7 := R1'.at 7 (by omega)
  have e0 := R2.at 0 (by omega)
  simp only [List.getD_cons_zero, List.getD_cons_succ, Nat.zero_add] at d0 d7 e0
  have hz12 := hb2.size
  have B2 : Below w.heap.size w w2 := hb1.trans (hb2.mono hb1.size)
  have T2 := T.below B2
  have F1 : ∀ k, w1.frozen? ⟨g1, k, none⟩ = false := by
    rcases O1.2 with ⟨h0, _⟩ | ⟨g, cap, cur, hv, hb, hg, _⟩
    · cases h0
    · cases hv
      intro k
      simp [World.frozen?, hg]
  have F2 : ∀ k, w2.frozen? ⟨g1, k, none⟩ = false := fun k => (World.frozen?_of_block (a := ⟨g1, k, none⟩) (hb2.block g1 hg1')).trans (F1 k)
  clear O1 O2' R2 hb1 hb2 R1 F1
  go_quiet (fail)
  obtain ⟨w3, hw3⟩ : ∃ w3, w2.drewN nq = w3 := ⟨_, rfl⟩
  have R3 : Row .u8 w3 (some ⟨g1, 0, none⟩) 17 c1 [237, 91, 9, 0, 1, 3, 5, 172, 2, 0, 0, 0, 0, 155, 49, 24, 207] := by rw [← hw3]; exact R1'.drewN _
  have B3 : Below w.heap.size w w3 := by rw [← hw3]; exact below_drewN B2 _
  have T3 := T.below B3
  have hgz : g1 < w3.heap.size := by rw [← hw3]; exact Nat.lt_of_lt_of_le hg1' hz12
  have F3 : ∀ k, w3.frozen? ⟨g1, k, none⟩ = false := by rw [← hw3]; exact F2
  rw [hw3]
  clear hw3 B2 T2 F2 R1' d0 d7 e0
  have P3 := R3.part 0 16 (by omega) (by omega)
  have KD1 := decode_err _ _ _ _ w3 P3 T3 (by omega) (by omega) 21 hel_cut rfl
  clear P3
  have hle1 : (16 : Int) ≤ (c1 : Int) := by omega
  have hxor : bits .xor .u8 207 1 = 206 := by decide +kernel
  have KD2 : ∀ (W Z : World) (o : Obj), Below w3.heap.size w3 W → Z = W.setCell ⟨g1, 16, none⟩ (.int .u8 206) → Calls Tryd.prog 15 #[.slice (some ⟨g1, 0, none⟩) 17 c1] (Z.alloc o) fun e w' => e = .returned (.tuple #[pkv pkZ none 0 0, .int .i64 22]) ∧ Below (Z.alloc o).heap.size (Z.alloc o) w' := by
    rintro W Z o hb rfl
    have h1 := hb.size
    have h0 := B3.size
    have BB : Below w.heap.size w (W.setCell ⟨g1, 16, none⟩ (.int .u8 206)) := (B3.trans (hb.mono h0)).setCell (p := ⟨g1, 16, none⟩) hg1 _
    have BC := BB.alloc BB.size o
    exact decode_err _ _ _ _ _ ((row_set (R3.below hb) 16 206 (by omega) (by omega)).alloc o) (T.below BC) (by omega) (by omega) 22 hel_off rfl
  have d16 := R3.at 16 (by omega)
  simp only [List.getD_cons_zero, List.getD_cons_succ, Nat.zero_add] at d16
  have F16 := F3 16
  clear F3 R3 T3
  go_wp2_with (first
    | (go_at_call 15; refine KD1.mono ?_; rintro e w4 ⟨rfl, hb4⟩; clear KD1; have c16 := (hb4.cell (p := ⟨g1, 16, none⟩) hgz).trans d16; have f16 := (World.frozen?_of_block (a := ⟨g1, 16, none⟩) (hb4.block g1 hgz)).trans F16; have z4 := Nat.lt_of_lt_of_le hgz hb4.size)
    | (go_at_call 15; refine (KD2 w4 _ _ hb4 rfl).mono ?_; rintro e w5 ⟨rfl, hb5⟩; clear KD2)
    | (go_at_call 9; refine (encode_no hel3 none 0 0 _ (rowI_nil _) hel3_no).mono ?_; rintro e w6 ⟨rfl, hb6⟩))
  go_ret
  have B4 : Below w.heap.size w w4 := B3.trans (hb4.mono B3.size)
  have B5 : Below w.heap.size w w5 := ((B4.setCell (p := ⟨g1, 16, none⟩) hg1 (.int .u8 206)).alloc (by simp [World.setCell]; exact B4.size) _).trans (hb5.mono (by simp [World.setCell]; have := B4.size; omega))
  exact ⟨rfl, (B5.alloc B5.size _).trans (hb6.mono (by simp; have := B5.size; omega))⟩

end Go.Proofs.YticmjlnpjopfbabDoor

namespace Go.Proofs.YticmjlnpjopfbabDoor
open Go.ChangeShapes Go.WideShapes Go.ChangeAt Go.RowKit
open S (Tab)
set_option linter.unusedVariables false
set_option linter.unusedSimpArgs false

theorem exec_load38 {o : Oper} {a : Act} {w : World} {xx : Operand} {g off : Nat} {y : Itm} (ho : o.op = .load 38 xx) (hx : a.eval xx = .pointer (some ⟨g, off, none⟩)) (hc : ItAt w g off y) :
    (execOp a.eval o).run Tryd.prog w = .ok (.value (itv y)) w := by
  unfold execOp
  simp only [ho, hx, Instr.loadAt, Instr.sureAddr, Sem.run_bind, Sem.run_pure, Result.andThen_ok, load_agg w g off 38 (itc y) _ hc Tryd.underlying38 rfl (by kernel_rfl)]
  rfl

end Go.Proofs.YticmjlnpjopfbabDoor
