/-
  Package half: place: where a key stands, or would stand, in a rising list.
-/
import Derived.Test.YteoiogjaecpddaaC1
import Derived.RegionIn
namespace Go.Proofs.Yteoiogjaecpddaa
open Go.ChangeShapes Go.WideShapes Go.ChangeAt Go.RowKit Go.Maps Go.Shelf
set_option linter.unusedVariables false
set_option linter.unusedSimpArgs false
attribute [local go_sem] Oper.semAt_some

def pos {α : Type} (lt : α → Bool) : List α → Nat
  | [] => 0
  | x :: r => if lt x = true then pos lt r + 1 else 0
def hit {α : Type} (lt eq : α → Bool) (l : List α) : Bool := match l[pos lt l]? with
  | some x => eq x
  | none => false
theorem pos_at {α : Type} {lt : α → Bool} {x : α} : ∀ {l : List α} {i : Nat}, (∀ q ∈ l.take i, lt q = true) → l[i]? = some x → lt x = false → pos lt l = i
  | [], i, _, h, _ => by cases h
  | y :: l, 0, _, h, hx => by
    simp at h
    subst h
    simp [pos, hx]
  | y :: l, i + 1, h0, h, hx => by
    have hy := h0 y (by simp)
    have := pos_at (l := l) (i := i) (fun q hq => h0 q (by simp [hq])) (by simpa using h) hx
    simp [pos, hy, this]
theorem pos_all {α : Type} {lt : α → Bool} : ∀ {l : List α}, (∀ q ∈ l, lt q = true) → pos lt l = l.length
  | [], _ => rfl
  | y :: l, h => by
    have := pos_all (l := l) (fun q hq => h q (by simp [hq]))
    simp [pos, h y (by simp), this]
theorem pos_le {α : Type} (lt : α → Bool) : ∀ l : List α, pos lt l ≤ l.length
  | [] => Nat.le_refl _
  | y :: l => by
    have := pos_le lt l
    unfold pos
    split <;> simp <;> omega
theorem hit_at {α : Type} {lt eq : α → Bool} {x : α} {l : List α} {i : Nat} (h0 : ∀ q ∈ l.take i, lt q = true) (h : l[i]? = some x) (hx : lt x = false) : pos lt l = i ∧ hit lt eq l = eq x := by
  have := pos_at h0 h hx
  exact ⟨this, by unfold hit; rw [this, h]⟩
theorem hit_all {α : Type} {lt eq : α → Bool} {l : List α} (h : ∀ q ∈ l, lt q = true) : pos lt l = l.length ∧ hit lt eq l = false := by
  have := pos_all h
  exact ⟨this, by unfold hit; rw [this, List.getElem?_eq_none (Nat.le_refl _)]⟩
theorem hit_lt {α : Type} {lt eq : α → Bool} {l : List α} (h : hit lt eq l = true) : pos lt l < l.length := by
  unfold hit at h
  cases e : l[pos lt l]? with
  | none => rw [e] at h; cases h
  | some x => exact (List.getElem?_eq_some_iff.1 e).1
theorem less_irrefl : ∀ a : List UInt8, Op.bytesLess a a = false
  | [] => rfl
  | x :: r => by simp [Op.bytesLess, less_irrefl r]
theorem less_of_eq {a b : ByteArray} (h : eqN a b = true) : ltN a b = false := by
  unfold eqN at h
  unfold ltN
  rw [eq_of_beq h]
  exact less_irrefl _
def ltI (a b : Int) : Bool := decide (a < b)
def eqI (a b : Int) : Bool := decide (a = b)
abbrev posN (name : ByteArray) (l : List LS) : Nat := pos (fun x : LS => ltN x.name name) l
abbrev hitN (name : ByteArray) (l : List LS) : Bool := hit (fun x : LS => ltN x.name name) (fun x => eqN x.name name) l
abbrev posI (k : Int) (l : List HR) : Nat := pos (fun x : HR => ltI x.peer k) l
abbrev hitI (k : Int) (l : List HR) : Bool := hit (fun x : HR => ltI x.peer k) (fun x => eqI x.peer k) l
def toN (n : Nat) (h : Bool) : Int := if h = true then (n : Int) + 1 else (n : Int)
theorem toN_true (n : Nat) : toN n true = (n : Int) + 1 := rfl
theorem toN_false (n : Nat) : toN n false = (n : Int) := rfl
/-- The search, on its way. -/
structure Plc (w : World) (fb : Nat) (v key : Value) (x y : Int) (i : Int) (W : World) : Prop where
  keep : KeepI w fb v W
  key : One W w.heap.size key
  r0 : One W (w.heap.size + 1) (.int .i64 x)
  r1 : One W (w.heap.size + 1 + 1) (.int .i64 y)
  at_ : One W (w.heap.size + 1 + 1 + 1) (.int .i64 i)
theorem Plc.same {w A B : World} {fb N : Nat} {v key : Value} {x y i : Int} {C : Nat → Prop} (h : Plc w fb v key x y i A) (s : Same N C A B) (hf : fb < w.heap.size) (hN : w.heap.size + 4 ≤ N) : Plc w fb v key x y i B :=
  ⟨⟨h.keep.ptr.same s (by omega), Below.same h.keep.below s (by omega) (Nat.le_refl _)⟩, h.key.same s (by omega), h.r0.same s (by omega), h.r1.same s (by omega), h.at_.same s (by omega)⟩
theorem One.far {W : World} {c k o : Nat} {v : Value} (h : One W c v) (hk : c ≠ k) (x : Value) : One (W.setCell ⟨k, o, none⟩ x) c v := h.of_block (Below.heap_setCell _ _ _ _ hk) (by simp [World.setCell])
theorem One.drew {W : World} {c : Nat} {v : Value} (h : One W c v) : One W.drew c v := h
theorem Plc.put {w A : World} {fb : Nat} {v key : Value} {x y i : Int} (h : Plc w fb v key x y i A) (hf : fb < w.heap.size) (j : Int) : Plc w fb v key x y j (A.setCell ⟨w.heap.size + 1 + 1 + 1, 0, none⟩ (.int .i64 j)) :=
  ⟨⟨h.keep.ptr.far (by omega) _, h.keep.below.setCell (p := ⟨w.heap.size + 1 + 1 + 1, 0, none⟩) (by show w.heap.size ≤ w.heap.size + 1 + 1 + 1; omega) _⟩, h.key.far (by omega) _, h.r0.far (by omega) _, h.r1.far (by omega) _, h.at_.set _⟩
theorem Plc.out0 {w A : World} {fb : Nat} {v key : Value} {x y i : Int} (h : Plc w fb v key x y i A) (hf : fb < w.heap.size) (j : Int) : Plc w fb v key j y i (A.setCell ⟨w.heap.size + 1, 0, none⟩ (.int .i64 j)) :=
  ⟨⟨h.keep.ptr.far (by omega) _, h.keep.below.setCell (p := ⟨w.heap.size + 1, 0, none⟩) (by show w.heap.size ≤ w.heap.size + 1; omega) _⟩, h.key.far (by omega) _, h.r0.set _, h.r1.far (by omega) _, h.at_.far (by omega) _⟩
theorem Plc.out1 {w A : World} {fb : Nat} {v key : Value} {x y i : Int} (h : Plc w fb v key x y i A) (hf : fb < w.heap.size) (j : Int) : Plc w fb v key x j i (A.setCell ⟨w.heap.size + 1 + 1, 0, none⟩ (.int .i64 j)) :=
  ⟨⟨h.keep.ptr.far (by omega) _, h.keep.below.setCell (p := ⟨w.heap.size + 1 + 1, 0, none⟩) (by show w.heap.size ≤ w.heap.size + 1 + 1; omega) _⟩, h.key.far (by omega) _, h.r0.far (by omega) _, h.r1.set _, h.at_.far (by omega) _⟩
theorem Plc.drew {w A : World} {fb : Nat} {v key : Value} {x y i : Int} (h : Plc w fb v key x y i A) : Plc w fb v key x y i A.drew :=
  ⟨⟨h.keep.ptr, ⟨h.keep.below.os, h.keep.below.tape, h.keep.below.output, h.keep.below.size, h.keep.below.block⟩⟩, h.key, h.r0, h.r1, h.at_⟩
theorem wide_scope {n : Nat} {P : Program} {c : Code} {Q : Exit → Act → World → Prop} {a : Act} {w : World} (h : c.wpIn Fence.wide n P (Exit.noGoto Q) a w) : (Code.scope c).wpIn Fence.wide n P Q a w :=
  wpIn_wide.2 (wp_scope_straight (wpIn_wide.1 h))
theorem results_two {P : Program} {fn : Func} {p q : Tmp} {t u : TypeId} (h : fn.results = #[.cell p t, .cell q u]) (tmps : Array Value) (w : World) (g k : Nat) (v z : Value)
    (hp : tmps.getD p undef = .pointer (some ⟨g, 0, none⟩)) (hq : tmps.getD q undef = .pointer (some ⟨k, 0, none⟩)) (h1 : (loadVar t ⟨g, 0, none⟩).run P w = .ok v w) (h2 : (loadVar u ⟨k, 0, none⟩).run P w = .ok z w) :
    (results fn tmps).run P w = .ok (.tuple #[v, z]) w := by
  have hp' : tmps[p]?.getD undef = .pointer (some ⟨g, 0, none⟩) := by simpa using hp
  have hq' : tmps[q]?.getD undef = .pointer (some ⟨k, 0, none⟩) := by simpa using hq
  simp [results, h, hp', hq', asAddr, h1, h2]
theorem load_one {P : Program} {w : World} {g : Nat} {v : Value} (ty : TypeId) {d : TypeDesc} (hu : P.underlying ty = some d) (hd : (match d with | .struct _ | .array _ _ => true | _ => false) = false) (hc : w.cell? ⟨g, 0, none⟩ = some v) : (loadVar ty ⟨g, 0, none⟩).run P w = .ok v w := by
  have hagg : (isAgg ty).run P w = .ok false w := by
    unfold isAgg
    rw [Sem.run_bind, run_underlying hu w]
    cases d <;> first | rfl | cases hd
  simp [loadVar, Sem.run_bind, hagg, hc, go_sem]
theorem turn_sets {A B : World} {N : Nat} {C : Nat → Prop} (hs : A.heap.size ≤ B.heap.size) (hb : ∀ b, N ≤ b → b < A.heap.size → B.heap[b]? = A.heap[b]?) (hC : ∀ b, C b → N ≤ b ∧ b < A.heap.size) : Turn N C C A B :=
  ⟨hs, fun b h1 h2 _ => hb b h1 h2, fun b hb => ⟨(hC b hb).1, Nat.lt_of_lt_of_le (hC b hb).2 hs, .inl hb⟩⟩

set_option maxRecDepth 100000 in
set_option maxHeartbeats 8000000 in
theorem placeI_any (fb : Nat) (a : Option Addr) (n cap : Nat) (l : List HR) (key : Int) (w : World) (hr : RdH w a n cap l) (hf : One w fb (.slice a n cap)) :
    Calls Try.prog 63 #[.func (.func 69) #[] #[.pointer (some ⟨fb, 0, none⟩)], .int .i64 key] w fun e w' => e = .returned (.tuple #[.int .i64 (posI key l : Int), .int .i64 (toN (posI key l) (hitI key l))]) ∧ Below w.heap.size w w' := by
  have hfb := hf.2.2
  have HN : Hid (n ≤ 140737488355328) := hr.small
  have HL : Hid (l.length = n) := hr.size
  obtain ⟨w4, hw4⟩ : ∃ w4, (((w.alloc (.cells #[.int .i64 key] 3)).alloc (.cells #[.int .i64 0] 3)).alloc (.cells #[.int .i64 0] 3)).alloc (.cells #[.int .i64 0] 3) = w4 := ⟨_, rfl⟩
  have B4 : Below w.heap.size w w4 := by rw [← hw4]; exact ((((Below.refl _ _).alloc (Nat.le_refl _) _).alloc (by simp <;> omega) _).alloc (by simp <;> omega) _).alloc (by simp <;> omega) _
  have z4 : w4.heap.size = w.heap.size + 4 := by rw [← hw4]; simp
  have L0 : Plc w fb (.slice a n cap) (.int .i64 key) 0 0 0 w4 := by
    refine ⟨⟨hf.below B4, B4⟩, ?_, ?_, ?_, ?_⟩
    · rw [← hw4]; exact (((One.new _ _ _).alloc _).alloc _).alloc _
    · rw [← hw4]; exact (((One.new _ _ _).at (by simp)).alloc _).alloc _
    · rw [← hw4]; exact ((One.new _ _ _).at (by simp)).alloc _
    · rw [← hw4]; exact (One.new _ _ _).at (by simp)
  have HZ : Hid (w4.heap.size = w.heap.size + 4) := z4
  have HW : Hid ((((w.alloc (.cells #[.int .i64 key] 3)).alloc (.cells #[.int .i64 0] 3)).alloc (.cells #[.int .i64 0] 3)).alloc (.cells #[.int .i64 0] 3) = w4) := hw4
  clear B4 z4 hf hw4
  refine (callsIn_wide (n := 2)).1 ?_
  refine callsIn_of_wp_marks Try.func63 rfl trivial ?_
  simp only [Try.ntmps63, List.size_toArray, List.length_cons, List.length_nil, Nat.reduceAdd, Nat.reduceSub, Array.replicate_succ, Array.replicate_zero, List.push_toArray, List.append_toArray, List.nil_append, List.cons_append]
  gi_wp2
  refine wide_scope ?_
  gi_wp2
  refine wpIn_label ?_
  gi_wp2
  rw [HW.out]
  clear HW
  have G := toward_gives w fb a n cap l w4 hr
  refine range_turns (gf := 69) (lb := #[.pointer (some ⟨fb, 0, none⟩)]) (by first | rfl | simp) (enters_of Try.func69 (by kernel_rfl) rfl)
    G (Below.refl _ _) (fun _ => rfl)
    (fun i C W => Plc w fb (.slice a n cap) (.int .i64 key) 0 0 (i : Int) W ∧ ∀ q ∈ l.take i, (fun x : HR => ltI x.peer key) q = true)
    (fun c C W => ∃ (i : Nat) (x : HR), l[i]? = some x ∧ (∀ q ∈ l.take i, (fun x : HR => ltI x.peer key) q = true) ∧ ((c = .ret ∧ (fun x : HR => eqI x.peer key) x = true ∧ Plc w fb (.slice a n cap) (.int .i64 key) (i : Int) ((i : Int) + 1) (i : Int) W) ∨ (c = .exit 0 ∧ (fun x : HR => eqI x.peer key) x = false ∧ (fun x : HR => ltI x.peer key) x = false ∧ Plc w fb (.slice a n cap) (.int .i64 key) 0 0 (i : Int) W)))
    (fun i C A h => h.1.keep)
    (fun i C A B h s => ⟨h.1.same s hfb (by have := HZ.out; omega), h.2⟩)
    (fun c C A B h s => by
      obtain ⟨i, x, h1, h2, h3⟩ := h
      exact ⟨i, x, h1, h2, h3.imp (fun ⟨p, q, r⟩ => ⟨p, q, r.same s hfb (by have := HZ.out; omega)⟩) (fun ⟨p, q, q', r⟩ => ⟨p, q, q', r.same s hfb (by have := HZ.out; omega)⟩)⟩)
    ⟨L0, fun q hq => by simp at hq⟩
    (fun x a' W => a' = { tmps := #[.func (.func 69) #[] #[.pointer (some ⟨fb, 0, none⟩)], .int .i64 key, undef, .pointer (some ⟨w.heap.size, 0, none⟩), .pointer (some ⟨w.heap.size + 1, 0, none⟩), .pointer (some ⟨w.heap.size + 1 + 1, 0, none⟩), .pointer (some ⟨w.heap.size + 1 + 1 + 1, 0, none⟩), (encT x)[0]!, .func (.func 69) #[] #[.pointer (some ⟨fb, 0, none⟩)], (encT x)[0]!, (encT x)[1]!, undef, undef, undef, undef, undef, undef, undef, undef, undef, undef, undef, undef, undef, undef, undef], defers := [] })
    (fun x a' A o h => h)
    ?assign ?body ?done ?stop
  case assign =>
    intro i x W C K hi hs hK
    gi_wp2
    exact hK _ _ rfl (Below.refl _ _)
  case body =>
    rintro i ⟨peer, boot, life, la, ln, lc, pend, miss⟩ C a' W ⟨L, hno⟩ rfl hx hs hC
    have hz := HZ.out
    have hin : i < n := by rw [← HL.out]; exact (List.getElem?_eq_some_iff.1 hx).1
    have hwr : IntKind.i64.wrap ((i : Int) + 1) = (i : Int) + 1 := by rw [IntKind.wrap_i64]; have := HN.out; omega
    have HX : Hid (l[i]? = some ⟨peer, boot, life, la, ln, lc, pend, miss⟩) := hx
    have HO : Hid (∀ q ∈ l.take i, (fun x : HR => ltI x.peer key) q = true) := hno
    obtain ⟨a0, a1, a2⟩ := id L.key
    obtain ⟨b0, b1, b2⟩ := id L.r0
    obtain ⟨c0, c1, c2⟩ := id L.r1
    obtain ⟨d0, d1, d2⟩ := id L.at_
    have hC' : ∀ b, C b → w4.heap.size ≤ b ∧ b < W.heap.size := fun b hb => ⟨by have := (hC b hb).1; omega, (hC b hb).2⟩
    clear hx hno G L0 hz hin
    have fin : ∀ (B : World), W.heap.size ≤ B.heap.size → (∀ b, w4.heap.size ≤ b → b < W.heap.size → B.heap[b]? = W.heap[b]?) → Turn w4.heap.size C C W B := fun B h1 h2 => turn_sets h1 h2 hC'
    cases he : eqI peer key with
    | true =>
      have he2 : (peer == key) = _ := he
      gi_wp2
      gi_region
      all_goals gi_wp2
      all_goals exact ⟨C, ⟨i, _, HX.out, HO.out, .inl ⟨rfl, he, ((L.drew).out0 hfb (i : Int)).out1 hfb ((i : Int) + 1)⟩⟩, fin _ (by simp [World.setCell]) (fun b h1 h2 => by have := HZ.out; exact (set_far rfl (by omega) _ _).trans (set_far rfl (by omega) _ _))⟩
    | false =>
      have he2 : (peer == key) = _ := he
      cases hl : ltI peer key with
      | true =>
        have hl2 : peer < key := of_decide_eq_true hl
        gi_wp2
        refine ⟨C, ⟨(by rw [show ((i + 1 : Nat) : Int) = (i : Int) + 1 by omega]; exact L.put hfb ((i : Int) + 1)), fun q hq => ?_⟩, fin _ (by simp [World.setCell]) (fun b h1 h2 => by have := HZ.out; exact set_far rfl (by omega) _ _)⟩
        rw [List.take_add_one, HX.out] at hq
        rcases List.mem_append.1 hq with hq | hq
        · exact HO.out q hq
        · simp at hq; subst hq; exact hl
      | false =>
        have hl2 : key < peer := by have := of_decide_eq_false hl; have := of_decide_eq_false he; omega
        gi_wp2
        exact ⟨C, ⟨i, _, HX.out, HO.out, .inr ⟨rfl, he, hl, L⟩⟩, fin _ (Nat.le_refl _) (fun b h1 h2 => rfl)⟩
  case done =>
    rintro C W ⟨L, hno⟩ hK hC
    have HP := hit_all (lt := fun x : HR => ltI x.peer key) (eq := fun x : HR => eqI x.peer key) (fun q hq => hno q (by rw [List.take_length]; exact hq))
    have HV : Hid (posI key l = l.length ∧ hitI key l = false) := HP
    obtain ⟨b0, b1, b2⟩ := id L.r0
    obtain ⟨c0, c1, c2⟩ := id L.r1
    obtain ⟨d0, d1, d2⟩ := id L.at_
    clear HP hno G L0
    gi_wp2
    gi_region
    all_goals gi_wp2
    all_goals
      have hz := HZ.out
      have P2 := ((L.drew).out0 hfb (l.length : Int)).out1 hfb (l.length : Int)
      have hK' := (set_far (w := (W.drew.setCell ⟨w.heap.size + 1, 0, none⟩ (.int .i64 (l.length : Int)))) (k := w.heap.size + 1 + 1) (g := w4.heap.size) ((set_far (w := W.drew) (k := w.heap.size + 1) (g := w4.heap.size) hK (by omega) 0 (.int .i64 (l.length : Int)))) (by omega) 0 (.int .i64 (l.length : Int)))
      refine ⟨by simp, .inl ⟨_, _, rfl, run_takeDeferred hK', ?_⟩⟩
      have q0 := (P2.r0.putObj (l := w4.heap.size) (by omega) (.deferred none)).1
      have q1 := (P2.r1.putObj (l := w4.heap.size) (by omega) (.deferred none)).1
      refine ⟨_, results_two rfl _ _ (w.heap.size + 1) (w.heap.size + 1 + 1) _ _ rfl rfl (load_one 3 Try.underlying3 rfl q0) (load_one 3 Try.underlying3 rfl q1), ?_, below_putObj P2.keep.below (by omega) _⟩
      rw [HV.out.1, HV.out.2]
      rfl
  case stop =>
    rintro c C W ⟨i, x, hx, hno, (⟨rfl, he, L⟩ | ⟨rfl, he, hl, L⟩)⟩ hK hC
    · have HP := hit_at (lt := fun x : HR => ltI x.peer key) (eq := fun x : HR => eqI x.peer key) hno hx (decide_eq_false (by have := of_decide_eq_true he; omega))
      have HV : Hid (posI key l = i ∧ hitI key l = true) := ⟨HP.1, HP.2.trans he⟩
      clear HP G L0 hno hx he
      gi_wp2
      have hz := HZ.out
      refine ⟨by simp, .inl ⟨_, _, rfl, run_takeDeferred hK, ?_⟩⟩
      have q0 := (L.r0.putObj (l := w4.heap.size) (by omega) (.deferred none)).1
      have q1 := (L.r1.putObj (l := w4.heap.size) (by omega) (.deferred none)).1
      refine ⟨_, results_two rfl _ _ (w.heap.size + 1) (w.heap.size + 1 + 1) _ _ rfl rfl (load_one 3 Try.underlying3 rfl q0) (load_one 3 Try.underlying3 rfl q1), ?_, below_putObj L.keep.below (by omega) _⟩
      rw [HV.out.1, HV.out.2]
      rfl
    · have HP := hit_at (lt := fun x : HR => ltI x.peer key) (eq := fun x : HR => eqI x.peer key) hno hx hl
      have HV : Hid (posI key l = i ∧ hitI key l = false) := ⟨HP.1, HP.2.trans he⟩
      obtain ⟨b0, b1, b2⟩ := id L.r0
      obtain ⟨c0, c1, c2⟩ := id L.r1
      obtain ⟨d0, d1, d2⟩ := id L.at_
      clear HP G L0 hno hx he hl
      gi_wp2
      gi_region
      all_goals gi_wp2
      all_goals
        have hz := HZ.out
        have P2 := ((L.drew).out0 hfb (i : Int)).out1 hfb (i : Int)
        have hK' := (set_far (w := (W.drew.setCell ⟨w.heap.size + 1, 0, none⟩ (.int .i64 (i : Int)))) (k := w.heap.size + 1 + 1) (g := w4.heap.size) ((set_far (w := W.drew) (k := w.heap.size + 1) (g := w4.heap.size) hK (by omega) 0 (.int .i64 (i : Int)))) (by omega) 0 (.int .i64 (i : Int)))
        refine ⟨by simp, .inl ⟨_, _, rfl, run_takeDeferred hK', ?_⟩⟩
        have q0 := (P2.r0.putObj (l := w4.heap.size) (by omega) (.deferred none)).1
        have q1 := (P2.r1.putObj (l := w4.heap.size) (by omega) (.deferred none)).1
        refine ⟨_, results_two rfl _ _ (w.heap.size + 1) (w.heap.size + 1 + 1) _ _ rfl rfl (load_one 3 Try.underlying3 rfl q0) (load_one 3 Try.underlying3 rfl q1), ?_, below_putObj P2.keep.below (by omega) _⟩
        rw [HV.out.1, HV.out.2]
        rfl
end Go.Proofs.Yteoiogjaecpddaa
