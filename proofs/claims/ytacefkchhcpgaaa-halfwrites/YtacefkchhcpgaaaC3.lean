/-
  Package half: what makes a half-edge fit; lines.
-/
import Derived.Test.YtacefkchhcpgaaaC6
namespace Go.Proofs.Ytacefkchhcpgaaa
open Go.ChangeShapes Go.WideShapes Go.ChangeAt Go.RowKit Go.Maps Go.Shelf
set_option linter.unusedVariables false
set_option linter.unusedSimpArgs false
attribute [local go_sem] Oper.semAt_some

theorem less_total : ∀ a b : List UInt8, (Op.bytesLess a b || a == b) = !Op.bytesLess b a
  | [], [] => rfl
  | [], b :: y => rfl
  | a :: x, [] => rfl
  | a :: x, b :: y => by
    have ih := less_total x y
    simp only [Op.bytesLess, List.cons_beq_cons]
    rcases Nat.lt_trichotomy a.toNat b.toNat with h | h | h
    · have h1 : a < b := UInt8.lt_iff_toNat_lt.2 h
      have h2 : ¬ b < a := fun k => by have := UInt8.lt_iff_toNat_lt.1 k; omega
      have h3 : (b == a) = false := by simp; intro e; subst e; omega
      simp [h1, h2, h3]
    · have e : a = b := UInt8.toNat_inj.1 h
      subst e
      have h2 : ¬ a < a := fun k => by have := UInt8.lt_iff_toNat_lt.1 k; omega
      simp only [h2, decide_false, Bool.false_or, beq_self_eq_true, Bool.true_and]
      exact ih
    · have h1 : ¬ a < b := fun k => by have := UInt8.lt_iff_toNat_lt.1 k; omega
      have h2 : b < a := UInt8.lt_iff_toNat_lt.2 h
      have h3 : (a == b) = false := by simp; intro e; subst e; omega
      simp [h1, h2, h3]
theorem le_not (a b : ByteArray) : (Op.bytesLess a.toList b.toList || a.toList == b.toList) = !ltN b a := less_total _ _
theorem lt_nil (s : ByteArray) (h : nameB s = true) : ltN ⟨#[]⟩ s = true := by
  have h1 : 1 ≤ s.size := by simp [nameB] at h; omega
  unfold ltN
  have e : s.toList.length = s.size := by rw [ByteArray.toList_eq]; simp
  cases hs : s.toList with
  | nil => rw [hs] at e; simp at e; omega
  | cons x r =>
    have e0 : (⟨#[]⟩ : ByteArray).toList = [] := by rw [ByteArray.toList_eq]
    rw [e0]
    rfl
def ok1 (id peer : Int) (x : LS) : Bool := nameB x.name && (!zeroB x.v x.p x.f && fitB x.v x.p x.f id peer)
def prevN (ls : List LS) (i : Nat) : ByteArray := if i = 0 then ⟨#[]⟩ else (ls.getD (i - 1) LS.z).name
def okAt (id peer : Int) (ls : List LS) (i : Nat) : Bool := ltN (prevN ls i) (ls.getD i LS.z).name && ok1 id peer (ls.getD i LS.z)
def linesB (id peer : Int) (ls : List LS) : Bool := (List.range ls.length).all (okAt id peer ls)
theorem lines_no {id peer : Int} {ls : List LS} {i : Nat} (hi : i < ls.length) (h : okAt id peer ls i = false) : linesB id peer ls = false := by
  unfold linesB
  rw [List.all_eq_false]
  exact ⟨i, List.mem_range.2 hi, by rw [h]; decide⟩
theorem lines_yes {id peer : Int} {ls : List LS} (h : ∀ j, j < ls.length → okAt id peer ls j = true) : linesB id peer ls = true := by
  unfold linesB
  rw [List.all_eq_true]
  exact fun j hj => h j (List.mem_range.1 hj)
theorem lines_at {id peer : Int} {ls : List LS} (h : linesB id peer ls = true) (j : Nat) (hj : j < ls.length) : okAt id peer ls j = true := by
  unfold linesB at h
  rw [List.all_eq_true] at h
  exact h j (List.mem_range.2 hj)
theorem prevN_succ (ls : List LS) (i : Nat) : prevN ls (i + 1) = (ls.getD i LS.z).name := by unfold prevN; rw [if_neg (by omega)]; rfl
def HS.fit (id : Int) (h : HS) : Bool := nodeB id && (nodeB h.peer && (!eqI h.peer id && (inB 1 h.boot 1099511627776 && (inB 0 h.life 1099511627776 && (missB h.pend h.miss && (decide (h.ls.length ≤ 8) && linesB id h.peer h.ls))))))
section
variable {ops : Array Oper} {rest : List Oper} {o : Oper} {A : Act} {W : World} {Q : Exit → Act → World → Prop} {F : Fence} {n : Nat}
theorem wpListIn_eql42 (hw : Region.wanted o (yielded ops A.tmps) = true) {x y : Operand} (ho : o.op = .binOp .eql 42 x y 42) (a0 a1 a2 b0 b1 b2 : Int) (hx : A.eval x = rg a0 a1 a2) (hy : A.eval y = rg b0 b1 b2)
    (h : wpListIn F n Try.prog ops Q rest (A.put o.dst (.bool (sameB a0 a1 a2 b0 b1 b2))) W) : wpListIn F n Try.prog ops Q (o :: rest) A W := by
  refine wpListIn_step fun K hK => ?_
  rw [if_pos hw]
  unfold Oper.wpIn
  refine ⟨?_, ?_⟩
  · simp [Oper.about, ho]
  · rw [Oper.semAt_plain F _ _ (by rw [ho]; intro c hc'; cases hc')]
    rw [exec_eql42 ho a0 a1 a2 b0 b1 b2 hx hy]
    exact hK _ _ h
theorem wpList_eql42 (hw : Region.wanted o (yielded ops A.tmps) = true) {x y : Operand} (ho : o.op = .binOp .eql 42 x y 42) (a0 a1 a2 b0 b1 b2 : Int) (hx : A.eval x = rg a0 a1 a2) (hy : A.eval y = rg b0 b1 b2)
    (h : wpList Try.prog ops Q rest (A.put o.dst (.bool (sameB a0 a1 a2 b0 b1 b2))) W) : wpList Try.prog ops Q (o :: rest) A W := by
  unfold wpList
  rw [if_pos hw]
  left
  unfold Oper.wp
  rw [exec_eql42 ho a0 a1 a2 b0 b1 b2 hx hy]
  exact h
end
/-- The look at the lines, on its way. -/
structure Lns (w : World) (fb : Nat) (v : Value) (id : Int) (cs : Array Value) (r : Bool) (last : ByteArray) (W : World) : Prop where
  keep : KeepI w fb v W
  id_ : One W w.heap.size (.int .i64 id)
  box : W.heap[w.heap.size + 1]? = some (.cells cs 24 (0, 0))
  res : One W (w.heap.size + 1 + 1) (.bool r)
  last_ : One W (w.heap.size + 1 + 1 + 1) (.string last)
theorem Lns.same {w A B : World} {fb N : Nat} {v : Value} {id : Int} {cs : Array Value} {r : Bool} {last : ByteArray} {C : Nat → Prop} (h : Lns w fb v id cs r last A) (s : Same N C A B) (hf : fb < N) (hN : w.heap.size + 4 ≤ N) : Lns w fb v id cs r last B :=
  ⟨⟨h.keep.ptr.same s hf, Below.same h.keep.below s (by omega) (Nat.le_refl _)⟩, h.id_.same s (by omega), (s.block _ (row_lt h.box) (.inl (by omega))).trans h.box, h.res.same s (by omega), h.last_.same s (by omega)⟩
theorem Lns.put {w A : World} {fb : Nat} {v : Value} {id : Int} {cs : Array Value} {r : Bool} {last : ByteArray} (h : Lns w fb v id cs r last A) (hf : fb ≠ w.heap.size + 3) (l : ByteArray) : Lns w fb v id cs r l (A.setCell ⟨w.heap.size + 1 + 1 + 1, 0, none⟩ (.string l)) :=
  ⟨⟨h.keep.ptr.far (by omega) _, h.keep.below.setCell (p := ⟨w.heap.size + 1 + 1 + 1, 0, none⟩) (by show w.heap.size ≤ w.heap.size + 1 + 1 + 1; omega) _⟩, h.id_.far (by omega) _, set_far h.box (by omega) _ _, h.res.far (by omega) _, h.last_.set _⟩
theorem Lns.out {w A : World} {fb : Nat} {v : Value} {id : Int} {cs : Array Value} {r : Bool} {last : ByteArray} (h : Lns w fb v id cs r last A) (hf : fb ≠ w.heap.size + 2) (x : Bool) : Lns w fb v id cs x last (A.setCell ⟨w.heap.size + 1 + 1, 0, none⟩ (.bool x)) :=
  ⟨⟨h.keep.ptr.far (by omega) _, h.keep.below.setCell (p := ⟨w.heap.size + 1 + 1, 0, none⟩) (by show w.heap.size ≤ w.heap.size + 1 + 1; omega) _⟩, h.id_.far (by omega) _, set_far h.box (by omega) _ _, h.res.set _, h.last_.far (by omega) _⟩
theorem Lns.later {w A B : World} {fb : Nat} {v : Value} {id : Int} {cs : Array Value} {r : Bool} {last : ByteArray} (h : Lns w fb v id cs r last A) (s : Below A.heap.size A B) : Lns w fb v id cs r last B :=
  ⟨⟨h.keep.ptr.below s, h.keep.below.trans (s.mono h.keep.below.size)⟩, h.id_.below s, (s.block _ (row_lt h.box)).trans h.box, h.res.below s, h.last_.below s⟩

set_option maxRecDepth 100000 in
set_option maxHeartbeats 8000000 in
theorem lines_any (id peer boot life : Int) (ls : List LS) (pend : Bool) (miss : Int) (a : Option Addr) (c : Nat) (w : World) (R : RdL w a ls.length c ls) (h8 : ls.length ≤ 8) :
    Calls Try.prog 44 #[.int .i64 id, .agg #[.int .i64 peer, .int .i64 boot, .int .i64 life, .slice a ls.length c, .bool pend, .int .i64 miss]] w fun e w' => e = .returned (.bool (linesB id peer ls)) ∧ Below w.heap.size w w' := by
  have h8I : ¬ (8 : Int) < (ls.length : Int) := by omega
  obtain ⟨w4, hw4⟩ : ∃ w4, (((w.alloc (.cells #[.int .i64 id] 3)).alloc (.cells #[.int .i64 peer, .int .i64 boot, .int .i64 life, .slice a ls.length c, .bool pend, .int .i64 miss] 24)).alloc (.cells #[.bool false] 4)).alloc (.cells #[.string ⟨#[]⟩] 9) = w4 := ⟨_, rfl⟩
  have B4 : Below w.heap.size w w4 := by rw [← hw4]; exact ((((Below.refl _ _).alloc (Nat.le_refl _) _).alloc (by simp <;> omega) _).alloc (by simp <;> omega) _).alloc (by simp <;> omega) _
  have z4 : w4.heap.size = w.heap.size + 4 := by rw [← hw4]; simp
  have x0 : One w4 w.heap.size (.int .i64 id) := by rw [← hw4]; exact (((One.new _ _ _).alloc _).alloc _).alloc _
  have x1 : w4.heap[w.heap.size + 1]? = some (.cells #[.int .i64 peer, .int .i64 boot, .int .i64 life, .slice a ls.length c, .bool pend, .int .i64 miss] 24 (0, 0)) := by rw [← hw4]; exact heap_old (by simp) (heap_old (by simp) (heap_new (by simp)))
  have x2 : One w4 (w.heap.size + 1 + 1) (.bool false) := by rw [← hw4]; exact ((One.new _ _ _).at (by simp)).alloc _
  have x3 : One w4 (w.heap.size + 1 + 1 + 1) (.string ⟨#[]⟩) := by rw [← hw4]; exact (One.new _ _ _).at (by simp)
  have HZ : Hid (w4.heap.size = w.heap.size + 4) := z4
  have HW : Hid ((((w.alloc (.cells #[.int .i64 id] 3)).alloc (.cells #[.int .i64 peer, .int .i64 boot, .int .i64 life, .slice a ls.length c, .bool pend, .int .i64 miss] 24)).alloc (.cells #[.bool false] 4)).alloc (.cells #[.string ⟨#[]⟩] 9) = w4) := hw4
  have KN := fun W => named_any a ls.length c W
  clear hw4 z4
  refine (callsIn_wide (n := 2)).1 ?_
  refine callsIn_of_wp_marks Try.func44 rfl trivial ?_
  simp only [Try.ntmps44, List.size_toArray, List.length_cons, List.length_nil, Nat.reduceAdd, Nat.reduceSub, Array.replicate_succ, Array.replicate_zero, List.push_toArray, List.append_toArray, List.nil_append, List.cons_append]
  gi_wp2_with (refine ⟨trivial, ?_⟩; gi_at_call 54; refine (callsIn_wide.2 (KN _)).mono ?_; rintro e w5 ⟨rfl, hw5⟩)
  rw [← hw5]
  rw [HW.out] at hw5
  have b5 : Below w4.heap.size w4 w5 := by rw [hw5]; exact (Below.refl _ _).alloc (Nat.le_refl _) _
  have z5 : w5.heap.size = w.heap.size + 5 := by rw [hw5, World.size_alloc, HZ.out]
  have L0 : Lns w (w.heap.size + 4) (.slice a ls.length c) id #[.int .i64 peer, .int .i64 boot, .int .i64 life, .slice a ls.length c, .bool pend, .int .i64 miss] false (prevN ls 0) w5 := by
    refine ⟨⟨?_, B4.trans (b5.mono B4.size)⟩, x0.below b5, (b5.block _ (row_lt x1)).trans x1, x2.below b5, x3.below b5⟩
    rw [hw5]
    exact (One.new _ _ _).at HZ.out
  have HZ5 : Hid (w5.heap.size = w.heap.size + 5) := z5
  clear KN HW B4 x0 x1 x2 x3 b5 z5 hw5
  have G := named_gives w (w.heap.size + 4) a ls.length c ls w5 R
  have HB8 : Hid (ls.length ≤ 8) := h8
  clear h8
  refine range_turns (gf := 68) (lb := #[.pointer (some ⟨w.heap.size + 4, 0, none⟩)]) (by first | rfl | simp) (enters_of Try.func68 (by kernel_rfl) rfl)
    G (Below.refl _ _) (fun _ => rfl)
    (fun i C W => Lns w (w.heap.size + 4) (.slice a ls.length c) id #[.int .i64 peer, .int .i64 boot, .int .i64 life, .slice a ls.length c, .bool pend, .int .i64 miss] false (prevN ls i) W ∧ ∀ j, j < i → okAt id peer ls j = true)
    (fun cc C W => cc = .ret ∧ linesB id peer ls = false ∧ ∃ last, Lns w (w.heap.size + 4) (.slice a ls.length c) id #[.int .i64 peer, .int .i64 boot, .int .i64 life, .slice a ls.length c, .bool pend, .int .i64 miss] false last W)
    (fun i C A h => h.1.keep)
    (fun i C A B h s => ⟨h.1.same s (by have := HZ5.out; omega) (by have := HZ5.out; omega), h.2⟩)
    (fun cc C A B h s => ⟨h.1, h.2.1, h.2.2.imp fun last q => q.same s (by have := HZ5.out; omega) (by have := HZ5.out; omega)⟩)
    ⟨L0, fun j hj => by omega⟩
    (fun x a' W => ∃ k, w5.heap.size + 2 ≤ k ∧ Tri W k (.int .i64 x.v) (.int .i64 x.p) (.int .i64 x.f) ∧ a' = { tmps := #[.int .i64 id, .agg #[.int .i64 peer, .int .i64 boot, .int .i64 life, .slice a ls.length c, .bool pend, .int .i64 miss], .pointer (some ⟨w.heap.size, 0, none⟩), .pointer (some ⟨w.heap.size + 1, 0, none⟩), .pointer (some ⟨w.heap.size + 1 + 1, 0, none⟩), .pointer (some ⟨w.heap.size + 1 + 1 + 1, 0, none⟩), .string x.name, .pointer (some ⟨k, 0, none⟩), .pointer (some ⟨w.heap.size + 1, 3, none⟩), .slice a ls.length c, .int .i64 (ls.length : Int), .bool false, .pointer (some ⟨w.heap.size + 1, 3, none⟩), .slice a ls.length c, .func (.func 68) #[] #[.pointer (some ⟨w.heap.size + 1 + 1 + 1 + 1, 0, none⟩)], .string x.name, rg x.v x.p x.f, undef, undef, undef, undef, undef, undef, undef, undef, undef, undef, undef, undef, undef, undef, undef, undef, undef, undef, undef, undef, undef, undef], defers := [] })
    (fun x a' A o ⟨k, h1, h2, h3⟩ => ⟨k, h1, h2.putObj (by omega) o, h3⟩)
    ?assign ?body ?done ?stop
  case assign =>
    rintro i ⟨name, v, p, f⟩ W C K hi hs hK
    gi_wp2
    exact hK _ _ ⟨W.heap.size, hs, Tri.new _ _ _ _ _, rfl⟩ ((Below.refl _ _).alloc (Nat.le_refl _) _)
  case body =>
    rintro i ⟨name, v, p, f⟩ C a' W ⟨L, hok⟩ ⟨k, hk, TK, rfl⟩ hx hs hC
    dsimp only
    have hin : i < ls.length := (List.getElem?_eq_some_iff.1 hx).1
    have hgd : ls.getD i LS.z = ⟨name, v, p, f⟩ := by rw [List.getD_eq_getElem?_getD, hx]; rfl
    have HI : Hid (i < ls.length) := hin
    have HOK : Hid (∀ j, j < i → okAt id peer ls j = true) := hok
    have HG : Hid (ls.getD i LS.z = ⟨name, v, p, f⟩) := hgd
    have hC' : ∀ b, C b → w5.heap.size ≤ b ∧ b < W.heap.size := fun b hb => ⟨by have := (hC b hb).1; omega, (hC b hb).2⟩
    have fin : ∀ (X Y : World) (b : Bool), okAt id peer ls i = false → Below W.heap.size W X → Y = X.setCell ⟨w.heap.size + 1 + 1, 0, none⟩ (.bool false) → ∃ C', (linesB id peer ls = false ∧ ∃ last, Lns w (w.heap.size + 4) (.slice a ls.length c) id #[.int .i64 peer, .int .i64 boot, .int .i64 life, .slice a ls.length c, .bool pend, .int .i64 miss] false last Y) ∧ Turn w5.heap.size C C' W Y := by
      intro X Y b h1 h2 h3
      have hz := HZ5.out
      refine ⟨C, ⟨lines_no HI.out h1, _, by rw [h3]; exact (L.later h2).out (by omega) false⟩, ?_⟩
      rw [h3]
      exact turn_sets (by simpa [World.setCell] using h2.size) (fun b h4 h5 => (set_far rfl (by omega) _ _).trans (h2.block b h5)) hC'
    have FIN : Hid (∀ (X Y : World) (b : Bool), okAt id peer ls i = false → Below W.heap.size W X → Y = X.setCell ⟨w.heap.size + 1 + 1, 0, none⟩ (.bool false) → ∃ C', (linesB id peer ls = false ∧ ∃ last, Lns w (w.heap.size + 4) (.slice a ls.length c) id #[.int .i64 peer, .int .i64 boot, .int .i64 life, .slice a ls.length c, .bool pend, .int .i64 miss] false last Y) ∧ Turn w5.heap.size C C' W Y) := fin
    clear hx hok hgd hin G L0 fin
    obtain ⟨last, hlast⟩ : ∃ l, prevN ls i = l := ⟨_, rfl⟩
    have HLA : Hid (prevN ls i = last) := hlast
    rw [hlast] at L
    clear hlast
    obtain ⟨a0, a1, a2⟩ := _root_.id L.id_
    obtain ⟨c0, c1, c2⟩ := _root_.id L.res
    obtain ⟨d0, d1, d2⟩ := _root_.id L.last_
    have p0 := row_cell L.box 0 (.int .i64 peer) rfl
    obtain ⟨t0, t1, t2, u0, u1, u2, tz⟩ := _root_.id TK
    have hle := le_not name last
    cases hl : ltN last name with
    | false =>
      rw [hl] at hle
      have hle2 : (Op.bytesLess name.toList last.toList || name.toList == last.toList) = true := hle
      have HF : Hid (okAt id peer ls i = false) := by show _ = _; unfold okAt; rw [HG.out, HLA.out, hl]; rfl
      clear hle hl
      gi_wp2_with (refine ⟨trivial, ?_⟩)
      obtain ⟨C', h2, h3⟩ := FIN.out _ _ true HF.out (Below.refl _ _) rfl; exact ⟨C', ⟨rfl, h2⟩, h3⟩
    | true =>
      rw [hl] at hle
      have hle2 : (Op.bytesLess name.toList last.toList || name.toList == last.toList) = false := hle
      clear hle
      cases hn : nameB name with
      | false =>
        have HF : Hid (okAt id peer ls i = false) := by show _ = _; unfold okAt ok1; rw [HG.out, hn]; simp
        clear hl
        gi_wp2_with (first | (refine ⟨trivial, ?_⟩; gi_at_call 61; refine (CallsIn.inRound _ (callsIn_wide.2 (isName_any name _))).mono ?_; rintro e w6 ⟨rfl, hw6⟩; rw [hw6, hn]; clear hw6) | (refine ⟨trivial, ?_⟩))
        obtain ⟨C', h2, h3⟩ := FIN.out _ _ true HF.out (Below.refl _ _) rfl; exact ⟨C', ⟨rfl, h2⟩, h3⟩
      | true =>
        cases hz : zeroB v p f with
        | true =>
          have HF : Hid (okAt id peer ls i = false) := by show _ = _; unfold okAt ok1; rw [HG.out, hz]; simp
          clear hl
          gi_wp2_with (first
            | (refine ⟨trivial, ?_⟩; gi_at_call 61; refine (CallsIn.inRound _ (callsIn_wide.2 (isName_any name _))).mono ?_; rintro e w6 ⟨rfl, hw6⟩; rw [hw6, hn]; clear hw6)
            | ((with_reducible show wpListIn _ _ _ _ _ (Oper.mk _ (Op.binOp .eql 42 _ _ 42) _ _ _ _ :: _) _ _); refine wpListIn_eql42 (by rfl) rfl v p f 0 0 0 rfl rfl ?_; rw [zero_same, hz])
            | (refine ⟨trivial, ?_⟩))
          obtain ⟨C', h2, h3⟩ := FIN.out _ _ true HF.out (Below.refl _ _) rfl; exact ⟨C', ⟨rfl, h2⟩, h3⟩
        | false =>
          cases hf : fitB v p f id peer with
          | false =>
            have HF : Hid (okAt id peer ls i = false) := by show _ = _; unfold okAt ok1; rw [HG.out, hf]; simp
            clear hl
            gi_wp2_with (first
              | (refine ⟨trivial, ?_⟩; gi_at_call 61; refine (CallsIn.inRound _ (callsIn_wide.2 (isName_any name _))).mono ?_; rintro e w6 ⟨rfl, hw6⟩; rw [hw6, hn]; clear hw6)
              | ((with_reducible show wpListIn _ _ _ _ _ (Oper.mk _ (Op.binOp .eql 42 _ _ 42) _ _ _ _ :: _) _ _); refine wpListIn_eql42 (by rfl) rfl v p f 0 0 0 rfl rfl ?_; rw [zero_same, hz])
              | (refine ⟨trivial, ?_⟩; gi_at_call 57; refine (CallsIn.inRound _ (callsIn_wide.2 (fit_any v p f id peer _))).mono ?_; rintro e w7 ⟨rfl, b7⟩; rw [hf]; have c0' := ((L.later b7).res).1; have c1' := ((L.later b7).res).2.1))
            obtain ⟨C', h2, h3⟩ := FIN.out _ _ true HF.out b7 rfl; exact ⟨C', ⟨rfl, h2⟩, h3⟩
          | true =>
            have HF : Hid (okAt id peer ls i = true) := by show _ = _; unfold okAt ok1; rw [HG.out, HLA.out, hl, hn, hz, hf]; rfl
            clear hl
            gi_wp2_with (first
              | (refine ⟨trivial, ?_⟩; gi_at_call 61; refine (CallsIn.inRound _ (callsIn_wide.2 (isName_any name _))).mono ?_; rintro e w6 ⟨rfl, hw6⟩; rw [hw6, hn]; clear hw6)
              | ((with_reducible show wpListIn _ _ _ _ _ (Oper.mk _ (Op.binOp .eql 42 _ _ 42) _ _ _ _ :: _) _ _); refine wpListIn_eql42 (by rfl) rfl v p f 0 0 0 rfl rfl ?_; rw [zero_same, hz])
              | (refine ⟨trivial, ?_⟩; gi_at_call 57; refine (CallsIn.inRound _ (callsIn_wide.2 (fit_any v p f id peer _))).mono ?_; rintro e w7 ⟨rfl, b7⟩; rw [hf]; have c0' := ((L.later b7).last_).1; have c1' := ((L.later b7).last_).2.1))
            have hz5 := HZ5.out
            refine ⟨C, ⟨?_, fun j hj => ?_⟩, turn_sets (by simpa [World.setCell] using b7.size) (fun b h4 h5 => (set_far rfl (by omega) _ _).trans (b7.block b h5)) hC'⟩
            · rw [prevN_succ, HG.out]
              exact (L.later b7).put (by omega) name
            · by_cases e : j = i
              · rw [e]; exact HF.out
              · exact HOK.out j (by omega)
  case done =>
    rintro C W ⟨L, hok⟩ hK hC
    have HV : Hid (linesB id peer ls = true) := lines_yes hok
    obtain ⟨c0, c1, c2⟩ := _root_.id L.res
    clear hok G L0
    gi_wp2
    have hz := HZ5.out
    have L2 := L.out (by omega) true
    have hK' := set_far (k := w.heap.size + 1 + 1) hK (by omega) 0 (.bool true)
    refine ⟨by simp, .inl ⟨_, _, rfl, run_takeDeferred hK', ?_⟩⟩
    have q0 := (L2.res.putObj (l := w5.heap.size) (by omega) (.deferred none)).1
    refine ⟨_, results_row1 rfl _ _ (w.heap.size + 1 + 1) _ rfl (load_one 4 Try.underlying4 rfl q0), ?_, below_putObj L2.keep.below (by omega) _⟩
    rw [HV.out]
  case stop =>
    rintro cc C W ⟨rfl, hno, last, L⟩ hK hC
    have HV : Hid (linesB id peer ls = false) := hno
    clear hno G L0
    gi_wp2
    have hz := HZ5.out
    refine ⟨by simp, .inl ⟨_, _, rfl, run_takeDeferred hK, ?_⟩⟩
    have q0 := (L.res.putObj (l := w5.heap.size) (by omega) (.deferred none)).1
    refine ⟨_, results_row1 rfl _ _ (w.heap.size + 1 + 1) _ rfl (load_one 4 Try.underlying4 rfl q0), ?_, below_putObj L.keep.below (by omega) _⟩
    rw [HV.out]
set_option maxRecDepth 100000 in
set_option maxHeartbeats 2000000 in
theorem lines_many (id peer boot life : Int) (n : Nat) (pend : Bool) (miss : Int) (a : Option Addr) (c : Nat) (w : World) (h8 : 8 < n) :
    Calls Try.prog 44 #[.int .i64 id, .agg #[.int .i64 peer, .int .i64 boot, .int .i64 life, .slice a n c, .bool pend, .int .i64 miss]] w fun e w' => e = .returned (.bool false) ∧ Below w.heap.size w w' := by
  have h8I : (8 : Int) < (n : Int) := by omega
  clear h8
  go_enter Try.func44, Try.ntmps44
  go_wp2
  have c2 : One (((w.alloc (.cells #[.int .i64 id] 3)).alloc (.cells #[.int .i64 peer, .int .i64 boot, .int .i64 life, .slice a n c, .bool pend, .int .i64 miss] 24)).alloc (.cells #[.bool false] 4)) (w.heap.size + 1 + 1) (.bool false) := (One.new _ _ _).at (by simp)
  refine bodyPost_ret (results_row1 rfl _ _ (w.heap.size + 1 + 1) _ rfl (load_one 4 Try.underlying4 rfl c2.1)) rfl ⟨rfl, ?_⟩
  exact (((Below.refl _ _).alloc (Nat.le_refl _) _).alloc (by simp <;> omega) _).alloc (by simp <;> omega) _
end Go.Proofs.Ytacefkchhcpgaaa
