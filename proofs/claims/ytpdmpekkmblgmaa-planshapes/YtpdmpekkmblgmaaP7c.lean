/-
  Package plan: the pairs of a ring, as they are handed out.
-/
import Derived.Test.YtpdmpekkmblgmaaP7b
namespace Go.Proofs.Ytpdmpekkmblgmaa
open Go.ChangeShapes Go.WideShapes Go.ChangeAt Go.RowKit Go.Maps Go.Shelf
set_option linter.unusedVariables false
set_option linter.unusedSimpArgs false
attribute [local go_sem] Oper.semAt_some

theorem Same.wid {m n : Nat} {Co C : Nat → Prop} {A B : World} (s : Same n C A B) (hm : m ≤ n) (hC : ∀ b, Co b → n ≤ b → C b) : Same m Co A B :=
  ⟨s.os, s.tape, s.output, s.size, fun b hb h => s.block b hb (by
    by_cases hn : b < n
    · exact .inl hn
    · exact .inr (hC b (h.resolve_left (by omega)) (by omega)))⟩
theorem Turn.wid {m n : Nat} {Co Co' : Nat → Prop} {A B : World} (t : Turn m Co Co' A B) (hm : m ≤ n) : Turn n (fun b => Co b ∧ n ≤ b) (fun b => Co' b ∧ n ≤ b) A B :=
  ⟨t.size, fun b h1 h2 h3 => t.keep b (by omega) h2 (fun h => h3 ⟨h, h1⟩), fun b h => ⟨h.2, (t.mine b h.1).2.1, (t.mine b h.1).2.2.imp (fun x => ⟨x, h.2⟩) id⟩⟩
theorem ringL_at {n k : Nat} {x : LK} (h : (lineL n)[k]? = some x) : (ringL n)[k]? = some x := by
  unfold ringL
  rw [List.getElem?_append_left (List.getElem?_eq_some_iff.1 h).1]
  exact h
theorem ringL_last {n : Nat} (h : 3 ≤ n) : (ringL n)[(lineL n).length]? = some (0, (n : Int) - 1) := by
  unfold ringL
  rw [if_pos h, List.getElem?_append_right (Nat.le_refl _)]
  simp
theorem ringL_len {n : Nat} (h : 3 ≤ n) : (ringL n).length = (lineL n).length + 1 := by
  unfold ringL
  rw [if_pos h]
  simp
theorem ringL_few {n : Nat} (h : ¬ 3 ≤ n) : (ringL n).length = (lineL n).length := by
  unfold ringL
  rw [if_neg h]
  simp
/-- What a loop within an iterator keeps of the loop that takes what it hands out. -/
structure Nest (J : (Nat → Prop) → World → Prop) (m n : Nat) (C : Nat → Prop) (A : World) : Prop where
  out : ∃ Co, (∀ b, C b ↔ Co b ∧ n ≤ b) ∧ J Co A ∧ (∀ c, Co c → m ≤ c ∧ c < A.heap.size) ∧ ∀ b, m ≤ b → b < n → ¬ Co b
theorem Nest.same {J : (Nat → Prop) → World → Prop} {m n : Nat} {C : Nat → Prop} {A B : World} (h : Nest J m n C A) (hm : m ≤ n) (hJ : ∀ C A B, J C A → Same m C A B → J C B) (s : Same n C A B) : Nest J m n C B := by
  obtain ⟨Co, h1, h2, h3, h4⟩ := h.out
  exact ⟨Co, h1, hJ _ _ _ h2 (s.wid hm (fun b hb hn => (h1 b).2 ⟨hb, hn⟩)), fun c hc => ⟨(h3 c hc).1, Nat.lt_of_lt_of_le (h3 c hc).2 s.size⟩, h4⟩
theorem Nest.turn {J : (Nat → Prop) → World → Prop} {m n : Nat} {Co Co' : Nat → Prop} {A B : World} (hJ : J Co' B) (t : Turn m Co Co' A B) (hn : n ≤ A.heap.size) (h4 : ∀ b, m ≤ b → b < n → ¬ Co b) : Nest J m n (fun b => Co' b ∧ n ≤ b) B :=
  ⟨Co', fun b => Iff.rfl, hJ, fun c hc => ⟨(t.mine c hc).1, (t.mine c hc).2.1⟩, fun b h1 h2 h3 => (t.mine b h3).2.2.elim (h4 b h1 h2) (fun h => by omega)⟩
theorem One.nest {W W' : World} {m n b : Nat} {Co Co' : Nat → Prop} {v : Value} (h : One W b v) (t : Turn m Co Co' W W') (h4 : ∀ b, m ≤ b → b < n → ¬ Co b) (h1 : m ≤ b) (h2 : b < n) : One W' b v :=
  h.turn t h1 (h4 b h1 h2)
set_option maxRecDepth 100000 in
set_option maxHeartbeats 1000000 in
theorem ring_gives (fb : Nat) (n : Nat) (hn : n ≤ 1000) (w : World) : Gives Try.prog 61 #[.pointer (some ⟨fb, 0, none⟩)] encL (ringL n) w (fun A => One A fb (.int .i64 (n : Int))) := by
  intro lp J Jx W hbW hJ hJx hKeep hY h0
  have K0 := hKeep _ _ _ h0
  refine (callsIn_wide (n := 2)).1 ?_
  refine callsIn_of_wp_marks Try.func61 rfl trivial ?_
  simp only [Try.ntmps61, List.size_toArray, List.length_cons, List.length_nil, Nat.reduceAdd, Nat.reduceSub, Array.replicate_succ, Array.replicate_zero, List.push_toArray, List.append_toArray, List.nil_append, List.cons_append]
  have HN : Hid (n ≤ 1000) := hn
  obtain ⟨o0, o1, oz⟩ := id K0
  have KL := fun X => line_any (n : Int) 0 X
  gi_wp2_with (refine ⟨trivial, ?_⟩; gi_at_call 44; refine (callsIn_wide.2 (KL _)).mono ?_; clear KL; rintro e w4 ⟨rfl, hw4⟩)
  obtain ⟨w4, hw4⟩ : ∃ X, (W.alloc (.cells #[.func (.yield lp) #[] #[]] 86)).alloc (.cells #[.int .i64 (n : Int)] 3) = X := ⟨_, rfl⟩
  rw [hw4]
  have Z4 : w4.heap.size = W.heap.size + 2 := by rw [← hw4]; simp
  have OY : One w4 W.heap.size (.func (.yield lp) #[] #[]) := by rw [← hw4]; exact (One.new _ _ _).alloc _
  have ON : One w4 (W.heap.size + 1) (.int .i64 (n : Int)) := by rw [← hw4]; exact (One.new _ _ _).at (by simp)
  have S4 : Same W.heap.size (fun _ => False) W w4 := by rw [← hw4]; exact (Same.alloc _ _ _ _).trans (Same.alloc _ _ _ _)
  have N4 : Nest (fun C A => J 0 C A) W.heap.size w4.heap.size (fun _ => False) w4 := ⟨fun _ => False, fun b => ⟨fun h => h.elim, fun h => h.1⟩, hJ _ _ _ _ h0 S4, fun c h => h.elim, fun _ _ _ h => h⟩
  clear hw4 K0 h0 o0 o1 oz S4 hn
  refine range_turns (gf := 60) (lb := #[.pointer (some ⟨W.heap.size + 1, 0, none⟩)]) (by first | rfl | simp) (enters_of Try.func60 (by kernel_rfl) rfl)
    (line_gives (W.heap.size + 1) n (by have := HN.out; omega) w4) (Below.refl _ _) (fun _ => rfl)
    (fun k C A => Nest (fun C A => J k C A) W.heap.size w4.heap.size C A ∧ One A W.heap.size (.func (.yield lp) #[] #[]) ∧ One A (W.heap.size + 1) (.int .i64 (n : Int)))
    (fun c C A => c = .ret ∧ Nest Jx W.heap.size w4.heap.size C A)
    (fun k C A h => h.2.2)
    (fun k C A B h s => ⟨h.1.same (by omega) (hJ k) s, h.2.1.same s (by omega), h.2.2.same s (by omega)⟩)
    (fun c C A B h s => ⟨h.1, h.2.same (by omega) hJx s⟩)
    ⟨N4, OY, ON⟩
    (fun x a' A => ∃ q : Nat, a' = { tmps := #[.func (.yield lp) #[] #[], .pointer (some ⟨fb, 0, none⟩), .pointer (some ⟨W.heap.size, 0, none⟩), .pointer (some ⟨q, 0, none⟩), .int .i64 (n : Int), .func (.func 60) #[] #[.pointer (some ⟨W.heap.size + 1, 0, none⟩)], .agg #[.int .i64 x.1, .int .i64 x.2], undef, undef, undef, undef, undef, undef, undef, undef, undef, undef, undef], defers := [] } ∧ At A q #[.int .i64 x.1, .int .i64 x.2] 49 ∧ w4.heap.size + 2 ≤ q)
    (fun x a' A o ⟨q, h1, h2, h3⟩ => ⟨q, h1, (World.putObj_heap_other (by omega)).trans h2, h3⟩)
    ?assign ?body ?done ?stop
  case assign =>
    rintro k ⟨p, q⟩ A C K hi hs' hK
    dsimp only [encL]
    gi_wp2
    exact hK _ _ ⟨A.heap.size, by first | rfl | simp, World.alloc_heap_new A _, hs'⟩ ((Below.refl _ A).alloc (Nat.le_refl _) _)
  case body =>
    rintro k ⟨p, q⟩ C a' A ⟨NE, O1, O2⟩ ⟨r, rfl, hr, hrr⟩ hx hs' hC
    obtain ⟨Co, c1, c2, c3, c4⟩ := NE.out
    have hra : A.rangeAt r 0 (LK.cells (p, q)) := range_rowL hr
    have LD : ∀ {F : Fence} {m : Nat} {ops : Array Oper} {rest : List Oper} {o : Oper} {A' : Act} {Q : Exit → Act → World → Prop} (hgd : o.guard = none) (x : Operand) (ho : o.op = .load 49 x) (hx : A'.eval x = .pointer (some ⟨r, 0, none⟩))
        (h : wpListIn F m Try.prog ops Q rest (A'.put o.dst (.agg #[.int .i64 p, .int .i64 q])) A), wpListIn F m Try.prog ops Q (o :: rest) A' A := fun hgd x ho hx h => wpListIn_load49 hgd x ho r 0 (p, q) hx hra h
    obtain ⟨o0, o1, oz⟩ := id O1
    obtain ⟨fn1, tmps, assign, body, hy, hR⟩ := hY k Co (p, q) A c2 (by omega) c3 (ringL_at hx)
    dsimp only [encL] at hy hR
    clear hY hx hra hr
    dsimp only
    gi_wp2_with ((with_reducible show wpListIn _ _ _ _ _ (Oper.mk _ (Op.load 49 _) _ _ _ _ :: _) _ _); refine LD rfl _ rfl rfl ?_)
    clear hy
    refine (RoundIn.wideAny hR).mono ?_
    clear hR
    rintro e W3 (⟨rfl, C', hJ3, t3⟩ | ⟨rfl, C', hx3, t3⟩)
    · have N3 := Nest.turn (J := fun C A => J (k + 1) C A) hJ3 t3 (by omega) c4
      have O13 := O1.nest t3 c4 (Nat.le_refl _) (by omega)
      have O23 := O2.nest t3 c4 (by omega) (by omega)
      have T3 := t3.wid (n := w4.heap.size) (by omega)
      have eC : C = fun b => Co b ∧ w4.heap.size ≤ b := funext fun b => propext (c1 b)
      rw [← eC] at T3
      gi_wp2
      exact ⟨_, ⟨N3, O13, O23⟩, T3⟩
    · have N3 := Nest.turn hx3 t3 (by omega) c4
      have T3 := t3.wid (n := w4.heap.size) (by omega)
      have eC : C = fun b => Co b ∧ w4.heap.size ≤ b := funext fun b => propext (c1 b)
      rw [← eC] at T3
      gi_wp2
      exact ⟨_, ⟨rfl, N3⟩, T3⟩
  case done =>
    rintro C A ⟨NE, O1, O2⟩ hK hC
    obtain ⟨Co, c1, c2, c3, c4⟩ := NE.out
    have Kr := hKeep _ _ _ c2
    have hnC : ¬ Co w4.heap.size := fun h => by have := (hC _ ((c1 _).2 ⟨h, Nat.le_refl _⟩)).1; omega
    have hAs : w4.heap.size < A.heap.size := row_lt hK
    obtain ⟨o0, o1, oz⟩ := id O1
    obtain ⟨p0, p1, pz⟩ := id Kr
    by_cases h3 : 3 ≤ n
    · have h3I : (3 : Int) ≤ (n : Int) := by omega
      have hsub : IntKind.i64.wrap ((n : Int) - 1) = (n : Int) - 1 := by rw [IntKind.wrap_i64]; have := HN.out; omega
      have HL : Hid ((ringL n).length = (lineL n).length + 1) := ringL_len h3
      obtain ⟨fn1, tmps, assign, body, hy, hR⟩ := hY _ Co _ A c2 (by omega) c3 (ringL_last h3)
      dsimp only [encL] at hy hR
      clear hY
      gi_wp2
      clear hy
      refine (RoundIn.wideAny hR).mono ?_
      clear hR
      rintro e W3 (⟨rfl, C', hJ3, t3⟩ | ⟨rfl, C', hx3, t3⟩)
      · have hK3 := (t3.keep _ (by omega) hAs hnC).trans hK
        have hn3 : ¬ C' w4.heap.size := fun h => (t3.mine _ h).2.2.elim hnC (fun h => by omega)
        rw [Z4] at hK3 hn3
        gi_wp2
        refine ⟨by simp, .inl ⟨_, _, rfl, run_takeDeferred hK3, ?_⟩⟩
        exact ⟨_, results_none rfl _ _ _, ⟨_, rfl⟩, C', fun b hb => ⟨(t3.mine b hb).1, by have := (t3.mine b hb).2.1; simpa using this⟩, .inl (by rw [HL.out]; exact hJ _ _ _ _ hJ3 ((Same.refl _ _ _).putObj (by omega) hn3 _))⟩
      · have hK3 := (t3.keep _ (by omega) hAs hnC).trans hK
        have hn3 : ¬ C' w4.heap.size := fun h => (t3.mine _ h).2.2.elim hnC (fun h => by omega)
        rw [Z4] at hK3 hn3
        gi_wp2
        refine ⟨by simp, .inl ⟨_, _, rfl, run_takeDeferred hK3, ?_⟩⟩
        exact ⟨_, results_none rfl _ _ _, ⟨_, rfl⟩, C', fun b hb => ⟨(t3.mine b hb).1, by have := (t3.mine b hb).2.1; simpa using this⟩, .inr (hJx _ _ _ hx3 ((Same.refl _ _ _).putObj (by omega) hn3 _))⟩
    · have h3I : ¬ (3 : Int) ≤ (n : Int) := by omega
      have HL : Hid ((ringL n).length = (lineL n).length) := ringL_few h3
      rw [Z4] at hK hnC
      gi_wp2
      refine ⟨by simp, .inl ⟨_, _, rfl, run_takeDeferred hK, ?_⟩⟩
      exact ⟨_, results_none rfl _ _ _, ⟨_, rfl⟩, Co, fun b hb => ⟨(c3 b hb).1, by have := (c3 b hb).2; simpa using this⟩, .inl (by rw [HL.out]; exact hJ _ _ _ _ c2 ((Same.refl _ _ _).putObj (by omega) hnC _))⟩
  case stop =>
    rintro c C A ⟨rfl, NE⟩ hK hC
    obtain ⟨Co, c1, c2, c3, c4⟩ := NE.out
    have hnC : ¬ Co w4.heap.size := fun h => by have := (hC _ ((c1 _).2 ⟨h, Nat.le_refl _⟩)).1; omega
    rw [Z4] at hK hnC
    gi_wp2
    refine ⟨by simp, .inl ⟨_, _, by first | rfl | (rw [Z4]), run_takeDeferred hK, ?_⟩⟩
    exact ⟨_, results_none rfl _ _ _, ⟨_, rfl⟩, Co, fun b hb => ⟨(c3 b hb).1, by have := (c3 b hb).2; simpa using this⟩, .inr (hJx _ _ _ c2 ((Same.refl _ _ _).putObj (by omega) hnC _))⟩
end Go.Proofs.Ytpdmpekkmblgmaa
