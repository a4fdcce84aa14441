/-
  The iterator over the terms of two fractions side by side hands out the pairs, as far as both have some.
-/
import Derived.Test.YtkdaefaggbmbnaaDoorFloor
import Derived.RangeFuncCalls
namespace Go.Proofs.YtkdaefaggbmbnaaDoor
open Go.ChangeShapes Go.WideShapes Go.ChangeAt Go.RowKit Go.Shelf
set_option linter.unusedVariables false
set_option linter.unusedSimpArgs false
attribute [local go_sem] Oper.semAt_some

abbrev encP (p : (Int × Bool) × (Int × Bool)) : Array Value := #[stp p.1.1 p.1.2, stp p.2.1 p.2.2]
abbrev both (an ad bn bd : Int) : List ((Int × Bool) × (Int × Bool)) := List.zip (tms an ad) (tms bn bd)

theorem abreast_mk (an ad bn bd : Int) (w : World) :
    Calls Tryd.prog 44 #[fr an ad, fr bn bd] w fun e w' => e = .returned (.func (.func 63) #[] #[.pointer (some ⟨w.heap.size + 1, 0, none⟩), .pointer (some ⟨w.heap.size, 0, none⟩)]) ∧
      Two w' w.heap.size (.int .i64 an) (.int .i64 ad) ∧ Two w' (w.heap.size + 1) (.int .i64 bn) (.int .i64 bd) ∧ Below w.heap.size w w' ∧ w'.heap.size = w.heap.size + 2 := by
  have hmf : ∀ (fn : Fn) (first cap : Array Value) (w : World), (Instr.makeFunc fn first cap).run Tryd.prog w = .ok (.func fn first cap) w := fun _ _ _ _ => rfl
  go_enter Tryd.func44, Tryd.ntmps44
  go_wp2
  go_ret
  exact ⟨rfl, (Two.new _ _ _ _).alloc _, (Two.new _ _ _ _).at (by simp), by go_grown, by simp⟩

theorem Turn.mono {n n' : Nat} {C C' : Nat → Prop} {A B : World} (t : Turn n C C' A B) (hn : n ≤ n') (hC : ∀ b, C b → n' ≤ b) (hA : n' ≤ A.heap.size) : Turn n' C C' A B :=
  ⟨t.size, fun b h1 h2 h3 => t.keep b (by omega) h2 h3, fun b hb => ⟨by rcases (t.mine b hb).2.2 with x | x; exact hC b x; omega, (t.mine b hb).2⟩⟩
theorem One.turn {W W' : World} {n c : Nat} {C C' : Nat → Prop} {v : Value} (h : One W c v) (t : Turn n C C' W W') (hn : n ≤ c) (hC : ¬ C c) : One W' c v :=
  h.of_block (t.keep c hn h.2.2 hC) t.size
theorem One.but {W W' : World} {b c : Nat} {v : Value} (h : One W c v) (hb : But b W W') (hn : c ≠ b) : One W' c v :=
  h.of_block (hb.block c h.2.2 hn) hb.size
theorem But.turn {b n : Nat} {w w' : World} {C : Nat → Prop} (h : But b w w') (hb : b < n) (hC : ∀ b, C b → n ≤ b ∧ b < w.heap.size) : Turn n C C w w' :=
  ⟨h.size, fun k h1 h2 _ => h.block k h2 (by omega), fun k hk => ⟨(hC k hk).1, Nat.lt_of_lt_of_le (hC k hk).2 h.size, .inl hk⟩⟩
theorem round_in {m m' : Nat} {P : Program} {l l' : Nat} {f : FuncId} {tmps : Array Value} {assign body : Code} {w : World} {R : Ending → World → Prop}
    (h : RoundIn Fence.wide m P l f tmps assign body w R) : RoundIn (Fence.wide.inRound l') m' P l f tmps assign body w R :=
  ⟨trivial, fun c cs _ => h.2 c cs (room_wide _)⟩

set_option maxRecDepth 100000 in
set_option maxHeartbeats 4000000 in
theorem abreast_gives (an ad bn bd : Int) (ba bb : Nat) (w : World) (h1 : I64 an) (h2 : 0 ≤ ad) (h2' : ad ≤ 9223372036854775807) (h3 : I64 bn) (h4 : 0 ≤ bd) (h4' : bd ≤ 9223372036854775807)
    (hA : Two w ba (.int .i64 an) (.int .i64 ad)) (hB : Two w bb (.int .i64 bn) (.int .i64 bd)) :
    Gives Tryd.prog 63 #[.pointer (some ⟨bb, 0, none⟩), .pointer (some ⟨ba, 0, none⟩)] encP (both an ad bn bd) w := by
  intro l J Jx W hbW hJ hJx hY h0
  have TA : Two W ba (.int .i64 an) (.int .i64 ad) := hA.below hbW
  have TB : Two W bb (.int .i64 bn) (.int .i64 bd) := hB.below hbW
  obtain ⟨q0, q1, f0, f1, z⟩ := id TA
  obtain ⟨q2, q3, f2, f3, z2⟩ := id TB
  refine (callsIn_wide (n := 2)).1 ?_
  refine callsIn_of_wp_marks Tryd.func63 rfl trivial ?_
  simp only [Tryd.ntmps63, List.size_toArray, List.length_cons, List.length_nil, Nat.reduceAdd, Nat.reduceSub, Array.replicate_succ, Array.replicate_zero, List.push_toArray, List.append_toArray, List.nil_append, List.cons_append]
  gi_wp2_with (first
    | (refine ⟨trivial, ?_⟩; gi_at_call 48; refine (callsIn_wide.2 (begin_any _ _ _)).mono ?_; rintro e w1 ⟨rfl, hb1⟩; obtain ⟨p0, p1, _, _, _⟩ := id ((TA.alloc _).below hb1))
    | (refine ⟨trivial, ?_⟩; gi_at_call 35; refine (callsIn_wide.2 (terms_mk _ _ _)).mono ?_; rintro e w2 ⟨rfl, T2, hb2, Z2⟩))
  have sz1 : W.heap.size + 1 ≤ w1.heap.size := by have := hb1.size; simpa using this
  have sz2 : w2.heap.size = w1.heap.size + 2 := by rw [Z2]; simp
  replace T2 := T2.at (k' := w1.heap.size + 1) (by simp)
  have TW : Two w2 w1.heap.size (.int .i64 bn) (.int .i64 bd) := (Two.new w1 _ _ _).below hb2
  have OY : One w2 W.heap.size (.func (.yield l) #[] #[]) := (((One.new W _ _).below hb1).alloc _).below hb2
  have S2 : ∀ C, Same W.heap.size C W w2 := fun C => (((Same.alloc _ _ _ _).trans (Same.of_below hb1)).trans (Same.alloc _ _ _ _)).trans (Same.of_below hb2)
  have BW : Below W.heap.size W w2 := (S2 (fun _ => False)).below (Nat.le_refl _)
  clear hb1 hb2 p0 p1 q0 q1 q2 q3 f0 f1 f2 f3 Z2
  refine range_turns (gf := 47) (lb := #[.pointer (some ⟨w1.heap.size + 1, 0, none⟩)]) rfl (enters_of Tryd.func47 (by kernel_rfl) rfl)
    (terms_gives an ad (w1.heap.size + 1) w2 h1 h2 h2' T2) (Below.refl _ _) (fun _ => rfl)
    (fun k C V => ∃ N D : Int, Two V w1.heap.size (.int .i64 N) (.int .i64 D) ∧ I64 N ∧ 0 ≤ D ∧ D ≤ 9223372036854775807 ∧ (tms bn bd).drop k = tms N D ∧ k ≤ (tms bn bd).length ∧
      One V W.heap.size (.func (.yield l) #[] #[]) ∧ J k C V)
    (fun c C V => c = .ret ∧ (J (both an ad bn bd).length C V ∨ Jx C V))
    (fun k C A B h s => by
      obtain ⟨N, D, g1, g2, g3, g4, g5, g6, g7, g8⟩ := h
      exact ⟨N, D, g1.of_block (s.block _ g1.2.2.2.2 (.inl (by omega))) s.size, g2, g3, g4, g5, g6, g7.same s (by omega), hJ _ _ _ _ g8 (s.mono (by omega))⟩)
    (fun c C A B h s => ⟨h.1, h.2.imp (fun x => hJ _ _ _ _ x (s.mono (by omega))) (fun x => hJx _ _ _ x (s.mono (by omega)))⟩)
    ⟨bn, bd, TW, h3, h4, h4', rfl, Nat.zero_le _, OY, hJ _ _ _ _ h0 (S2 _)⟩
    (fun x a' V => ∃ c, w2.heap.size + 2 ≤ c ∧ Two V c (.int .i64 x.1) (.bool x.2) ∧ a' = { tmps := #[.func (.yield l) #[] #[], .pointer (some ⟨bb, 0, none⟩), .pointer (some ⟨ba, 0, none⟩), .pointer (some ⟨W.heap.size, 0, none⟩), .pointer (some ⟨w1.heap.size, 0, none⟩), .pointer (some ⟨c, 0, none⟩), undef, undef, fr bn bd, fr bn bd, fr an ad, .func (.func 47) #[] #[.pointer (some ⟨w1.heap.size + 1, 0, none⟩)], stp x.1 x.2, undef, undef, undef, undef, undef, undef, undef, undef, undef, undef, undef, undef, undef], defers := [] })
    (fun x a' A o h => by obtain ⟨c, hc, hT, e⟩ := h; exact ⟨c, hc, hT.putObj (by omega) o, e⟩)
    ?assign ?body ?done ?stop
  case assign =>
    intro k x V C K hi hs hK
    gi_wp2
    exact hK _ _ ⟨V.heap.size, hs, Two.new _ _ _ _, rfl⟩ ((Below.refl _ V).alloc (Nat.le_refl _) _)
  case body =>
    rintro k x C a' V ⟨N, D, g1, g2, g3, g4, g5, g6, g7, g8⟩ ⟨c, hc, Tc, rfl⟩ hx hs hC
    have hk' : k < (tms an ad).length := (List.getElem?_eq_some_iff.1 hx).1
    have nB : ¬ C w1.heap.size := fun h => by have := (hC _ h).1; omega
    have nY : ¬ C W.heap.size := fun h => by have := (hC _ h).1; omega
    obtain ⟨nb1, nb2, nb3⟩ := nx_bd g2 g3 g4
    by_cases hD0 : D = 0
    · have hok : nxOk D = false := by simp [nxOk, hD0]
      have HL : Hid ((both an ad bn bd).length = k) := by
        show (both an ad bn bd).length = k
        have e0 : (tms bn bd).drop k = [] := by rw [g5, hD0]; rfl
        have := congrArg List.length e0
        rw [List.length_drop] at this
        simp at this
        rw [List.length_zip]; omega
      clear hD0
      gi_wp2_with (refine ⟨trivial, ?_⟩; gi_at_call 49; refine (CallsIn.inRound _ (callsIn_wide.2 (next_both N D w1.heap.size _ g2 g3 g4 g1))).mono ?_; rintro e V2 ⟨rfl, T4, B4⟩)
      refine ⟨fun _ h => (by cases h), ?_⟩
      gi_wp2
      have Bv : But w1.heap.size V (V2.alloc (.cells #[.int .i64 (nxT N D), .bool (nxL N D)] 58)) := B4.alloc _
      refine ⟨C, ⟨rfl, .inl ?_⟩, Bv.turn (by omega) (fun b hb => by have := hC b hb; omega)⟩
      rw [HL.out]
      exact hJ _ _ _ _ g8 (Bv.same (by omega) nB)
    · have hok : nxOk D = true := by simp [nxOk, hD0]
      have hdrop := (nx_tms (n := N) g3).1 hok
      have g5' : (tms bn bd).drop (k + 1) = tms (nxN N D) (nxD N D) := by rw [← List.tail_drop, g5, hdrop]; rfl
      have hyx : (tms bn bd)[k]? = some (nxT N D, nxL N D) := by rw [← List.head?_drop, g5, hdrop]; rfl
      have hk2 : k < (tms bn bd).length := (List.getElem?_eq_some_iff.1 hyx).1
      have hxy : (both an ad bn bd)[k]? = some (x, (nxT N D, nxL N D)) := by
        rw [List.getElem?_zip_eq_some]; exact ⟨hx, hyx⟩
      clear hD0 hdrop
      gi_wp2_with (refine ⟨trivial, ?_⟩; gi_at_call 49; refine (CallsIn.inRound _ (callsIn_wide.2 (next_both N D w1.heap.size _ g2 g3 g4 g1))).mono ?_; rintro e V2 ⟨rfl, T4, B4⟩; have Tc2 := Tc.but B4 (by omega); have Y2 := g7.but B4 (by omega); obtain ⟨c0, c1, _, _, _⟩ := id Tc2; obtain ⟨y0, y1, yz⟩ := id Y2; have Sz := B4.size; obtain ⟨fn, tmps, assign, body, hy, hR⟩ := hY k C (x, (nxT N D, nxL N D)) (V2.alloc (.cells #[.int .i64 (nxT N D), .bool (nxL N D)] 58)) (hJ _ _ _ _ g8 ((B4.same (by omega) nB).trans (Same.alloc _ _ _ _))) (by simp; omega) (fun b hb => by have := hC b hb; simp; omega) hxy; dsimp only [encP] at hy)
      have Bv : But w1.heap.size V (V2.alloc (.cells #[.int .i64 (nxT N D), .bool (nxL N D)] 58)) := B4.alloc _
      have T5 : Two (V2.alloc (.cells #[.int .i64 (nxT N D), .bool (nxL N D)] 58)) w1.heap.size (.int .i64 (nxN N D)) (.int .i64 (nxD N D)) := T4.alloc _
      have Y5 : One (V2.alloc (.cells #[.int .i64 (nxT N D), .bool (nxL N D)] 58)) W.heap.size (.func (.yield l) #[] #[]) := Y2.alloc _
      have sz5 : V.heap.size + 1 ≤ (V2.alloc (.cells #[.int .i64 (nxT N D), .bool (nxL N D)] 58)).heap.size := by simp; omega
      have t5 := Bv.turn (n := w2.heap.size) (C := C) (by omega) (fun b hb => by have := hC b hb; omega)
      obtain ⟨V5, hV5⟩ : ∃ V5, V2.alloc (.cells #[.int .i64 (nxT N D), .bool (nxL N D)] 58) = V5 := ⟨_, rfl⟩
      rw [hV5] at hR Bv T5 Y5 sz5 t5 ⊢
      have HD : Hid ((tms bn bd).drop (k + 1) = tms (nxN N D) (nxD N D)) := g5'
      clear hy hY hV5 c0 c1 y0 y1 yz B4 T4 Y2 Tc2 hok g5 g5' hyx hxy
      refine (round_in hR).mono ?_
      clear hR
      rintro e V3 (⟨rfl, C', hJ3, t3⟩ | ⟨rfl, C', hx3, t3⟩)
      · gi_wp2
        refine ⟨C', ⟨nxN N D, nxD N D, T5.turn t3 (by omega) nB, nb1, nb2, nb3, HD.out, by omega, Y5.turn t3 (Nat.le_refl _) nY, hJ3⟩, t5.trans (t3.mono (by omega) (fun b hb => by have := hC b hb; omega) (by omega))⟩
      · gi_wp2
        refine ⟨C', ⟨rfl, .inr hx3⟩, t5.trans (t3.mono (by omega) (fun b hb => by have := hC b hb; omega) (by omega))⟩
  case done =>
    rintro C V ⟨N, D, g1, g2, g3, g4, g5, g6, g7, g8⟩ hK hC
    have hl : (both an ad bn bd).length = (tms an ad).length := by rw [List.length_zip]; omega
    gi_wp2
    refine ⟨by simp, .inl ⟨_, _, rfl, run_takeDeferred hK, ?_⟩⟩
    refine ⟨_, results_none rfl _ _ _, ⟨_, rfl⟩, C, fun b hb => by have := hC b hb; simp; omega, .inl ?_⟩
    rw [hl]
    exact hJ _ _ _ _ g8 ((Same.refl _ _ _).putObj (by omega) (fun h => by have := (hC _ h).1; omega) _)
  case stop =>
    rintro c C V ⟨rfl, hj⟩ hK hC
    have sm : Same W.heap.size C V (V.putObj w2.heap.size (.deferred none)) := (Same.refl _ _ _).putObj (by omega) (fun h => by have := (hC _ h).1; omega) _
    gi_wp2
    refine ⟨by simp, .inl ⟨_, _, rfl, run_takeDeferred hK, ?_⟩⟩
    exact ⟨_, results_none rfl _ _ _, ⟨_, rfl⟩, C, fun b hb => by have := hC b hb; simp; omega, hj.imp (fun x => hJ _ _ _ _ x sm) (fun x => hJx _ _ _ x sm)⟩

end Go.Proofs.YtkdaefaggbmbnaaDoor
