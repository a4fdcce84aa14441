/-
  The list that the simplest fraction of a range is made of: what both ends begin with, and where they part the least whole number that the lower rest allows.
-/
import Derived.Test.YtkdaefaggbmbnaaDoorAbreast
import Derived.Test.YtkdaefaggbmbnaaDoorTerms
import Derived.Test.YtkdaefaggbmbnaaDoorFrom
import Derived.Scope
import Derived.Stop.RegionWithIn
import Derived.WalkMore
namespace Go.Proofs.YtkdaefaggbmbnaaDoor
open Go.ChangeShapes Go.WideShapes Go.ChangeAt Go.RowKit Go.Shelf
set_option linter.unusedVariables false
set_option linter.unusedSimpArgs false
attribute [local go_sem] Oper.semAt_some

def upV (s : Int × Bool) : Int := if s.2 then s.1 else s.1 + 1
def smp : List ((Int × Bool) × (Int × Bool)) → List Int
  | [] => []
  | p :: r => if p.1.1 < p.2.1 then [upV p.1] else if p.2.1 < p.1.1 then [upV p.2] else p.1.1 :: smp r

theorem tms_bd : ∀ (f : Nat) (n d : Int), I64 n → 0 ≤ d → d ≤ 2147483647 → (n ≤ 2147483647) → ∀ s ∈ tmsF f n d, -9223372036854775808 ≤ s.1 ∧ s.1 ≤ 2147483647
  | 0, _, _, _, _, _, _, _, h => by simp [tmsF] at h
  | f + 1, n, d, h1, h2, h3, h4, s, h => by
    simp only [tmsF] at h
    split at h
    · simp at h
    · rename_i hd
      have dp : 0 < d := by omega
      have m0 := Int.emod_nonneg n hd
      have m1 := Int.emod_lt_of_pos n dp
      have q := div_bd n dp
      rcases List.mem_cons.1 h with rfl | h
      · dsimp only; unfold I64 at h1; omega
      · exact tms_bd f d (n % d) ⟨by omega, by omega⟩ m0 (by omega) (by omega) s h

/-- One more element at the end of a list of one's own, as one step of a region that draws its order. -/
theorem append_step {F : Fence} {n : Nat} (w : World) {ops : Array Oper} {o : Oper} {a : Act} {K : Act → World → Prop} {Q : Exit → Act → World → Prop} {E : Prop}
    (hg : o.guard = none) (s x : Operand) (hop : o.op = Op.call { callee := Callee.builtin Builtin.append, args := #[s, x], argTypes := #[48, 48] })
    (base : Nat) (v : Value) (k : Nat) (xs : List Value) (hs : a.eval s = v) (hown : w.ownsRow base 2 1 v k xs) (ad : Addr) (y : Value) (hx : a.eval x = .slice (some ad) 1 1)
    (hc : ∀ j u, [y][j]? = some u → w.cell? (ad.add j) = some u) (hy : y.oneCell' = true) (b2 : (k + 1) * 8 ≤ 140737488355328) (b3 : base ≤ w.heap.size)
    (hK : ∀ g cap w', w'.ownsRow base 2 1 (.slice (some ⟨g, 0, none⟩) (k + 1) cap) (k + 1) (xs ++ [y]) → w.grownBy w' v.ownBlock → (v.ownBlock = some g ∨ g = w.heap.size) →
      K (a.put o.dst (.slice (some ⟨g, 0, none⟩) (k + 1) cap)) w') :
    if Region.wanted o (yielded ops a.tmps) = true then Oper.wpIn F n Tryd.prog o a w K Q else E := by
  have hw : Region.wanted o (yielded ops a.tmps) = true := by simp [Region.wanted, hg]
  rw [if_pos hw]
  obtain ⟨i0, hi, hz0, hz1, hz2⟩ := info_parts info2
  have h63 : k + 1 ≤ maxLen := by unfold maxLen; omega
  obtain ⟨v', w', hrun, r1, r2, r3⟩ := run_append_own (P := Tryd.prog) w base 48 o.type 2 i0 (.int .i64 0) 1 8 Tryd.underlying48 hi hz0 hz1 hz2 rfl (by decide) v k xs hown ad 1 1 [y] rfl hc (by simpa using hy) h63 b2 b3
  have r4 := append_where (P := Tryd.prog) w base 48 o.type 2 i0 (.int .i64 0) 1 8 Tryd.underlying48 hi hz0 hz1 hz2 rfl (by decide) v k xs hown ad 1 1 [y] rfl hc (by simpa using hy) (by decide) h63 b2 v' w' hrun
  obtain ⟨g, cap, rfl⟩ := ownsRow_succ r1
  unfold Oper.wpIn
  refine ⟨?_, ?_⟩
  · simp [Oper.about, hop, resolve, Target.leads, Sem.run_pure]
  · rw [Oper.semAt_plain F _ _ (by rw [hop]; intro c hc'; cases hc')]
    simp [execOp, hop, resolve, invoke, builtin, hs, hx, hrun, Result.andThen]
    refine hK g cap w' r1 r2 ?_
    rcases r4 with h | h
    · exact .inl h.symm
    · exact .inr (by simpa [Value.ownBlock] using h)

theorem up_at (s : Int × Bool) (w : World) (h : -9223372036854775808 ≤ s.1 ∧ s.1 ≤ 2147483647) :
    Calls Tryd.prog 45 #[stp s.1 s.2] w fun e w' => e = .returned (.int .i64 (upV s)) ∧ Below w.heap.size w w' := up_any s.1 s.2 w (by omega) h.1
theorem Below.undrew {w w' : World} (h : Below w.drew.heap.size w.drew w') : Below w.heap.size w w' := ⟨h.os, h.tape, h.output, h.size, h.block⟩

theorem Two.far1 {W : World} {k : Nat} {v0 v1 : Value} (h : Two W k v0 v1) (j : Nat) (a : Value) (n : j ≠ k) : Two (W.setCell ⟨j, 0, none⟩ a) k v0 v1 := h.far a j 0 n

theorem smp_length : ∀ l, (smp l).length ≤ l.length
  | [] => Nat.le_refl _
  | p :: r => by
    have := smp_length r
    unfold smp
    split
    · simp
    · split
      · simp
      · simpa using this
theorem smp_bd : ∀ l, (∀ p ∈ l, (-9223372036854775808 ≤ p.1.1 ∧ p.1.1 ≤ 2147483647) ∧ (-9223372036854775808 ≤ p.2.1 ∧ p.2.1 ≤ 2147483647)) → ∀ x ∈ smp l, -9223372036854775808 ≤ x ∧ x ≤ 9223372036854775807
  | [], _, x, hx => by simp [smp] at hx
  | p :: r, h, x, hx => by
    have hp := h p (by simp)
    have ih := smp_bd r (fun q hq => h q (by simp [hq]))
    unfold smp at hx
    split at hx
    · simp at hx; subst hx; unfold upV; split <;> omega
    · split at hx
      · simp at hx; subst hx; unfold upV; split <;> omega
      · rcases List.mem_cons.1 hx with rfl | hx
        · omega
        · exact ih x hx

theorem wide_scope {n : Nat} {P : Program} {c : Code} {Q : Exit → Act → World → Prop} {a : Act} {w : World} (h : c.wpIn Fence.wide n P (Exit.noGoto Q) a w) : (Code.scope c).wpIn Fence.wide n P Q a w :=
  wpIn_wide.2 (wp_scope_straight (wpIn_wide.1 h))

set_option maxRecDepth 100000 in
set_option maxHeartbeats 4000000 in
theorem simplest_any (an ad bn bd : Int) (w : World) (h1 : Sm an) (h2 : 0 ≤ ad) (h2' : ad ≤ 2147483647) (h3 : Sm bn) (h4 : 0 ≤ bd) (h4' : bd ≤ 2147483647) :
    Calls Tryd.prog 34 #[fr an ad, fr bn bd] w fun e w' => e = .returned (.tuple #[fr (fromA (smp (both an ad bn bd))).1 (fromA (smp (both an ad bn bd))).2.1, .bool (decide ((fromA (smp (both an ad bn bd))).2.2 = 0))]) ∧ Below w.heap.size w w' := by
  have ia : I64 an := by unfold Sm at h1; unfold I64; omega
  have ib : I64 bn := by unfold Sm at h3; unfold I64; omega
  have hlen : (both an ad bn bd).length ≤ 2147483647 := by
    have := tms_length an ad h2
    rw [List.length_zip]; omega
  have hbds : ∀ x ∈ smp (both an ad bn bd), -9223372036854775808 ≤ x ∧ x ≤ 9223372036854775807 := smp_bd _ (fun p hp => ⟨tms_bd _ an ad ia h2 h2' h1.2 p.1 (List.of_mem_zip hp).1, tms_bd _ bn bd ib h4 h4' h3.2 p.2 (List.of_mem_zip hp).2⟩)
  have hsl : (smp (both an ad bn bd)).length ≤ 2147483647 := Nat.le_trans (smp_length _) hlen
  refine (callsIn_wide (n := 4)).1 ?_
  refine callsIn_of_wp_marks Tryd.func34 rfl trivial ?_
  simp only [Tryd.ntmps34, List.size_toArray, List.length_cons, List.length_nil, Nat.reduceAdd, Nat.reduceSub, Array.replicate_succ, Array.replicate_zero, List.push_toArray, List.append_toArray, List.nil_append, List.cons_append]
  gi_wp2
  refine wide_scope ?_
  gi_wp2
  refine wpIn_label ?_
  gi_wp2_with (refine ⟨trivial, ?_⟩; gi_at_call 44; refine (callsIn_wide.2 (abreast_mk _ _ _ _ _)).mono ?_; rintro e w1 ⟨rfl, TA, TB, hb1, Z1⟩)
  have sz1 : w.heap.size + 6 ≤ w1.heap.size := by rw [Z1]; simp
  replace TA := TA.at (k' := w.heap.size + 1 + 1 + 1 + 1) (by simp)
  replace TB := TB.at (k' := w.heap.size + 1 + 1 + 1 + 1 + 1) (by simp)
  have TR : Two w1 (w.heap.size + 1 + 1) (.int .i64 0) (.int .i64 0) := Two.below (Two.alloc (Two.at (Two.new _ _ _ _) (by simp)) _) hb1
  have OL : One w1 (w.heap.size + 1 + 1 + 1) (.slice none 0 0) := One.below (One.at (One.new _ _ _) (by simp)) hb1
  have B1 : Below w.heap.size w w1 := ((((((Below.refl _ w).alloc (Nat.le_refl _) _).alloc (by simp) _).alloc (by simp; omega) _).alloc (by simp; omega) _)).trans (hb1.mono (by simp; omega))
  clear hb1 Z1
  refine range_turns (gf := 63) (lb := #[.pointer (some ⟨w.heap.size + 1 + 1 + 1 + 1 + 1, 0, none⟩), .pointer (some ⟨w.heap.size + 1 + 1 + 1 + 1, 0, none⟩)]) rfl (enters_of Tryd.func63 (by kernel_rfl) rfl)
    (abreast_gives an ad bn bd (w.heap.size + 1 + 1 + 1 + 1) (w.heap.size + 1 + 1 + 1 + 1 + 1) w1 ia h2 (by omega) ib h4 (by omega) TA TB) (Below.refl _ _) (fun _ => rfl)
    (fun k C W => k ≤ (both an ad bn bd).length ∧ (∃ ys, ys.length = k ∧ smp (both an ad bn bd) = ys ++ smp ((both an ad bn bd).drop k) ∧ Holds W (w.heap.size + 1 + 1 + 1) w.heap.size C ys) ∧ Two W (w.heap.size + 1 + 1) (.int .i64 0) (.int .i64 0) ∧ Below w.heap.size w W)
    (fun c C W => c = .exit 0 ∧ Holds W (w.heap.size + 1 + 1 + 1) w.heap.size C (smp (both an ad bn bd)) ∧ Two W (w.heap.size + 1 + 1) (.int .i64 0) (.int .i64 0) ∧ Below w.heap.size w W)
    (fun k C A B h s => by
      obtain ⟨g1, ⟨ys, g2, g3, g4⟩, g5, g6⟩ := h
      exact ⟨g1, ⟨ys, g2, g3, g4.same s (by omega)⟩, g5.of_block (s.block _ g5.2.2.2.2 (.inl (by omega))) s.size, Below.same g6 s (by omega) (Nat.le_refl _)⟩)
    (fun c C A B h s => ⟨h.1, h.2.1.same s (by omega), h.2.2.1.of_block (s.block _ h.2.2.1.2.2.2.2 (.inl (by omega))) s.size, Below.same h.2.2.2 s (by omega) (Nat.le_refl _)⟩)
    ⟨Nat.zero_le _, ⟨[], rfl, rfl, Holds.nil _ _ _ OL⟩, TR, B1⟩
    (fun x a' W => ∃ c c2, w1.heap.size + 2 ≤ c ∧ c < c2 ∧ Two W c (.int .i64 x.1.1) (.bool x.1.2) ∧ Two W c2 (.int .i64 x.2.1) (.bool x.2.2) ∧ a' = { tmps := #[fr an ad, fr bn bd, .pointer (some ⟨w.heap.size, 0, none⟩), .pointer (some ⟨w.heap.size + 1, 0, none⟩), .pointer (some ⟨w.heap.size + 1 + 1, 0, none⟩), .bool false, .pointer (some ⟨w.heap.size + 1 + 1 + 1, 0, none⟩), .pointer (some ⟨c, 0, none⟩), .pointer (some ⟨c2, 0, none⟩), undef, undef, fr an ad, fr bn bd, .func (.func 63) #[] #[.pointer (some ⟨w.heap.size + 1 + 1 + 1 + 1 + 1, 0, none⟩), .pointer (some ⟨w.heap.size + 1 + 1 + 1 + 1, 0, none⟩)], stp x.1.1 x.1.2, stp x.2.1 x.2.2, undef, undef, undef, undef, undef, undef, undef, undef, undef, undef, undef, undef, undef, undef, undef, undef, undef, undef, undef, undef, undef, undef, undef, undef, undef, undef, undef, undef, undef, undef, undef, undef, undef, undef, undef], defers := [] })
    (fun x a' A o h => by obtain ⟨c, c2, hc, hc2, hT, hT2, e⟩ := h; exact ⟨c, c2, hc, hc2, hT.putObj (by omega) o, hT2.putObj (by omega) o, e⟩)
    ?assign ?body ?done ?stop
  case assign =>
    intro k x W C K hi hs hK
    gi_wp2
    exact hK _ _ ⟨W.heap.size, W.heap.size + 1, hs, by omega, (Two.new _ _ _ _).alloc _, (Two.new _ _ _ _).at (by simp), rfl⟩ (((Below.refl _ W).alloc (Nat.le_refl _) _).alloc (by simp) _)
  case body =>
    rintro k x C a' W ⟨hk, ⟨ys, hys, hsm, ⟨v, O2, R2, H2⟩⟩, TR2, B2⟩ ⟨c, c2, hc, hc2, Ta, Tb, rfl⟩ hx hs hC
    obtain ⟨q0, q1, f0, f1, z⟩ := id Ta
    obtain ⟨q2, q3, f2, f3, z2⟩ := id Tb
    obtain ⟨o0, o1, oz⟩ := id O2
    have hk' : k < (both an ad bn bd).length := (List.getElem?_eq_some_iff.1 hx).1
    have hdr : (both an ad bn bd).drop k = x :: (both an ad bn bd).drop (k + 1) := by
      rw [List.drop_eq_getElem_cons hk', (List.getElem?_eq_some_iff.1 hx).2]
    rw [hdr] at hsm
    have HS : Hid (smp (both an ad bn bd) = ys ++ smp (x :: (both an ad bn bd).drop (k + 1))) := hsm
    have HB : Hid (Below w.heap.size w W) := B2
    have hxm := hx
    clear hsm hx hdr B2
    have hmx := List.mem_of_getElem? hxm
    have hx1 : -9223372036854775808 ≤ x.1.1 ∧ x.1.1 ≤ 2147483647 := tms_bd _ an ad ia h2 h2' h1.2 x.1 (List.of_mem_zip hmx).1
    have hx2 : -9223372036854775808 ≤ x.2.1 ∧ x.2.1 ≤ 2147483647 := tms_bd _ bn bd ib h4 h4' h3.2 x.2 (List.of_mem_zip hmx).2
    clear hxm hmx
    by_cases c1 : x.1.1 < x.2.1
    · have HS' : Hid (smp (both an ad bn bd) = ys ++ [upV x.1]) := by
        show smp (both an ad bn bd) = ys ++ [upV x.1]
        rw [HS.out, smp, if_pos c1]
      gi_wp2
      refine wpIn_region_any (by kernel_rfl) ?_
      change wpAnyIn _ _ _ _ _ _ _ _ _ (World.drew _)
      refine wpAnyIn_ready (rs := [0, 1]) (by kernel_rfl) (by simp) ?_
      refine AllReadyIn.cons rfl (fun K hK => ?_) ?_
      · go_simp
        refine hK _ _ ?_
        clear hK K
        refine wpAnyIn_ready (rs := [1]) (by kernel_rfl) (by simp) ?_
        refine AllReadyIn.cons rfl (fun K hK => ?_) ?_
        · go_simp
          refine hK _ _ ?_
          clear hK K
          refine wpAnyIn_ready (rs := [2]) (by kernel_rfl) (by simp) ?_
          refine AllReadyIn.cons rfl (fun K hK => ?_) ?_
          · go_simp
            refine ⟨trivial, ?_⟩
            refine (CallsIn.inRound _ (callsIn_wide.2 (up_at x.1 _ hx1))).mono ?_
            rintro e V2 ⟨rfl, hb0⟩
            have hb := Below.undrew hb0
            have O4 : One V2 (w.heap.size + 1 + 1 + 1) v := O2.below hb
            have R4 := owns_of_block R2 (fun g hg => hb.block g (R2.lt g hg).2)
            have B4 : Below w.heap.size w V2 := HB.out.trans (hb.mono HB.out.size)
            obtain ⟨u0, u1, uz⟩ := id O4
            refine hK _ _ ?_
            clear hK K hb0
            refine wpAnyIn_ready (rs := [3]) (by kernel_rfl) (by simp) ?_
            refine AllReadyIn.cons rfl (fun K hK => ?_) ?_
            · go_simp
              refine hK _ _ ?_
              clear hK K
              refine wpAnyIn_ready (rs := [4]) (by kernel_rfl) (by simp) ?_
              refine AllReadyIn.cons rfl (fun K hK => ?_) ?_
              · refine append_step _ rfl _ _ rfl w.heap.size _ _ _ rfl (R4.alloc _) ⟨V2.heap.size, 0, none⟩ (.int .i64 (upV x.1)) rfl (cell_one_new _ _ _) (by simp [Value.oneCell']) (by omega) (by have := B4.size; simp; omega) ?_
                intro g cap w2 r1 r2 r3
                obtain ⟨O3, H3, T3, hne⟩ := Holds.grow (n := w1.heap.size) (y := upV x.1) O4 H2 (fun b hb' => by have := hC b hb'; have := hb.size; omega) (by omega) (by have := hb.size; omega) r1 r2 r3
                have B3 : Below w.heap.size w (w2.setCell ⟨w.heap.size + 1 + 1 + 1, 0, none⟩ (.slice (some ⟨g, 0, none⟩) (ys.length + 1) cap)) :=
                  ((B4.alloc B4.size _).grown r2 (by have := B4.size; simp; omega) (fun j e => (R4.lt j e).1)).setCell (p := ⟨w.heap.size + 1 + 1 + 1, 0, none⟩) (by show w.heap.size ≤ w.heap.size + 1 + 1 + 1; omega) _
                obtain ⟨p0, p1, pz⟩ := id O3
                refine hK _ _ ?_
                clear hK K
                refine wpAnyIn_ready (rs := [5]) (by kernel_rfl) (by simp) ?_
                refine AllReadyIn.cons rfl (fun K hK => ?_) ?_
                · go_simp
                  refine hK _ _ ?_
                  clear hK K
                  refine wpAnyIn_done (by kernel_rfl) ?_ _
                  gi_wp2
                  rw [hys] at H3 T3 B3
                  exact ⟨fun k => k = g, ⟨rfl, by rw [HS'.out]; exact H3, (TR2.below hb).of_block ((r2.block _ (by have := TR2.2.2.2.2; have := hb.size; simp; omega) (fun e => by have := (hC _ ((H2 _).2 e.symm)).1; omega) |>.trans (Below.heap_alloc _ _ _ (by have := TR2.2.2.2.2; have := hb.size; omega)))) (by have := r2.size; simp at this; omega) |>.far1 _ _ (by omega), B3⟩, (Turn.of_below hb (fun b hb' => by have := hC b hb'; omega)).trans T3⟩
                exact AllReadyIn.nil
              exact AllReadyIn.nil
            exact AllReadyIn.nil
          exact AllReadyIn.nil
        exact AllReadyIn.nil
      refine AllReadyIn.cons rfl (fun K hK => ?_) ?_
      · go_simp
        refine hK _ _ ?_
        clear hK K
        refine wpAnyIn_ready (rs := [0, 2]) (by kernel_rfl) (by simp) ?_
        refine AllReadyIn.cons rfl (fun K hK => ?_) ?_
        · go_simp
          refine hK _ _ ?_
          clear hK K
          refine wpAnyIn_ready (rs := [2]) (by kernel_rfl) (by simp) ?_
          refine AllReadyIn.cons rfl (fun K hK => ?_) ?_
          · go_simp
            refine ⟨trivial, ?_⟩
            refine (CallsIn.inRound _ (callsIn_wide.2 (up_at x.1 _ hx1))).mono ?_
            rintro e V2 ⟨rfl, hb0⟩
            have hb := Below.undrew hb0
            have O4 : One V2 (w.heap.size + 1 + 1 + 1) v := O2.below hb
            have R4 := owns_of_block R2 (fun g hg => hb.block g (R2.lt g hg).2)
            have B4 : Below w.heap.size w V2 := HB.out.trans (hb.mono HB.out.size)
            obtain ⟨u0, u1, uz⟩ := id O4
            refine hK _ _ ?_
            clear hK K hb0
            refine wpAnyIn_ready (rs := [3]) (by kernel_rfl) (by simp) ?_
            refine AllReadyIn.cons rfl (fun K hK => ?_) ?_
            · go_simp
              refine hK _ _ ?_
              clear hK K
              refine wpAnyIn_ready (rs := [4]) (by kernel_rfl) (by simp) ?_
              refine AllReadyIn.cons rfl (fun K hK => ?_) ?_
              · refine append_step _ rfl _ _ rfl w.heap.size _ _ _ rfl (R4.alloc _) ⟨V2.heap.size, 0, none⟩ (.int .i64 (upV x.1)) rfl (cell_one_new _ _ _) (by simp [Value.oneCell']) (by omega) (by have := B4.size; simp; omega) ?_
                intro g cap w2 r1 r2 r3
                obtain ⟨O3, H3, T3, hne⟩ := Holds.grow (n := w1.heap.size) (y := upV x.1) O4 H2 (fun b hb' => by have := hC b hb'; have := hb.size; omega) (by omega) (by have := hb.size; omega) r1 r2 r3
                have B3 : Below w.heap.size w (w2.setCell ⟨w.heap.size + 1 + 1 + 1, 0, none⟩ (.slice (some ⟨g, 0, none⟩) (ys.length + 1) cap)) :=
                  ((B4.alloc B4.size _).grown r2 (by have := B4.size; simp; omega) (fun j e => (R4.lt j e).1)).setCell (p := ⟨w.heap.size + 1 + 1 + 1, 0, none⟩) (by show w.heap.size ≤ w.heap.size + 1 + 1 + 1; omega) _
                obtain ⟨p0, p1, pz⟩ := id O3
                refine hK _ _ ?_
                clear hK K
                refine wpAnyIn_ready (rs := [5]) (by kernel_rfl) (by simp) ?_
                refine AllReadyIn.cons rfl (fun K hK => ?_) ?_
                · go_simp
                  refine hK _ _ ?_
                  clear hK K
                  refine wpAnyIn_done (by kernel_rfl) ?_ _
                  gi_wp2
                  rw [hys] at H3 T3 B3
                  exact ⟨fun k => k = g, ⟨rfl, by rw [HS'.out]; exact H3, (TR2.below hb).of_block ((r2.block _ (by have := TR2.2.2.2.2; have := hb.size; simp; omega) (fun e => by have := (hC _ ((H2 _).2 e.symm)).1; omega) |>.trans (Below.heap_alloc _ _ _ (by have := TR2.2.2.2.2; have := hb.size; omega)))) (by have := r2.size; simp at this; omega) |>.far1 _ _ (by omega), B3⟩, (Turn.of_below hb (fun b hb' => by have := hC b hb'; omega)).trans T3⟩
                exact AllReadyIn.nil
              exact AllReadyIn.nil
            exact AllReadyIn.nil
          exact AllReadyIn.nil
        refine AllReadyIn.cons rfl (fun K hK => ?_) ?_
        · go_simp
          refine ⟨trivial, ?_⟩
          refine (CallsIn.inRound _ (callsIn_wide.2 (up_at x.1 _ hx1))).mono ?_
          rintro e V2 ⟨rfl, hb0⟩
          have hb := Below.undrew hb0
          have O4 : One V2 (w.heap.size + 1 + 1 + 1) v := O2.below hb
          have R4 := owns_of_block R2 (fun g hg => hb.block g (R2.lt g hg).2)
          have B4 : Below w.heap.size w V2 := HB.out.trans (hb.mono HB.out.size)
          obtain ⟨u0, u1, uz⟩ := id O4
          refine hK _ _ ?_
          clear hK K hb0
          refine wpAnyIn_ready (rs := [0, 3]) (by kernel_rfl) (by simp) ?_
          refine AllReadyIn.cons rfl (fun K hK => ?_) ?_
          · go_simp
            refine hK _ _ ?_
            clear hK K
            refine wpAnyIn_ready (rs := [3]) (by kernel_rfl) (by simp) ?_
            refine AllReadyIn.cons rfl (fun K hK => ?_) ?_
            · go_simp
              refine hK _ _ ?_
              clear hK K
              refine wpAnyIn_ready (rs := [4]) (by kernel_rfl) (by simp) ?_
              refine AllReadyIn.cons rfl (fun K hK => ?_) ?_
              · refine append_step _ rfl _ _ rfl w.heap.size _ _ _ rfl (R4.alloc _) ⟨V2.heap.size, 0, none⟩ (.int .i64 (upV x.1)) rfl (cell_one_new _ _ _) (by simp [Value.oneCell']) (by omega) (by have := B4.size; simp; omega) ?_
                intro g cap w2 r1 r2 r3
                obtain ⟨O3, H3, T3, hne⟩ := Holds.grow (n := w1.heap.size) (y := upV x.1) O4 H2 (fun b hb' => by have := hC b hb'; have := hb.size; omega) (by omega) (by have := hb.size; omega) r1 r2 r3
                have B3 : Below w.heap.size w (w2.setCell ⟨w.heap.size + 1 + 1 + 1, 0, none⟩ (.slice (some ⟨g, 0, none⟩) (ys.length + 1) cap)) :=
                  ((B4.alloc B4.size _).grown r2 (by have := B4.size; simp; omega) (fun j e => (R4.lt j e).1)).setCell (p := ⟨w.heap.size + 1 + 1 + 1, 0, none⟩) (by show w.heap.size ≤ w.heap.size + 1 + 1 + 1; omega) _
                obtain ⟨p0, p1, pz⟩ := id O3
                refine hK _ _ ?_
                clear hK K
                refine wpAnyIn_ready (rs := [5]) (by kernel_rfl) (by simp) ?_
                refine AllReadyIn.cons rfl (fun K hK => ?_) ?_
                · go_simp
                  refine hK _ _ ?_
                  clear hK K
                  refine wpAnyIn_done (by kernel_rfl) ?_ _
                  gi_wp2
                  rw [hys] at H3 T3 B3
                  exact ⟨fun k => k = g, ⟨rfl, by rw [HS'.out]; exact H3, (TR2.below hb).of_block ((r2.block _ (by have := TR2.2.2.2.2; have := hb.size; simp; omega) (fun e => by have := (hC _ ((H2 _).2 e.symm)).1; omega) |>.trans (Below.heap_alloc _ _ _ (by have := TR2.2.2.2.2; have := hb.size; omega)))) (by have := r2.size; simp at this; omega) |>.far1 _ _ (by omega), B3⟩, (Turn.of_below hb (fun b hb' => by have := hC b hb'; omega)).trans T3⟩
                exact AllReadyIn.nil
              exact AllReadyIn.nil
            exact AllReadyIn.nil
          refine AllReadyIn.cons rfl (fun K hK => ?_) ?_
          · go_simp
            refine hK _ _ ?_
            clear hK K
            refine wpAnyIn_ready (rs := [0]) (by kernel_rfl) (by simp) ?_
            refine AllReadyIn.cons rfl (fun K hK => ?_) ?_
            · go_simp
              refine hK _ _ ?_
              clear hK K
              refine wpAnyIn_ready (rs := [4]) (by kernel_rfl) (by simp) ?_
              refine AllReadyIn.cons rfl (fun K hK => ?_) ?_
              · refine append_step _ rfl _ _ rfl w.heap.size _ _ _ rfl (R4.alloc _) ⟨V2.heap.size, 0, none⟩ (.int .i64 (upV x.1)) rfl (cell_one_new _ _ _) (by simp [Value.oneCell']) (by omega) (by have := B4.size; simp; omega) ?_
                intro g cap w2 r1 r2 r3
                obtain ⟨O3, H3, T3, hne⟩ := Holds.grow (n := w1.heap.size) (y := upV x.1) O4 H2 (fun b hb' => by have := hC b hb'; have := hb.size; omega) (by omega) (by have := hb.size; omega) r1 r2 r3
                have B3 : Below w.heap.size w (w2.setCell ⟨w.heap.size + 1 + 1 + 1, 0, none⟩ (.slice (some ⟨g, 0, none⟩) (ys.length + 1) cap)) :=
                  ((B4.alloc B4.size _).grown r2 (by have := B4.size; simp; omega) (fun j e => (R4.lt j e).1)).setCell (p := ⟨w.heap.size + 1 + 1 + 1, 0, none⟩) (by show w.heap.size ≤ w.heap.size + 1 + 1 + 1; omega) _
                obtain ⟨p0, p1, pz⟩ := id O3
                refine hK _ _ ?_
                clear hK K
                refine wpAnyIn_ready (rs := [5]) (by kernel_rfl) (by simp) ?_
                refine AllReadyIn.cons rfl (fun K hK => ?_) ?_
                · go_simp
                  refine hK _ _ ?_
                  clear hK K
                  refine wpAnyIn_done (by kernel_rfl) ?_ _
                  gi_wp2
                  rw [hys] at H3 T3 B3
                  exact ⟨fun k => k = g, ⟨rfl, by rw [HS'.out]; exact H3, (TR2.below hb).of_block ((r2.block _ (by have := TR2.2.2.2.2; have := hb.size; simp; omega) (fun e => by have := (hC _ ((H2 _).2 e.symm)).1; omega) |>.trans (Below.heap_alloc _ _ _ (by have := TR2.2.2.2.2; have := hb.size; omega)))) (by have := r2.size; simp at this; omega) |>.far1 _ _ (by omega), B3⟩, (Turn.of_below hb (fun b hb' => by have := hC b hb'; omega)).trans T3⟩
                exact AllReadyIn.nil
              exact AllReadyIn.nil
            exact AllReadyIn.nil
          exact AllReadyIn.nil
        exact AllReadyIn.nil
      exact AllReadyIn.nil
    · by_cases c3 : x.2.1 < x.1.1
      · have HS' : Hid (smp (both an ad bn bd) = ys ++ [upV x.2]) := by
          show smp (both an ad bn bd) = ys ++ [upV x.2]
          rw [HS.out, smp, if_neg c1, if_pos c3]
        gi_wp2
        refine wpIn_region_any (by kernel_rfl) ?_
        change wpAnyIn _ _ _ _ _ _ _ _ _ (World.drew _)
        refine wpAnyIn_ready (rs := [0, 1]) (by kernel_rfl) (by simp) ?_
        refine AllReadyIn.cons rfl (fun K hK => ?_) ?_
        · go_simp
          refine hK _ _ ?_
          clear hK K
          refine wpAnyIn_ready (rs := [1]) (by kernel_rfl) (by simp) ?_
          refine AllReadyIn.cons rfl (fun K hK => ?_) ?_
          · go_simp
            refine hK _ _ ?_
            clear hK K
            refine wpAnyIn_ready (rs := [2]) (by kernel_rfl) (by simp) ?_
            refine AllReadyIn.cons rfl (fun K hK => ?_) ?_
            · go_simp
              refine ⟨trivial, ?_⟩
              refine (CallsIn.inRound _ (callsIn_wide.2 (up_at x.2 _ hx2))).mono ?_
              rintro e V2 ⟨rfl, hb0⟩
              have hb := Below.undrew hb0
              have O4 : One V2 (w.heap.size + 1 + 1 + 1) v := O2.below hb
              have R4 := owns_of_block R2 (fun g hg => hb.block g (R2.lt g hg).2)
              have B4 : Below w.heap.size w V2 := HB.out.trans (hb.mono HB.out.size)
              obtain ⟨u0, u1, uz⟩ := id O4
              refine hK _ _ ?_
              clear hK K hb0
              refine wpAnyIn_ready (rs := [3]) (by kernel_rfl) (by simp) ?_
              refine AllReadyIn.cons rfl (fun K hK => ?_) ?_
              · go_simp
                refine hK _ _ ?_
                clear hK K
                refine wpAnyIn_ready (rs := [4]) (by kernel_rfl) (by simp) ?_
                refine AllReadyIn.cons rfl (fun K hK => ?_) ?_
                · refine append_step _ rfl _ _ rfl w.heap.size _ _ _ rfl (R4.alloc _) ⟨V2.heap.size, 0, none⟩ (.int .i64 (upV x.2)) rfl (cell_one_new _ _ _) (by simp [Value.oneCell']) (by omega) (by have := B4.size; simp; omega) ?_
                  intro g cap w2 r1 r2 r3
                  obtain ⟨O3, H3, T3, hne⟩ := Holds.grow (n := w1.heap.size) (y := upV x.2) O4 H2 (fun b hb' => by have := hC b hb'; have := hb.size; omega) (by omega) (by have := hb.size; omega) r1 r2 r3
                  have B3 : Below w.heap.size w (w2.setCell ⟨w.heap.size + 1 + 1 + 1, 0, none⟩ (.slice (some ⟨g, 0, none⟩) (ys.length + 1) cap)) :=
                    ((B4.alloc B4.size _).grown r2 (by have := B4.size; simp; omega) (fun j e => (R4.lt j e).1)).setCell (p := ⟨w.heap.size + 1 + 1 + 1, 0, none⟩) (by show w.heap.size ≤ w.heap.size + 1 + 1 + 1; omega) _
                  obtain ⟨p0, p1, pz⟩ := id O3
                  refine hK _ _ ?_
                  clear hK K
                  refine wpAnyIn_ready (rs := [5]) (by kernel_rfl) (by simp) ?_
                  refine AllReadyIn.cons rfl (fun K hK => ?_) ?_
                  · go_simp
                    refine hK _ _ ?_
                    clear hK K
                    refine wpAnyIn_done (by kernel_rfl) ?_ _
                    gi_wp2
                    rw [hys] at H3 T3 B3
                    exact ⟨fun k => k = g, ⟨rfl, by rw [HS'.out]; exact H3, (TR2.below hb).of_block ((r2.block _ (by have := TR2.2.2.2.2; have := hb.size; simp; omega) (fun e => by have := (hC _ ((H2 _).2 e.symm)).1; omega) |>.trans (Below.heap_alloc _ _ _ (by have := TR2.2.2.2.2; have := hb.size; omega)))) (by have := r2.size; simp at this; omega) |>.far1 _ _ (by omega), B3⟩, (Turn.of_below hb (fun b hb' => by have := hC b hb'; omega)).trans T3⟩
                  exact AllReadyIn.nil
                exact AllReadyIn.nil
              exact AllReadyIn.nil
            exact AllReadyIn.nil
          exact AllReadyIn.nil
        refine AllReadyIn.cons rfl (fun K hK => ?_) ?_
        · go_simp
          refine hK _ _ ?_
          clear hK K
          refine wpAnyIn_ready (rs := [0, 2]) (by kernel_rfl) (by simp) ?_
          refine AllReadyIn.cons rfl (fun K hK => ?_) ?_
          · go_simp
            refine hK _ _ ?_
            clear hK K
            refine wpAnyIn_ready (rs := [2]) (by kernel_rfl) (by simp) ?_
            refine AllReadyIn.cons rfl (fun K hK => ?_) ?_
            · go_simp
              refine ⟨trivial, ?_⟩
              refine (CallsIn.inRound _ (callsIn_wide.2 (up_at x.2 _ hx2))).mono ?_
              rintro e V2 ⟨rfl, hb0⟩
              have hb := Below.undrew hb0
              have O4 : One V2 (w.heap.size + 1 + 1 + 1) v := O2.below hb
              have R4 := owns_of_block R2 (fun g hg => hb.block g (R2.lt g hg).2)
              have B4 : Below w.heap.size w V2 := HB.out.trans (hb.mono HB.out.size)
              obtain ⟨u0, u1, uz⟩ := id O4
              refine hK _ _ ?_
              clear hK K hb0
              refine wpAnyIn_ready (rs := [3]) (by kernel_rfl) (by simp) ?_
              refine AllReadyIn.cons rfl (fun K hK => ?_) ?_
              · go_simp
                refine hK _ _ ?_
                clear hK K
                refine wpAnyIn_ready (rs := [4]) (by kernel_rfl) (by simp) ?_
                refine AllReadyIn.cons rfl (fun K hK => ?_) ?_
                · refine append_step _ rfl _ _ rfl w.heap.size _ _ _ rfl (R4.alloc _) ⟨V2.heap.size, 0, none⟩ (.int .i64 (upV x.2)) rfl (cell_one_new _ _ _) (by simp [Value.oneCell']) (by omega) (by have := B4.size; simp; omega) ?_
                  intro g cap w2 r1 r2 r3
                  obtain ⟨O3, H3, T3, hne⟩ := Holds.grow (n := w1.heap.size) (y := upV x.2) O4 H2 (fun b hb' => by have := hC b hb'; have := hb.size; omega) (by omega) (by have := hb.size; omega) r1 r2 r3
                  have B3 : Below w.heap.size w (w2.setCell ⟨w.heap.size + 1 + 1 + 1, 0, none⟩ (.slice (some ⟨g, 0, none⟩) (ys.length + 1) cap)) :=
                    ((B4.alloc B4.size _).grown r2 (by have := B4.size; simp; omega) (fun j e => (R4.lt j e).1)).setCell (p := ⟨w.heap.size + 1 + 1 + 1, 0, none⟩) (by show w.heap.size ≤ w.heap.size + 1 + 1 + 1; omega) _
                  obtain ⟨p0, p1, pz⟩ := id O3
                  refine hK _ _ ?_
                  clear hK K
                  refine wpAnyIn_ready (rs := [5]) (by kernel_rfl) (by simp) ?_
                  refine AllReadyIn.cons rfl (fun K hK => ?_) ?_
                  · go_simp
                    refine hK _ _ ?_
                    clear hK K
                    refine wpAnyIn_done (by kernel_rfl) ?_ _
                    gi_wp2
                    rw [hys] at H3 T3 B3
                    exact ⟨fun k => k = g, ⟨rfl, by rw [HS'.out]; exact H3, (TR2.below hb).of_block ((r2.block _ (by have := TR2.2.2.2.2; have := hb.size; simp; omega) (fun e => by have := (hC _ ((H2 _).2 e.symm)).1; omega) |>.trans (Below.heap_alloc _ _ _ (by have := TR2.2.2.2.2; have := hb.size; omega)))) (by have := r2.size; simp at this; omega) |>.far1 _ _ (by omega), B3⟩, (Turn.of_below hb (fun b hb' => by have := hC b hb'; omega)).trans T3⟩
                  exact AllReadyIn.nil
                exact AllReadyIn.nil
              exact AllReadyIn.nil
            exact AllReadyIn.nil
          refine AllReadyIn.cons rfl (fun K hK => ?_) ?_
          · go_simp
            refine ⟨trivial, ?_⟩
            refine (CallsIn.inRound _ (callsIn_wide.2 (up_at x.2 _ hx2))).mono ?_
            rintro e V2 ⟨rfl, hb0⟩
            have hb := Below.undrew hb0
            have O4 : One V2 (w.heap.size + 1 + 1 + 1) v := O2.below hb
            have R4 := owns_of_block R2 (fun g hg => hb.block g (R2.lt g hg).2)
            have B4 : Below w.heap.size w V2 := HB.out.trans (hb.mono HB.out.size)
            obtain ⟨u0, u1, uz⟩ := id O4
            refine hK _ _ ?_
            clear hK K hb0
            refine wpAnyIn_ready (rs := [0, 3]) (by kernel_rfl) (by simp) ?_
            refine AllReadyIn.cons rfl (fun K hK => ?_) ?_
            · go_simp
              refine hK _ _ ?_
              clear hK K
              refine wpAnyIn_ready (rs := [3]) (by kernel_rfl) (by simp) ?_
              refine AllReadyIn.cons rfl (fun K hK => ?_) ?_
              · go_simp
                refine hK _ _ ?_
                clear hK K
                refine wpAnyIn_ready (rs := [4]) (by kernel_rfl) (by simp) ?_
                refine AllReadyIn.cons rfl (fun K hK => ?_) ?_
                · refine append_step _ rfl _ _ rfl w.heap.size _ _ _ rfl (R4.alloc _) ⟨V2.heap.size, 0, none⟩ (.int .i64 (upV x.2)) rfl (cell_one_new _ _ _) (by simp [Value.oneCell']) (by omega) (by have := B4.size; simp; omega) ?_
                  intro g cap w2 r1 r2 r3
                  obtain ⟨O3, H3, T3, hne⟩ := Holds.grow (n := w1.heap.size) (y := upV x.2) O4 H2 (fun b hb' => by have := hC b hb'; have := hb.size; omega) (by omega) (by have := hb.size; omega) r1 r2 r3
                  have B3 : Below w.heap.size w (w2.setCell ⟨w.heap.size + 1 + 1 + 1, 0, none⟩ (.slice (some ⟨g, 0, none⟩) (ys.length + 1) cap)) :=
                    ((B4.alloc B4.size _).grown r2 (by have := B4.size; simp; omega) (fun j e => (R4.lt j e).1)).setCell (p := ⟨w.heap.size + 1 + 1 + 1, 0, none⟩) (by show w.heap.size ≤ w.heap.size + 1 + 1 + 1; omega) _
                  obtain ⟨p0, p1, pz⟩ := id O3
                  refine hK _ _ ?_
                  clear hK K
                  refine wpAnyIn_ready (rs := [5]) (by kernel_rfl) (by simp) ?_
                  refine AllReadyIn.cons rfl (fun K hK => ?_) ?_
                  · go_simp
                    refine hK _ _ ?_
                    clear hK K
                    refine wpAnyIn_done (by kernel_rfl) ?_ _
                    gi_wp2
                    rw [hys] at H3 T3 B3
                    exact ⟨fun k => k = g, ⟨rfl, by rw [HS'.out]; exact H3, (TR2.below hb).of_block ((r2.block _ (by have := TR2.2.2.2.2; have := hb.size; simp; omega) (fun e => by have := (hC _ ((H2 _).2 e.symm)).1; omega) |>.trans (Below.heap_alloc _ _ _ (by have := TR2.2.2.2.2; have := hb.size; omega)))) (by have := r2.size; simp at this; omega) |>.far1 _ _ (by omega), B3⟩, (Turn.of_below hb (fun b hb' => by have := hC b hb'; omega)).trans T3⟩
                  exact AllReadyIn.nil
                exact AllReadyIn.nil
              exact AllReadyIn.nil
            refine AllReadyIn.cons rfl (fun K hK => ?_) ?_
            · go_simp
              refine hK _ _ ?_
              clear hK K
              refine wpAnyIn_ready (rs := [0]) (by kernel_rfl) (by simp) ?_
              refine AllReadyIn.cons rfl (fun K hK => ?_) ?_
              · go_simp
                refine hK _ _ ?_
                clear hK K
                refine wpAnyIn_ready (rs := [4]) (by kernel_rfl) (by simp) ?_
                refine AllReadyIn.cons rfl (fun K hK => ?_) ?_
                · refine append_step _ rfl _ _ rfl w.heap.size _ _ _ rfl (R4.alloc _) ⟨V2.heap.size, 0, none⟩ (.int .i64 (upV x.2)) rfl (cell_one_new _ _ _) (by simp [Value.oneCell']) (by omega) (by have := B4.size; simp; omega) ?_
                  intro g cap w2 r1 r2 r3
                  obtain ⟨O3, H3, T3, hne⟩ := Holds.grow (n := w1.heap.size) (y := upV x.2) O4 H2 (fun b hb' => by have := hC b hb'; have := hb.size; omega) (by omega) (by have := hb.size; omega) r1 r2 r3
                  have B3 : Below w.heap.size w (w2.setCell ⟨w.heap.size + 1 + 1 + 1, 0, none⟩ (.slice (some ⟨g, 0, none⟩) (ys.length + 1) cap)) :=
                    ((B4.alloc B4.size _).grown r2 (by have := B4.size; simp; omega) (fun j e => (R4.lt j e).1)).setCell (p := ⟨w.heap.size + 1 + 1 + 1, 0, none⟩) (by show w.heap.size ≤ w.heap.size + 1 + 1 + 1; omega) _
                  obtain ⟨p0, p1, pz⟩ := id O3
                  refine hK _ _ ?_
                  clear hK K
                  refine wpAnyIn_ready (rs := [5]) (by kernel_rfl) (by simp) ?_
                  refine AllReadyIn.cons rfl (fun K hK => ?_) ?_
                  · go_simp
                    refine hK _ _ ?_
                    clear hK K
                    refine wpAnyIn_done (by kernel_rfl) ?_ _
                    gi_wp2
                    rw [hys] at H3 T3 B3
                    exact ⟨fun k => k = g, ⟨rfl, by rw [HS'.out]; exact H3, (TR2.below hb).of_block ((r2.block _ (by have := TR2.2.2.2.2; have := hb.size; simp; omega) (fun e => by have := (hC _ ((H2 _).2 e.symm)).1; omega) |>.trans (Below.heap_alloc _ _ _ (by have := TR2.2.2.2.2; have := hb.size; omega)))) (by have := r2.size; simp at this; omega) |>.far1 _ _ (by omega), B3⟩, (Turn.of_below hb (fun b hb' => by have := hC b hb'; omega)).trans T3⟩
                  exact AllReadyIn.nil
                exact AllReadyIn.nil
              exact AllReadyIn.nil
            exact AllReadyIn.nil
          exact AllReadyIn.nil
        exact AllReadyIn.nil
      · have HE : Hid (smp (both an ad bn bd) = ys ++ [x.1.1] ++ smp ((both an ad bn bd).drop (k + 1))) := by
          show smp (both an ad bn bd) = _
          rw [HS.out, smp, if_neg c1, if_neg c3]; simp
        gi_wp2_with (gi_at_builtin; refine append_one _ rfl _ _ rfl w.heap.size _ _ _ rfl (R2.alloc _) ⟨W.heap.size, 0, none⟩ (.int .i64 x.1.1) rfl (cell_one_new _ _ _) (by simp [Value.oneCell']) (by omega) (by have := HB.out.size; simp; omega) ?_; intro g cap w2 r1 r2 r3; obtain ⟨O3, H3, T3, hne⟩ := Holds.grow (n := w1.heap.size) (y := x.1.1) O2 H2 (fun b hb => by have := hC b hb; omega) (by omega) (by omega) r1 r2 r3; obtain ⟨p0, p1, pz⟩ := id O3)
        have B3 : Below w.heap.size w (w2.setCell ⟨w.heap.size + 1 + 1 + 1, 0, none⟩ (.slice (some ⟨g, 0, none⟩) (k + 1) cap)) :=
          ((HB.out.alloc HB.out.size _).grown r2 (by have := HB.out.size; simp; omega) (fun j e => (R2.lt j e).1)).setCell (p := ⟨w.heap.size + 1 + 1 + 1, 0, none⟩) (by show w.heap.size ≤ w.heap.size + 1 + 1 + 1; omega) _
        rw [hys] at H3 T3
        exact ⟨fun k => k = g, ⟨by first | omega | (simp only [both, List.length_zip] at hk' ⊢; omega), ⟨ys ++ [x.1.1], by simp; omega, HE.out, H3⟩, TR2.of_block ((r2.block _ (by have := TR2.2.2.2.2; simp; omega) (fun e => by have := (hC _ ((H2 _).2 e.symm)).1; omega) |>.trans (Below.heap_alloc _ _ _ TR2.2.2.2.2))) (by have := r2.size; simp at this; omega) |>.far1 _ _ (by omega), B3⟩, T3⟩
  case done =>
    rintro C W ⟨hk, ⟨ys, hys, hsm, hH⟩, TR2, B2⟩ hK hC
    rw [List.drop_length, smp, List.append_nil] at hsm
    rw [← hsm] at hH
    obtain ⟨v, O2, R2, H2⟩ := hH
    clear hsm hys ys
    obtain ⟨o0, o1, oz⟩ := id O2
    have hrow := row_own (zs := smp (both an ad bn bd)) R2 (by unfold maxLen; omega) (bd_all hbds)
    obtain ⟨ra, rc, rfl, RW⟩ := hrow
    have hrc : (smp (both an ad bn bd)).length ≤ rc ∧ rc ≤ 9223372036854775807 := by
      rcases R2.2 with ⟨e, h⟩ | ⟨g, cap, cur, e, _, _, h1, h2, _⟩
      · simp only [Value.slice.injEq] at e; omega
      · simp only [Value.slice.injEq] at e; unfold maxLen at h2; omega
    have hKz : w1.heap.size < W.heap.size := (Array.getElem?_eq_some_iff.1 hK).1
    gi_wp2_with (refine ⟨trivial, ?_⟩; gi_at_call 46; refine (callsIn_wide.2 (from_any _ _ _ _ _ RW hrc.1 hrc.2)).mono ?_; rintro e V2 ⟨rfl, hb⟩; obtain ⟨s0, s1, t0, t1, tz⟩ := id (TR2.below hb))
    have hK2 : V2.heap[w1.heap.size]? = some (.deferred (some [])) := (hb.block _ hKz).trans hK
    have B3 : Below w.heap.size w V2 := B2.trans (hb.mono B2.size)
    have TR3 := ((TR2.below hb).store (.int .i64 (fromA (smp (both an ad bn bd))).1) (.int .i64 (fromA (smp (both an ad bn bd))).2.1)).alloc (.cells #[.int .i64 (fromA (smp (both an ad bn bd))).1, .int .i64 (fromA (smp (both an ad bn bd))).2.1] 23)
    have hsz := hb.size
    have hK3 : (((V2.setCell ⟨w.heap.size + 1 + 1, 0, none⟩ (.int .i64 (fromA (smp (both an ad bn bd))).1)).setCell ⟨w.heap.size + 1 + 1, 1, none⟩ (.int .i64 (fromA (smp (both an ad bn bd))).2.1)).alloc (.cells #[.int .i64 (fromA (smp (both an ad bn bd))).1, .int .i64 (fromA (smp (both an ad bn bd))).2.1] 23)).heap[w1.heap.size]? = some (.deferred (some [])) :=
      (Below.heap_alloc _ _ _ (by simp [World.setCell]; omega)).trans ((Below.heap_setCell _ _ _ _ (by show w1.heap.size ≠ w.heap.size + 1 + 1; omega)).trans ((Below.heap_setCell _ _ _ _ (by show w1.heap.size ≠ w.heap.size + 1 + 1; omega)).trans hK2))
    refine ⟨by simp, .inl ⟨_, _, rfl, run_takeDeferred hK3, ?_⟩⟩
    have TR4 := TR3.putObj (l := w1.heap.size) (by omega) (.deferred none)
    refine ⟨.tuple #[fr (fromA (smp (both an ad bn bd))).1 (fromA (smp (both an ad bn bd))).2.1, .bool (decide ((fromA (smp (both an ad bn bd))).2.2 = 0))], ?_, rfl, below_putObj (Below.alloc ((B3.setCell (p := ⟨w.heap.size + 1 + 1, 0, none⟩) (by show w.heap.size ≤ w.heap.size + 1 + 1; omega) _).setCell (p := ⟨w.heap.size + 1 + 1, 1, none⟩) (by show w.heap.size ≤ w.heap.size + 1 + 1; omega) _) (by have := B3.size; simp [World.setCell]; omega) _) (by omega) _⟩
    simp [results, Tryd.results34, go_sem, TR4.1, TR4.2.1]
    all_goals rfl
  case stop =>
    rintro c C W ⟨rfl, ⟨v, O2, R2, H2⟩, TR2, B2⟩ hK hC
    obtain ⟨o0, o1, oz⟩ := id O2
    have hrow := row_own (zs := smp (both an ad bn bd)) R2 (by unfold maxLen; omega) (bd_all hbds)
    obtain ⟨ra, rc, rfl, RW⟩ := hrow
    have hrc : (smp (both an ad bn bd)).length ≤ rc ∧ rc ≤ 9223372036854775807 := by
      rcases R2.2 with ⟨e, h⟩ | ⟨g, cap, cur, e, _, _, h1, h2, _⟩
      · simp only [Value.slice.injEq] at e; omega
      · simp only [Value.slice.injEq] at e; unfold maxLen at h2; omega
    have hKz : w1.heap.size < W.heap.size := (Array.getElem?_eq_some_iff.1 hK).1
    gi_wp2_with (refine ⟨trivial, ?_⟩; gi_at_call 46; refine (callsIn_wide.2 (from_any _ _ _ _ _ RW hrc.1 hrc.2)).mono ?_; rintro e V2 ⟨rfl, hb⟩; obtain ⟨s0, s1, t0, t1, tz⟩ := id (TR2.below hb))
    have hK2 : V2.heap[w1.heap.size]? = some (.deferred (some [])) := (hb.block _ hKz).trans hK
    have B3 : Below w.heap.size w V2 := B2.trans (hb.mono B2.size)
    have TR3 := ((TR2.below hb).store (.int .i64 (fromA (smp (both an ad bn bd))).1) (.int .i64 (fromA (smp (both an ad bn bd))).2.1)).alloc (.cells #[.int .i64 (fromA (smp (both an ad bn bd))).1, .int .i64 (fromA (smp (both an ad bn bd))).2.1] 23)
    have hsz := hb.size
    have hK3 : (((V2.setCell ⟨w.heap.size + 1 + 1, 0, none⟩ (.int .i64 (fromA (smp (both an ad bn bd))).1)).setCell ⟨w.heap.size + 1 + 1, 1, none⟩ (.int .i64 (fromA (smp (both an ad bn bd))).2.1)).alloc (.cells #[.int .i64 (fromA (smp (both an ad bn bd))).1, .int .i64 (fromA (smp (both an ad bn bd))).2.1] 23)).heap[w1.heap.size]? = some (.deferred (some [])) :=
      (Below.heap_alloc _ _ _ (by simp [World.setCell]; omega)).trans ((Below.heap_setCell _ _ _ _ (by show w1.heap.size ≠ w.heap.size + 1 + 1; omega)).trans ((Below.heap_setCell _ _ _ _ (by show w1.heap.size ≠ w.heap.size + 1 + 1; omega)).trans hK2))
    refine ⟨by simp, .inl ⟨_, _, rfl, run_takeDeferred hK3, ?_⟩⟩
    have TR4 := TR3.putObj (l := w1.heap.size) (by omega) (.deferred none)
    refine ⟨.tuple #[fr (fromA (smp (both an ad bn bd))).1 (fromA (smp (both an ad bn bd))).2.1, .bool (decide ((fromA (smp (both an ad bn bd))).2.2 = 0))], ?_, rfl, below_putObj (Below.alloc ((B3.setCell (p := ⟨w.heap.size + 1 + 1, 0, none⟩) (by show w.heap.size ≤ w.heap.size + 1 + 1; omega) _).setCell (p := ⟨w.heap.size + 1 + 1, 1, none⟩) (by show w.heap.size ≤ w.heap.size + 1 + 1; omega) _) (by have := B3.size; simp [World.setCell]; omega) _) (by omega) _⟩
    simp [results, Tryd.results34, go_sem, TR4.1, TR4.2.1]
    all_goals rfl

end Go.Proofs.YtkdaefaggbmbnaaDoor
