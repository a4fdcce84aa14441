/-
  Package topo: Turns, the program's and the document's; the document's Wait.
-/
import Derived.Test.YthpdaiaakpimkaaM7
namespace Go.Proofs.Ythpdaiaakpimkaa
open Go.ChangeShapes Go.WideShapes Go.ChangeAt Go.RowKit Go.Maps Go.Shelf
set_option linter.unusedVariables false
set_option linter.unusedSimpArgs false
attribute [local go_sem] Oper.semAt_some

/-- The neighbours of so many turns. -/
def tr (l : List Int) (t N : Nat) : List Int := (List.range N).map fun k => l.getD ((t + k) % l.length) 0
theorem tr_len (l : List Int) (t N : Nat) : (tr l t N).length = N := by simp [tr]
theorem tr_succ (l : List Int) (t N : Nat) : tr l t (N + 1) = tr l t N ++ [l.getD ((t + N) % l.length) 0] := by simp [tr, List.range_succ]
/-- How many turns are told. -/
def tn (l : List Int) (n : Int) : Nat := if l.length = 0 then 0 else (min n 100000).toNat
set_option maxRecDepth 100000 in
set_option maxHeartbeats 8000000 in
theorem turns_few (a : Option Addr) (len cap : Nat) (t : Nat) (n : Int) (w : World) (hn : n < 1) : Calls Try.prog 22 #[.slice a len cap, .int .i64 (t : Int), .int .i64 n] w fun e w' => e = .returned (.slice none 0 0) ∧ Below w.heap.size w w' := by
  refine (callsIn_wide (n := 2)).1 ?_
  refine callsIn_of_wp_marks Try.func22 rfl trivial ?_
  simp only [Try.ntmps22, List.size_toArray, List.length_cons, List.length_nil, Nat.reduceAdd, Nat.reduceSub, Array.replicate_succ, Array.replicate_zero, List.push_toArray, List.append_toArray, List.nil_append, List.cons_append]
  gi_wp2_with (fail)
  refine wide_scope ?_
  gi_wp2
  exact ⟨_, results_tmp rfl _ _ _, rfl, (Below.refl _ w).alloc (Nat.le_refl _) _⟩
set_option maxRecDepth 100000 in
set_option maxHeartbeats 8000000 in
theorem turns_empty (a : Option Addr) (cap : Nat) (t : Nat) (n : Int) (w : World) (hn : ¬ n < 1) : Calls Try.prog 22 #[.slice a 0 cap, .int .i64 (t : Int), .int .i64 n] w fun e w' => e = .returned (.slice none 0 0) ∧ Below w.heap.size w w' := by
  have KN := fun W => turns_any a 0 cap (t : Int) W
  refine (callsIn_wide (n := 2)).1 ?_
  refine callsIn_of_wp_marks Try.func22 rfl trivial ?_
  simp only [Try.ntmps22, List.size_toArray, List.length_cons, List.length_nil, Nat.reduceAdd, Nat.reduceSub, Array.replicate_succ, Array.replicate_zero, List.push_toArray, List.append_toArray, List.nil_append, List.cons_append]
  gi_wp2_with (fail)
  refine wide_scope ?_
  gi_wp2_with (refine ⟨trivial, ?_⟩; gi_at_call 33; refine (callsIn_wide.2 (KN _)).mono ?_; clear KN; rintro e w4 ⟨rfl, hw4⟩)
  rw [← hw4]
  have Z4 : w4.heap.size = w.heap.size + 4 := by rw [hw4]; simp
  have OV : One w4 w.heap.size (.int .i64 n) := by rw [hw4]; exact (((One.new _ _ _).alloc _).alloc _).alloc _
  have OW : One w4 (w.heap.size + 1) (.slice none 0 0) := by rw [hw4]; exact (((One.new _ _ _).at (by simp)).alloc _).alloc _
  have OL : One w4 (w.heap.size + 2) (.slice a 0 cap) := by rw [hw4]; exact ((One.new _ _ _).at (by simp)).alloc _
  have OT : One w4 (w.heap.size + 3) (.int .i64 (t : Int)) := by rw [hw4]; exact (One.new _ _ _).at (by simp)
  have B4 : Below w.heap.size w w4 := by rw [hw4]; exact ((((Below.refl _ w).alloc (Nat.le_refl _) _).alloc (by simp) _).alloc (by simp; omega) _).alloc (by simp; omega) _
  clear hw4
  refine range_turns (gf := 34) (lb := #[.pointer (some ⟨w.heap.size + 3, 0, none⟩), .pointer (some ⟨w.heap.size + 2, 0, none⟩)]) (by first | rfl | simp) (enters_of Try.func34 (by kernel_rfl) rfl)
    (turns_none w (w.heap.size + 3) (w.heap.size + 2) a cap t w4 OT) (Below.refl _ _) (fun _ => rfl)
    (fun k C W => One W (w.heap.size + 1) (.slice none 0 0) ∧ KeepI w (w.heap.size + 2) (.slice a 0 cap) W)
    (fun c C W => False)
    (fun k C A h => h.2)
    (fun k C A B h s => ⟨h.1.same s (by omega), h.2.ptr.same s (by omega), Below.same h.2.below s (by omega) (Nat.le_refl _)⟩)
    (fun c C A B h s => h)
    ⟨OW, OL, B4⟩ (.inl rfl)
    (fun x a' W => a' = { tmps := #[.slice a 0 cap, .int .i64 (t : Int), .int .i64 n, undef, undef, .pointer (some ⟨w.heap.size, 0, none⟩), .slice none 0 0, .pointer (some ⟨w.heap.size + 1, 0, none⟩), .int .i64 x.1, .int .i64 x.2, .int .i64 n, .bool (decide (n < 1)), .slice a 0 cap, .int .i64 (t : Int), .func (.func 34) #[] #[.pointer (some ⟨w.heap.size + 3, 0, none⟩), .pointer (some ⟨w.heap.size + 2, 0, none⟩)], .int .i64 x.1, .int .i64 x.2, undef, undef, undef, undef, undef, undef, undef, undef, undef], defers := [] })
    (fun x a' A o h => h)
    ?assign ?body ?done ?stop
  case assign =>
    rintro k ⟨x1, x2⟩ W C K hi hs' hK
    dsimp only [encP]
    gi_wp2
    exact hK _ _ rfl (Below.refl _ _)
  case body =>
    rintro k x C a' W _ _ hx
    cases hx
  case done =>
    rintro C W ⟨O1, K2⟩ hK hC
    obtain ⟨o0, o1, oz⟩ := id O1
    gi_wp2_with (fail)
    refine wpIn_label ?_
    gi_wp2
    refine ⟨by simp, .inl ⟨_, _, rfl, run_takeDeferred hK, ?_⟩⟩
    exact ⟨_, results_tmp rfl _ _ _, rfl, below_putObj K2.below (by omega) _⟩
  case stop =>
    rintro c C W h
    exact h.elim
set_option maxRecDepth 100000 in
set_option maxHeartbeats 8000000 in
theorem turns_many (a : Option Addr) (len cap : Nat) (zs : List Int) (t : Nat) (n : Int) (w : World) (R : Row w a len cap zs) (htl : t < len) (hn : ¬ n < 1) : Calls Try.prog 22 #[.slice a len cap, .int .i64 (t : Int), .int .i64 n] w fun e w' => ∃ a' c', e = .returned (.slice a' (tn zs n) c') ∧ Row w' a' (tn zs n) c' (tr zs t (tn zs n)) ∧ Below w.heap.size w w' := by
  have HS : Hid (zs.length = len) := R.size
  obtain ⟨N, hN⟩ : ∃ N, tn zs n = N := ⟨_, rfl⟩
  obtain ⟨m, hm⟩ : ∃ m : Int, (if 100000 < n then 100000 else n) = m := ⟨_, rfl⟩
  have HNM : Hid ((N : Int) = m ∧ 0 < N ∧ N ≤ 100000) := by
    show _ ∧ _
    rw [← hN, ← hm]
    unfold tn
    rw [if_neg (by rw [HS.out]; omega)]
    split <;> omega
  rw [hN]
  have KN := fun W => turns_any a len cap (t : Int) W
  clear hN
  refine (callsIn_wide (n := 2)).1 ?_
  refine callsIn_of_wp_marks Try.func22 rfl trivial ?_
  simp only [Try.ntmps22, List.size_toArray, List.length_cons, List.length_nil, Nat.reduceAdd, Nat.reduceSub, Array.replicate_succ, Array.replicate_zero, List.push_toArray, List.append_toArray, List.nil_append, List.cons_append]
  gi_wp2_with (fail)
  refine wide_jump _ 0 (fun a' W' => a' = { tmps := #[.slice a len cap, .int .i64 (t : Int), .int .i64 n, undef, undef, .pointer (some ⟨w.heap.size, 0, none⟩), .slice none 0 0, .pointer (some ⟨w.heap.size + 1, 0, none⟩), undef, undef, .int .i64 n, .bool (decide (n < 1)), .slice a len cap, .int .i64 (t : Int), .func (.func 34) #[] #[.pointer (some ⟨w.heap.size + 3, 0, none⟩), .pointer (some ⟨w.heap.size + 2, 0, none⟩)], undef, undef, undef, undef, undef, undef, undef, undef, undef, undef, undef], defers := [{ target := .collected (w.heap.size + 4), args := #[] }] } ∧ (∃ v, One W' (w.heap.size + 1) v ∧ W'.ownsRow w.heap.size 3 1 v N ((tr zs t N).map iv) ∧ v.ownBlock ≠ some (w.heap.size + 4)) ∧ Below w.heap.size w W' ∧ W'.heap[w.heap.size + 4]? = some (.deferred (some []))) rfl ?first ?pass
  case pass =>
    rintro a' W' ⟨rfl, ⟨v, O1, R1, H1⟩, B1, hK⟩
    obtain ⟨av, cv, rfl⟩ := owns_slice R1
    obtain ⟨o0, o1, oz⟩ := id O1
    gi_wp2
    refine ⟨by simp, .inl ⟨_, _, rfl, run_takeDeferred hK, ?_⟩⟩
    exact ⟨_, results_tmp rfl _ _ _, _, _, rfl, owns_row (owns_of_block R1 (fun g hg => World.putObj_heap_other (fun e => H1 (by rw [← e]; exact hg)))), below_putObj B1 (by omega) _⟩
  case first =>
    gi_wp2_with (first
      | (refine ⟨trivial, ?_⟩; gi_at_call 33; refine (callsIn_wide.2 (KN _)).mono ?_; clear KN; rintro e w4 ⟨rfl, hw4⟩))
    rw [← hw4]
    have Z4 : w4.heap.size = w.heap.size + 4 := by rw [hw4]; simp
    have OV : One w4 w.heap.size (.int .i64 n) := by rw [hw4]; exact (((One.new _ _ _).alloc _).alloc _).alloc _
    have OW : One w4 (w.heap.size + 1) (.slice none 0 0) := by rw [hw4]; exact (((One.new _ _ _).at (by simp)).alloc _).alloc _
    have OL : One w4 (w.heap.size + 2) (.slice a len cap) := by rw [hw4]; exact ((One.new _ _ _).at (by simp)).alloc _
    have OT : One w4 (w.heap.size + 3) (.int .i64 (t : Int)) := by rw [hw4]; exact (One.new _ _ _).at (by simp)
    have B4 : Below w.heap.size w w4 := by rw [hw4]; exact ((((Below.refl _ w).alloc (Nat.le_refl _) _).alloc (by simp) _).alloc (by simp; omega) _).alloc (by simp; omega) _
    clear hw4
    refine range_turns (gf := 34) (lb := #[.pointer (some ⟨w.heap.size + 3, 0, none⟩), .pointer (some ⟨w.heap.size + 2, 0, none⟩)]) (by first | rfl | simp) (enters_of Try.func34 (by kernel_rfl) rfl)
      (turns_gives w (w.heap.size + 3) (w.heap.size + 2) a len cap zs t N w4 R htl HNM.out.2.1 (by have := HNM.out.2.2; omega) OT) (Below.refl _ _) (fun _ => rfl)
      (fun k C W => k < N ∧ One W w.heap.size (.int .i64 n) ∧ Holds 3 1 W (w.heap.size + 1) w.heap.size C k ((tr zs t k).map iv) ∧ KeepI w (w.heap.size + 2) (.slice a len cap) W)
      (fun c C W => c = .goto 0 ∧ Holds 3 1 W (w.heap.size + 1) w.heap.size C N ((tr zs t N).map iv) ∧ Below w.heap.size w W)
      (fun k C A h => h.2.2.2)
      (fun k C A B h s => ⟨h.1, h.2.1.same s (by omega), h.2.2.1.same s (by omega), h.2.2.2.ptr.same s (by omega), Below.same h.2.2.2.below s (by omega) (Nat.le_refl _)⟩)
      (fun c C A B h s => ⟨h.1, h.2.1.same s (by omega), Below.same h.2.2 s (by omega) (Nat.le_refl _)⟩)
      ⟨HNM.out.2.1, OV, Holds.nil _ _ _ _ _ OW, OL, B4⟩ (.inr (fun C A h => by have := h.1; rw [trl_len] at this; omega))
      (fun x a' W => a' = { tmps := #[.slice a len cap, .int .i64 (t : Int), .int .i64 n, undef, undef, .pointer (some ⟨w.heap.size, 0, none⟩), .slice none 0 0, .pointer (some ⟨w.heap.size + 1, 0, none⟩), .int .i64 x.1, .int .i64 x.2, .int .i64 n, .bool (decide (n < 1)), .slice a len cap, .int .i64 (t : Int), .func (.func 34) #[] #[.pointer (some ⟨w.heap.size + 3, 0, none⟩), .pointer (some ⟨w.heap.size + 2, 0, none⟩)], .int .i64 x.1, .int .i64 x.2, undef, undef, undef, undef, undef, undef, undef, undef, undef], defers := [] })
      (fun x a' A o h => h)
      ?assign ?body ?done ?stop
    case assign =>
      rintro k ⟨x1, x2⟩ W C K hi hs' hK
      dsimp only [encP]
      gi_wp2
      exact hK _ _ rfl (Below.refl _ _)
    case body =>
      rintro k x C a' W ⟨hk, O1, ⟨v, O2, R2, H2⟩, K2⟩ rfl hx hs' hC
      rw [trl_at hk] at hx
      have hxe : x = ((k : Int) + 1, zs.getD ((t + k) % zs.length) 0) := (Option.some.inj hx).symm
      have hT1 : (tr zs t (k + 1)).map iv = (tr zs t k).map iv ++ [iv (zs.getD ((t + k) % zs.length) 0)] := by rw [tr_succ, List.map_append]; rfl
      obtain ⟨u, hu⟩ : ∃ u, zs.getD ((t + k) % zs.length) 0 = u := ⟨_, rfl⟩
      rw [hu] at hxe hT1
      subst hxe
      obtain ⟨ys, hys⟩ : ∃ ys, (tr zs t k).map iv = ys := ⟨_, rfl⟩
      rw [hys] at R2 hT1
      have HY : Hid ((tr zs t (k + 1)).map iv = ys ++ [iv u]) := hT1
      have HK : Hid (k < N) := hk
      have HB : Hid (Below w.heap.size w W) := K2.below
      obtain ⟨av, cv, rfl⟩ := owns_slice R2
      obtain ⟨o0, o1, oz⟩ := id O2
      have HC : Hid (∀ b, C b → w4.heap.size ≤ b ∧ b < W.heap.size) := fun b hb => ⟨by have := (hC b hb).1; omega, (hC b hb).2⟩
      clear hx hu hk hT1 hys
      by_cases hkN : k + 1 = N
      · have hke : ((k : Int) + 1 == m) = true := by have := HNM.out.1; simp; omega
        have HKN : Hid (k + 1 = N) := hkN
        clear hkN
        gi_wp2_with (gi_at_builtin; refine wpListIn_append_int _ rfl _ _ rfl w.heap.size (.slice av k cv) k ys rfl (R2.alloc _) ⟨W.heap.size, 0, none⟩ u rfl (cell_one_new _ _ _) (by have := HNM.out; have := HK.out; omega) (by have := HB.out.size; simp; omega) ?_; intro g c2 w2 r1 r2 r3; obtain ⟨O3, H3, T3, hne⟩ := Holds.grow (n := w4.heap.size) O2 H2 HC.out (by omega) (by omega) r1 r2 r3; obtain ⟨p0, p1, pz⟩ := id O3; obtain ⟨q0, q1, qz⟩ := O1.of_block ((r2.block _ (by have := O1.2.2; simp; omega) (fun e => by have := (HC.out _ ((H2 _).2 e.symm)).1; omega)).trans (Below.heap_alloc _ _ _ O1.2.2)) (by have := r2.size; simp at this; omega))
        have B3 : Below w.heap.size w (w2.setCell ⟨w.heap.size + 1, 0, none⟩ (.slice (some ⟨g, 0, none⟩) (k + 1) c2)) :=
          ((HB.out.alloc HB.out.size _).grown r2 (by have := HB.out.size; simp; omega) (fun j e => (R2.lt j e).1)).setCell (p := ⟨w.heap.size + 1, 0, none⟩) (by show w.heap.size ≤ w.heap.size + 1; omega) _
        refine wpIn_goto ?_
        try gi_wp2
        refine ⟨fun k => k = g, ⟨rfl, ?_, B3⟩, T3⟩
        rw [← HKN.out, HY.out]
        exact H3
      · have hke : ((k : Int) + 1 == m) = false := by have := HNM.out.1; simp; omega
        have HKN : Hid (k + 1 ≠ N) := hkN
        clear hkN
        gi_wp2_with (gi_at_builtin; refine wpListIn_append_int _ rfl _ _ rfl w.heap.size (.slice av k cv) k ys rfl (R2.alloc _) ⟨W.heap.size, 0, none⟩ u rfl (cell_one_new _ _ _) (by have := HNM.out; have := HK.out; omega) (by have := HB.out.size; simp; omega) ?_; intro g c2 w2 r1 r2 r3; obtain ⟨O3, H3, T3, hne⟩ := Holds.grow (n := w4.heap.size) O2 H2 HC.out (by omega) (by omega) r1 r2 r3; obtain ⟨p0, p1, pz⟩ := id O3; obtain ⟨q0, q1, qz⟩ := O1.of_block ((r2.block _ (by have := O1.2.2; simp; omega) (fun e => by have := (HC.out _ ((H2 _).2 e.symm)).1; omega)).trans (Below.heap_alloc _ _ _ O1.2.2)) (by have := r2.size; simp at this; omega))
        have B3 : Below w.heap.size w (w2.setCell ⟨w.heap.size + 1, 0, none⟩ (.slice (some ⟨g, 0, none⟩) (k + 1) c2)) :=
          ((HB.out.alloc HB.out.size _).grown r2 (by have := HB.out.size; simp; omega) (fun j e => (R2.lt j e).1)).setCell (p := ⟨w.heap.size + 1, 0, none⟩) (by show w.heap.size ≤ w.heap.size + 1; omega) _
        have F3 : One (w2.setCell ⟨w.heap.size + 1, 0, none⟩ (.slice (some ⟨g, 0, none⟩) (k + 1) c2)) (w.heap.size + 2) (.slice a len cap) := by
          have z := K2.ptr.2.2
          have nv : some (w.heap.size + 2) ≠ (Value.slice av k cv).ownBlock := fun e => by have := (HC.out _ ((H2 _).2 e.symm)).1; omega
          exact One.of_block K2.ptr ((Below.heap_setCell _ _ _ _ (by show w.heap.size + 2 ≠ w.heap.size + 1; omega)).trans ((r2.block _ (by simp; omega) nv).trans (Below.heap_alloc _ _ _ z))) (by have := r2.size; simp at this; simp [World.setCell]; omega)
        have F4 : One (w2.setCell ⟨w.heap.size + 1, 0, none⟩ (.slice (some ⟨g, 0, none⟩) (k + 1) c2)) w.heap.size (.int .i64 n) := One.of_block (W := w2) ⟨q0, q1, qz⟩ (Below.heap_setCell _ _ _ _ (by show w.heap.size ≠ w.heap.size + 1; omega)) (by simp [World.setCell])
        exact ⟨fun k => k = g, ⟨by have := HK.out; have := HKN.out; omega, F4, by rw [HY.out]; exact H3, F3, B3⟩, T3⟩
    case done =>
      rintro C W ⟨hk, _⟩
      rw [trl_len] at hk
      omega
    case stop =>
      rintro c C W ⟨rfl, ⟨v, O1, R1, H1⟩, B1⟩ hK hC
      refine wpIn_goto ?_
      try gi_wp2
      rw [jump_goto]
      exact ⟨by rw [Z4], ⟨v, O1, R1, fun e => by have := (hC _ ((H1 _).2 e)).1; omega⟩, B1, by rw [← Z4]; exact hK⟩
end Go.Proofs.Ythpdaiaakpimkaa
