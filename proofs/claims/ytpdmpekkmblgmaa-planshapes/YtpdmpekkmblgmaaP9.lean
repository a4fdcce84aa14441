/-
  Package plan: what an iterator of pairs gives, as a list; a list of pairs sorted.
-/
import Derived.Test.YtpdmpekkmblgmaaP3
import Derived.Test.YtpdmpekkmblgmaaShelf
namespace Go.Proofs.Ytpdmpekkmblgmaa
open Go.ChangeShapes Go.WideShapes Go.ChangeAt Go.RowKit Go.Maps Go.Shelf Go.Lib
set_option linter.unusedVariables false
set_option linter.unusedSimpArgs false
attribute [local go_sem] Oper.semAt_some

abbrev encL (p : LK) : Array Value := #[.agg #[.int .i64 p.1, .int .i64 p.2]]
set_option maxRecDepth 100000 in
set_option maxHeartbeats 1000000 in
/-- slices.AppendSeq(nil, seq). -/
theorem appendseq_any (g : Nat) (lb : Array Value) (eg : ∀ args w, (callFunc g args).run Try.prog w = .ok (.enter g args) w) (xs : List LK) (Keep : World → Prop) (w : World) (hx : xs.length ≤ 100000)
    (hseq : ∀ W, Below w.heap.size w W → Gives Try.prog g lb encL xs W Keep) (hK : ∀ W, Below w.heap.size w W → Keep W) :
    Calls Try.prog 68 #[.slice none 0 0, .func (.func g) #[] lb] w fun e w' => ∃ v, e = .returned v ∧ w'.ownsRow w.heap.size 49 2 v xs.length (csL xs) ∧ Below w.heap.size w w' := by
  have HX : Hid (xs.length ≤ 100000) := hx
  clear hx
  refine (callsIn_wide (n := 2)).1 ?_
  refine callsIn_of_wp_marks Try.func68 rfl trivial ?_
  simp only [Try.ntmps68, List.size_toArray, List.length_cons, List.length_nil, Nat.reduceAdd, Nat.reduceSub, Array.replicate_succ, Array.replicate_zero, List.push_toArray, List.append_toArray, List.nil_append, List.cons_append]
  gi_wp2
  obtain ⟨w4, hw4⟩ : ∃ X, w.alloc (.cells #[.slice none 0 0] 23) = X := ⟨_, rfl⟩
  rw [hw4]
  have Z4 : w4.heap.size = w.heap.size + 1 := by rw [← hw4]; simp
  have OW : One w4 w.heap.size (.slice none 0 0) := by rw [← hw4]; exact One.new _ _ _
  have B4 : Below w.heap.size w w4 := by rw [← hw4]; exact (Below.refl _ w).alloc (Nat.le_refl _) _
  clear hw4
  refine range_turns (gf := g) (lb := lb) (by first | rfl | simp) eg
    (hseq w4 B4) (Below.refl _ _) (fun _ => rfl)
    (fun k C W => k ≤ xs.length ∧ Holds 49 2 W w.heap.size w.heap.size C k (csL (xs.take k)) ∧ Below w.heap.size w W)
    (fun c C W => False)
    (fun k C A h => hK A h.2.2)
    (fun k C A B h s => ⟨h.1, h.2.1.same s (by omega), Below.same h.2.2 s (by omega) (Nat.le_refl _)⟩)
    (fun c C A B h s => h)
    ⟨Nat.zero_le _, Holds.nil _ _ _ _ _ OW, B4⟩
    (fun x a' W => ∃ q : Nat, a' = { tmps := #[.slice none 0 0, .func (.func g) #[] lb, .pointer (some ⟨w.heap.size, 0, none⟩), undef, .slice none 0 0, .pointer (some ⟨q, 0, none⟩), .func (.func g) #[] lb, .agg #[.int .i64 x.1, .int .i64 x.2], undef, undef, undef, undef, undef], defers := [] } ∧ At W q #[.int .i64 x.1, .int .i64 x.2] 49 ∧ w4.heap.size + 2 ≤ q)
    (fun x a' A o ⟨q, h1, h2, h3⟩ => ⟨q, h1, (World.putObj_heap_other (by omega)).trans h2, h3⟩)
    ?assign ?body ?done ?stop
  case assign =>
    rintro k ⟨p, q⟩ W C K hi hs' hK
    dsimp only [encL]
    gi_wp2
    exact hK _ _ ⟨W.heap.size, by first | rfl | simp, World.alloc_heap_new W _, hs'⟩ ((Below.refl _ W).alloc (Nat.le_refl _) _)
  case body =>
    rintro k ⟨p, q⟩ C a' W ⟨hk, ⟨v, O2, R2, H2⟩, K2⟩ ⟨r, rfl, hr, hrr⟩ hx hs' hC
    have hT1 : csL (xs.take (k + 1)) = csL (xs.take k) ++ LK.cells (p, q) := by rw [List.take_add_one, hx, csL_append]; simp [csL]
    obtain ⟨ys, hys⟩ : ∃ ys, csL (xs.take k) = ys := ⟨_, rfl⟩
    rw [hys] at R2 hT1
    have HY : Hid (csL (xs.take (k + 1)) = ys ++ LK.cells (p, q)) := hT1
    have HK : Hid (k < xs.length) := (List.getElem?_eq_some_iff.1 hx).1
    have HB : Hid (Below w.heap.size w W) := K2
    obtain ⟨o0, o1, oz⟩ := id O2
    have HC : Hid (∀ b, C b → w4.heap.size ≤ b ∧ b < W.heap.size) := fun b hb => ⟨by have := (hC b hb).1; omega, (hC b hb).2⟩
    have hra : W.rangeAt r 0 (LK.cells (p, q)) := range_rowL hr
    clear hx hk hT1 hys hr
    dsimp only
    gi_wp2_with (first
      | ((with_reducible show wpListIn _ _ _ _ _ (Oper.mk _ (Op.load 49 _) _ _ _ _ :: _) _ _); refine wpListIn_load49 rfl _ rfl r 0 (p, q) rfl hra ?_; dsimp only [LK.val])
      | (gi_at_builtin; refine wpListIn_app_l rfl _ _ rfl w.heap.size v k ys rfl (R2.alloc _) ⟨W.heap.size, 0, none⟩ (p, q) rfl (by intro j u hu; rw [add_plain, Nat.zero_add]; exact row_cell (World.alloc_heap_new W _) j u (by simpa [LK.cells] using hu)) (by have := HX.out; have := HK.out; omega) (by have := HB.out.size; simp; omega) ?_; intro g c2 w2 r1 r2 r3; obtain ⟨O3, H3, T3, hne⟩ := Holds.grow (n := w4.heap.size) O2 H2 HC.out (by omega) (by omega) r1 r2 r3; obtain ⟨p0, p1, pz⟩ := id O3))
    have B3 : Below w.heap.size w (w2.setCell ⟨w.heap.size, 0, none⟩ (.slice (some ⟨g, 0, none⟩) (k + 1) c2)) :=
      ((HB.out.alloc HB.out.size _).grown r2 (by have := HB.out.size; simp; omega) (fun j e => (R2.lt j e).1)).setCell (p := ⟨w.heap.size, 0, none⟩) (by show w.heap.size ≤ w.heap.size; omega) _
    exact ⟨fun k => k = g, ⟨HK.out, by rw [HY.out]; exact H3, B3⟩, T3⟩
  case done =>
    rintro C W ⟨hk, H, B⟩ hK hC
    rw [List.take_length] at H
    obtain ⟨v, O1, R1, H1⟩ := H
    obtain ⟨o0, o1, oz⟩ := id O1
    gi_wp2
    refine ⟨by simp, .inl ⟨_, _, rfl, run_takeDeferred hK, ?_⟩⟩
    exact ⟨_, results_tmp rfl _ _ _, _, rfl, owns_of_block R1 (fun g hg => World.putObj_heap_other (fun e => by have := (hC _ ((H1 _).2 hg)).1; omega)), below_putObj B (by omega) _⟩
  case stop =>
    rintro c C W h
    exact h.elim
end Go.Proofs.Ytpdmpekkmblgmaa
