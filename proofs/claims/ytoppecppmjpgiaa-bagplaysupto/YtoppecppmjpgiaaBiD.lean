/-
  slices.AppendSeq and slices.Collect over the keys of the map of severed pairs.
-/
import Derived.Test.YtoppecppmjpgiaaBiC
namespace Go.Proofs.Ytoppecppmjpgiaa
open Go.ChangeShapes Go.WideShapes Go.ChangeAt Go.RowKit Go.Maps Go.Shelf
set_option linter.unusedVariables false
set_option linter.unusedSimpArgs false
attribute [local go_sem] Oper.semAt_some

/-- What the loop of AppendSeq holds. -/
structure APt (w : World) (Bm M : Nat) (o : Obj) (ss : List (Int × Int)) (C : Nat → Prop) (W : World) : Prop where
  holds : HoldL W w.heap.size w.heap.size C ss
  keep : KeepK Bm M o W
  below : Below w.heap.size w W
theorem cell_two_new (W : World) (x y : Value) (t : TypeId) (u v : Int) (hx : x = .int .i64 u) (hy : y = .int .i64 v) (j : Nat) (z : Value) (hj : (pcs [(u, v)])[j]? = some z) : (W.alloc (.cells #[x, y] t)).cell? ((⟨W.heap.size, 0, none⟩ : Addr).add j) = some z := by
  subst hx hy
  rw [add_plain, Nat.zero_add]
  exact row_cell (World.alloc_heap_new W _) j z (by simpa [pcs_one] using hj)
set_option maxRecDepth 100000 in
set_option maxHeartbeats 4000000 in
theorem appendSeq_any (Bm M kk : Nat) (D : DataW Unit) (w : World) (hown : w.ownsMap Try.prog 65 (unitElem (H := Unit)) M kk D) (hB : One w Bm (.map (some M))) (hsz : Maps.size D * 16 ≤ 140737488355328) :
    Calls Try.prog 58 #[.slice none 0 0, .func (.func 52) #[] #[.pointer (some ⟨Bm, 0, none⟩)]] w fun e w' => ∃ v, e = .returned v ∧ Below w.heap.size w w' ∧ ∃ ss, (Keys D ss ∧ ss.length ≤ Maps.size D) ∧ w'.ownsRow w.heap.size 65 2 v ss.length (pcs ss) := by
  obtain ⟨es, ck, ho⟩ := owns_map hown
  have hMl := hown.lt
  have hBl := hB.2.2
  refine (callsIn_wide (n := 2)).1 ?_
  refine callsIn_of_wp_marks Try.func58 rfl trivial ?_
  simp only [Try.ntmps58, List.size_toArray, List.length_cons, List.length_nil, Nat.reduceAdd, Nat.reduceSub, Array.replicate_succ, Array.replicate_zero, List.push_toArray, List.append_toArray, List.nil_append, List.cons_append]
  gi_wp2
  obtain ⟨w1, hw1⟩ : ∃ w1, w.alloc (.cells #[.slice none 0 0] 23) = w1 := ⟨_, rfl⟩
  have O1 : One w1 w.heap.size (.slice none 0 0) := by rw [← hw1]; exact One.new _ _ _
  have B1 : Below w.heap.size w w1 := by rw [← hw1]; exact (Below.refl _ w).alloc (Nat.le_refl _) _
  have Z1 : w1.heap.size = w.heap.size + 1 := by rw [← hw1]; simp
  rw [hw1]
  clear hw1
  have K1 : KeepK Bm M (.map es ck) w1 := ⟨hB.below B1, (B1.block M hMl).trans ho⟩
  have L0 : APt w Bm M (.map es ck) [] (fun _ => False) w1 := ⟨HoldL.nil _ _ _ O1, K1, B1⟩
  have HZ : Hid (w1.heap.size = w.heap.size + 1 ∧ Bm < w.heap.size ∧ M < w.heap.size) := ⟨Z1, hBl, hMl⟩
  have HS : Hid (Maps.size D * 16 ≤ 140737488355328) := ⟨hsz⟩
  have G := keys_gives Bm M kk D w1 (.map es ck) (owns_of hown (B1.block M hMl)) ((B1.block M hMl).trans ho)
  clear O1 B1 Z1 K1 hB ho hown hMl hBl hsz
  refine range_turnsL (gf := 52) (lb := #[.pointer (some ⟨Bm, 0, none⟩)]) rfl (enters_of Try.func52 (by kernel_rfl) rfl)
    G (Below.refl _ _) (fun _ => rfl)
    (fun ss C W => APt w Bm M (.map es ck) ss C W)
    (fun c C W => False)
    (fun ss C A h => h.keep)
    (fun ss C A B h s => ⟨h.holds.same s (by have := HZ.out; omega), ⟨h.keep.box.same s (by have := HZ.out; omega), (s.block M (row_lt h.keep.map) (.inl (by have := HZ.out; omega))).trans h.keep.map⟩, Below.same h.below s (by have := HZ.out; omega) (Nat.le_refl _)⟩)
    (fun c C A B h s => h)
    L0
    (fun x a' W => ∃ k, w1.heap.size + 2 ≤ k ∧ Two W k (.int .i64 x.1) (.int .i64 x.2) ∧ a' = { tmps := #[.slice none 0 0, .func (.func 52) #[] #[.pointer (some ⟨Bm, 0, none⟩)], .pointer (some ⟨w.heap.size, 0, none⟩), undef, .slice none 0 0, .pointer (some ⟨k, 0, none⟩), .func (.func 52) #[] #[.pointer (some ⟨Bm, 0, none⟩)], lnk x.1 x.2, undef, undef, undef, undef, undef], defers := [] })
    (fun x a' A o h => by obtain ⟨k, h1, h2, h3⟩ := h; exact ⟨k, h1, h2.putObj (by omega) o, h3⟩)
    ?assign ?body ?done ?stop
  case assign =>
    rintro ss ⟨x0, x1⟩ W C K hi hs hK
    gi_wp2
    exact hK _ _ ⟨W.heap.size, hs, Two.new _ _ _ _, rfl⟩ ((Below.refl _ W).alloc (Nat.le_refl _) _)
  case body =>
    rintro ss ⟨x0, x1⟩ C a' W L ⟨k, hk, T2, rfl⟩ hx hs hC
    obtain ⟨v, O2, R2, H2⟩ := L.holds
    obtain ⟨q0, q1, f0, f1, z⟩ := id T2
    obtain ⟨o0, o1, oz⟩ := id O2
    have HB : Hid (Below w.heap.size w W) := ⟨L.below⟩
    have HK : Hid (KeepK Bm M (.map es ck) W) := ⟨L.keep⟩
    have HL : Hid ((ss.length + 1) * 16 ≤ 140737488355328) := ⟨by have := HS.out; omega⟩
    clear L L0 G hx
    gi_wp2_with (gi_at_builtin; refine append_lnk _ rfl _ _ rfl w.heap.size _ _ _ rfl (R2.alloc _) ⟨W.heap.size, 0, none⟩ (x0, x1) rfl (cell_two_new _ _ _ _ _ _ rfl rfl) HL.out (by have := HB.out.size; simp; omega) ?_; intro g cap w2 r1 r2 r3; obtain ⟨O3, H3, T3, hne⟩ := HoldL.grow (n := w1.heap.size) (y := (x0, x1)) O2 H2 (fun b hb => by have := hC b hb; omega) (by have := HZ.out; omega) (by omega) r1 r2 r3; obtain ⟨p0, p1, pz⟩ := id O3)
    have hBs := HB.out.size
    have BX : Below w.heap.size W (w2.setCell ⟨w.heap.size, 0, none⟩ (.slice (some ⟨g, 0, none⟩) (ss.length + 1) cap)) :=
      (((Below.refl _ W).alloc hBs _).grown r2 (by simp; omega) (fun j e => (R2.lt j e).1)).setCell (p := ⟨w.heap.size, 0, none⟩) (Nat.le_refl _) _
    refine ⟨fun k => k = g, ⟨H3, ⟨HK.out.box.of_block (BX.block Bm (by have := HZ.out; omega)) BX.size, (BX.block M (by have := HZ.out; omega)).trans HK.out.map⟩, HB.out.trans BX⟩, T3⟩
  case done =>
    rintro ss C W hfin L hK hC
    obtain ⟨v, O2, R2, H2⟩ := L.holds
    obtain ⟨o0, o1, oz⟩ := id O2
    have HR : Hid (W.ownsRow w.heap.size 65 2 v ss.length (pcs ss)) := ⟨R2⟩
    have B2 := L.below
    clear R2 L L0 G
    gi_wp2
    refine ⟨by simp, .inl ⟨_, _, rfl, run_takeDeferred hK, ?_⟩⟩
    refine ⟨_, results_tmp rfl _ _ _, _, rfl, below_putObj B2 (by have := HZ.out; omega) _, ss, hfin, owns_of_block HR.out (fun g hg => World.putObj_heap_other (fun e => ?_))⟩
    have := hC g ((H2 g).2 hg)
    omega
  case stop =>
    rintro c C W h _ _
    exact h.elim
theorem collect_any (Bm M kk : Nat) (D : DataW Unit) (w : World) (hown : w.ownsMap Try.prog 65 (unitElem (H := Unit)) M kk D) (hB : One w Bm (.map (some M))) (hsz : Maps.size D * 16 ≤ 140737488355328) :
    Calls Try.prog 50 #[.func (.func 52) #[] #[.pointer (some ⟨Bm, 0, none⟩)]] w fun e w' => ∃ v, e = .returned v ∧ Below w.heap.size w w' ∧ ∃ ss, (Keys D ss ∧ ss.length ≤ Maps.size D) ∧ w'.ownsRow w.heap.size 65 2 v ss.length (pcs ss) := by
  have K := appendSeq_any Bm M kk D w hown hB hsz
  go_enter Try.func50, Try.ntmps50
  go_wp2_with (go_at_call 58; refine K.mono ?_; clear K; rintro e w1 ⟨v, rfl, b1, r1⟩)
  go_ret
  exact ⟨v, rfl, b1, r1⟩
end Go.Proofs.Ytoppecppmjpgiaa
