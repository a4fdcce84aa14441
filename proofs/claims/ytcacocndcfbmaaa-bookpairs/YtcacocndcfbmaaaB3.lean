/-
  Package book: Page.
-/
import Derived.Test.YtcacocndcfbmaaaB2
import Derived.Test.YtcacocndcfbmaaaME
import Derived.Test.YtcacocndcfbmaaaH20
namespace Go.Proofs.Ytcacocndcfbmaaa
open Go.ChangeShapes Go.WideShapes Go.ChangeAt Go.RowKit Go.Maps Go.Shelf
set_option linter.unusedVariables false
set_option linter.unusedSimpArgs false
attribute [local go_sem] Oper.semAt_some

def toEN (p : Int × Int) : EN := ⟨p.1, p.2⟩
abbrev csP (l : List (Int × Int)) : List Value := csE (l.map toEN)
theorem csP_snoc (l : List (Int × Int)) (p : Int × Int) : csP (l ++ [p]) = csP l ++ (toEN p).cells := by
  show csE ((l ++ [p]).map toEN) = _
  rw [List.map_append]
  exact csE_snoc _ _
theorem run_append_ent {W : World} (ty : TypeId) {base : Nat} {v : Value} {k : Nat} {xs : List Value} (hown : W.ownsRow base 58 2 v k xs) {ad : Addr} {y : EN}
    (hc : ∀ j u, y.cells[j]? = some u → W.cell? (ad.add j) = some u) (b2 : (k + 1) * 16 ≤ 140737488355328) (b3 : base ≤ W.heap.size) :
    ∃ g cap w', (Builtin.append_ #[26, 26] ty #[v, .slice (some ad) 1 1]).run Try.prog W = .ok (.slice (some ⟨g, 0, none⟩) (k + 1) cap) w' ∧ w'.ownsRow base 58 2 (.slice (some ⟨g, 0, none⟩) (k + 1) cap) (k + 1) (xs ++ y.cells) ∧ W.grownBy w' v.ownBlock ∧ (v.ownBlock = some g ∨ g = W.heap.size) := by
  obtain ⟨i0, hi, hz0, hz1, hz2⟩ := info_parts info58
  have h63 : k + 1 ≤ maxLen := by unfold maxLen; omega
  obtain ⟨v', w', hrun, r1, r2, r3⟩ := run_append_own (P := Try.prog) W base 26 ty 58 i0 _ 2 16 Try.underlying26 hi hz0 hz1 hz2 rfl (by decide) v k xs hown ad 1 1 y.cells rfl hc (cells_oneE y) h63 b2 b3
  have r4 := append_where (P := Try.prog) W base 26 ty 58 i0 _ 2 16 Try.underlying26 hi hz0 hz1 hz2 rfl (by decide) v k xs hown ad 1 1 y.cells rfl hc (cells_oneE y) (by decide) h63 b2 v' w' hrun
  rcases r1.2 with ⟨_, h0⟩ | ⟨g, cap, cur, rfl, q⟩
  · omega
  · refine ⟨g, cap, w', hrun, r1, r2, ?_⟩
    rcases r4 with h | h
    · exact .inl h.symm
    · exact .inr (by simpa [Value.ownBlock] using h)
theorem wpListIn_append_ent {F : Fence} {n : Nat} (w : World) {ops : Array Oper} {rest : List Oper} {o : Oper} {a : Act} {Q : Exit → Act → World → Prop}
    (hg : o.guard = none) (s x : Operand) (hop : o.op = Op.call { callee := Callee.builtin Builtin.append, args := #[s, x], argTypes := #[26, 26] })
    (base : Nat) (v : Value) (k : Nat) (xs : List Value) (hs : a.eval s = v) (hown : w.ownsRow base 58 2 v k xs) (ad : Addr) (y : EN) (hx : a.eval x = .slice (some ad) 1 1)
    (hc : ∀ j u, y.cells[j]? = some u → w.cell? (ad.add j) = some u) (b2 : (k + 1) * 16 ≤ 140737488355328) (b3 : base ≤ w.heap.size)
    (hK : ∀ g cap w', w'.ownsRow base 58 2 (.slice (some ⟨g, 0, none⟩) (k + 1) cap) (k + 1) (xs ++ y.cells) → w.grownBy w' v.ownBlock → (v.ownBlock = some g ∨ g = w.heap.size) →
      wpListIn F n Try.prog ops Q rest (a.put o.dst (.slice (some ⟨g, 0, none⟩) (k + 1) cap)) w') :
    wpListIn F n Try.prog ops Q (o :: rest) a w := by
  refine wpListIn_plain hg fun K hK' => ?_
  obtain ⟨g, cap, w', hrun, r1, r2, r4⟩ := run_append_ent o.type hown hc b2 b3
  unfold Oper.wpIn
  refine ⟨?_, ?_⟩
  · simp [Oper.about, hop, resolve, Target.leads, Sem.run_pure]
  · rw [Oper.semAt_plain F _ _ (by rw [hop]; intro c hc'; cases hc')]
    simp [execOp, hop, resolve, invoke, builtin, hs, hx, hrun, Result.andThen]
    exact hK' _ _ (hK g cap w' r1 r2 r4)
set_option maxRecDepth 100000 in
set_option maxHeartbeats 4000000 in
theorem page_any (id : Int) (a : Option Addr) (c : Nat) (hs : List HS) (name : ByteArray) (w : World) (P : Hs w a hs.length c hs) :
    Calls Try.prog 9 #[.int .i64 id, .slice a hs.length c, .string name] w fun e w' => ∃ v, e = .returned v ∧ w'.ownsRow w.heap.size 58 2 v (ents id name hs).length (csP (ents id name hs)) ∧ Below w.heap.size w w' := by
  have HSM : Hid (hs.length * 64 ≤ 140737488355328) := P.small
  have HLE : Hid ((ents id name hs).length ≤ hs.length) := ents_len _ _ _
  have KN := fun W => entries_any id a hs.length c name W
  refine (callsIn_wide (n := 2)).1 ?_
  refine callsIn_of_wp_marks Try.func9 rfl trivial ?_
  simp only [Try.ntmps9, List.size_toArray, List.length_cons, List.length_nil, Nat.reduceAdd, Nat.reduceSub, Array.replicate_succ, Array.replicate_zero, List.push_toArray, List.append_toArray, List.nil_append, List.cons_append]
  gi_wp2_with (refine ⟨trivial, ?_⟩; gi_at_call 25; refine (callsIn_wide.2 (KN _)).mono ?_; rintro e w1 ⟨rfl, hw1⟩)
  rw [← hw1]
  obtain ⟨K1', Z1'⟩ := keepE_start hw1
  rw [World.size_alloc] at K1' Z1'
  have O1 : One w1 w.heap.size (.slice none 0 0) := (One.new w (.slice none 0 0) 26).below (K1'.below.mono (by simp))
  have B0 : Below w.heap.size w (w.alloc (.cells #[.slice none 0 0] 26)) := (Below.refl _ w).alloc (Nat.le_refl _) _
  have K1 : KeepE w (w.heap.size + 1) id (.slice a hs.length c) name w1 := ⟨B0.trans (K1'.below.mono (by simp)), K1'.id_, K1'.lst, K1'.nm⟩
  have Z1 : w1.heap.size = w.heap.size + 4 := by omega
  clear hw1 KN K1' Z1'
  refine range_turns (gf := 38) (lb := #[.pointer (some ⟨w.heap.size + 1 + 1, 0, none⟩), .pointer (some ⟨w.heap.size + 1 + 1 + 1, 0, none⟩), .pointer (some ⟨w.heap.size + 1, 0, none⟩)]) (by first | rfl | simp) (enters_of Try.func38 (by kernel_rfl) rfl)
    (entries_gives w (w.heap.size + 1) id a c hs name w1 P) (Below.refl _ _) (fun _ => rfl)
    (fun k C W => k ≤ (ents id name hs).length ∧ Holds 58 2 W w.heap.size w.heap.size C k (csP ((ents id name hs).take k)) ∧ KeepE w (w.heap.size + 1) id (.slice a hs.length c) name W)
    (fun c C W => False)
    (fun k C A h => h.2.2)
    (fun k C A B h s => ⟨h.1, h.2.1.same s (by omega), h.2.2.same s (by omega) (by omega)⟩)
    (fun c C A B h s => h)
    ⟨Nat.zero_le _, Holds.nil _ _ _ _ _ O1, K1⟩
    (fun x a' W => a' = { tmps := #[.int .i64 id, .slice a hs.length c, .string name, undef, undef, undef, .slice none 0 0, .pointer (some ⟨w.heap.size, 0, none⟩), .int .i64 x.1, .int .i64 x.2, .int .i64 id, .slice a hs.length c, .string name, .func (.func 38) #[] #[.pointer (some ⟨w.heap.size + 1 + 1, 0, none⟩), .pointer (some ⟨w.heap.size + 1 + 1 + 1, 0, none⟩), .pointer (some ⟨w.heap.size + 1, 0, none⟩)], .int .i64 x.1, .int .i64 x.2, undef, undef, undef, undef, undef, undef, undef], defers := [] })
    (fun x a' A o h => h)
    ?assign ?body ?done ?stop
  case assign =>
    rintro k ⟨p, q⟩ W C K hi hs' hK
    dsimp only [encE]
    gi_wp2
    exact hK _ _ rfl (Below.refl _ _)
  case body =>
    rintro k ⟨xp, xo⟩ C a' W ⟨hk, ⟨v, O2, R2, H2⟩, K2⟩ rfl hx hs' hC
    obtain ⟨o0, o1, oz⟩ := _root_.id O2
    have hk' : k < (ents id name hs).length := (List.getElem?_eq_some_iff.1 hx).1
    have hT1 : csP ((ents id name hs).take (k + 1)) = csP ((ents id name hs).take k) ++ (EN.mk xp xo).cells := by
      rw [List.take_add_one, hx]
      exact csP_snoc _ _
    obtain ⟨ys, hys⟩ : ∃ ys, csP ((ents id name hs).take k) = ys := ⟨_, rfl⟩
    rw [hys] at R2 hT1
    have HY : Hid (csP ((ents id name hs).take (k + 1)) = ys ++ (EN.mk xp xo).cells) := hT1
    have HB : Hid (Below w.heap.size w W) := K2.below
    have HK1 : Hid (k < (ents id name hs).length) := hk'
    clear hT1 hys hx hk'
    gi_wp2_with (gi_at_builtin; refine wpListIn_append_ent _ rfl _ _ rfl w.heap.size _ _ _ rfl (R2.alloc _) ⟨W.heap.size, 0, none⟩ ⟨xp, xo⟩ rfl (fun j u hj => by rw [add_plain, Nat.zero_add]; exact row_cell (World.alloc_heap_new W (.cells #[.int .i64 xp, .int .i64 xo] 58)) j u (by simpa [EN.cells] using hj)) (by have := HSM.out; have := HLE.out; have := HK1.out; omega) (by have := HB.out.size; simp; omega) ?_; intro g cap w2 r1 r2 r3; obtain ⟨O3, H3, T3, hne⟩ := Holds.grow (n := w1.heap.size) O2 H2 (fun b hb => by have := hC b hb; omega) (by omega) (by omega) r1 r2 r3; obtain ⟨p0, p1, pz⟩ := _root_.id O3)
    have hnew : ∀ q, q < W.heap.size → some q ≠ v.ownBlock → q ≠ w.heap.size → (w2.setCell ⟨w.heap.size, 0, none⟩ (.slice (some ⟨g, 0, none⟩) (k + 1) cap)).heap[q]? = W.heap[q]? := fun q h1 h2 h3 => (set_far rfl h3 _ _).trans ((r2.block q (by simp; omega) h2).trans (Below.heap_alloc _ _ _ h1))
    have B3 : Below w.heap.size w (w2.setCell ⟨w.heap.size, 0, none⟩ (.slice (some ⟨g, 0, none⟩) (k + 1) cap)) :=
      ((HB.out.alloc HB.out.size _).grown r2 (by have := HB.out.size; simp; omega) (fun j e => (R2.lt j e).1)).setCell (p := ⟨w.heap.size, 0, none⟩) (by simp) _
    have far : ∀ q, w.heap.size < q → q < w.heap.size + 4 → (w2.setCell ⟨w.heap.size, 0, none⟩ (.slice (some ⟨g, 0, none⟩) (k + 1) cap)).heap[q]? = W.heap[q]? := fun q h1 h2 => hnew q (by omega) (fun e => by have := hC q ((H2 q).2 e.symm); omega) (by omega)
    have hsz : W.heap.size ≤ (w2.setCell ⟨w.heap.size, 0, none⟩ (.slice (some ⟨g, 0, none⟩) (k + 1) cap)).heap.size := by have := r2.size; simp [World.setCell] at this ⊢; omega
    exact ⟨fun k => k = g, ⟨by have := HK1.out; omega, by rw [HY.out]; exact H3, B3, K2.id_.of_block (far _ (by omega) (by omega)) hsz, K2.lst.of_block (far _ (by omega) (by omega)) hsz, K2.nm.of_block (far _ (by omega) (by omega)) hsz⟩, by rw [← Z1]; exact T3⟩
  case done =>
    rintro C W ⟨hk, ⟨v, O2, R2, H2⟩, K2⟩ hK hC
    obtain ⟨o0, o1, oz⟩ := _root_.id O2
    rw [List.take_length] at R2
    have HR : Hid (W.ownsRow w.heap.size 58 2 v (ents id name hs).length (csP (ents id name hs))) := R2
    clear R2
    gi_wp2
    refine ⟨by simp, .inl ⟨_, _, rfl, run_takeDeferred hK, ?_⟩⟩
    refine ⟨_, results_tmp rfl _ _ _, _, rfl, owns_of_block HR.out (fun g hg => World.putObj_heap_other (fun e => ?_)), below_putObj K2.below (by omega) _⟩
    have := hC g ((H2 g).2 hg)
    omega
  case stop =>
    rintro c C W h _ _
    exact h.elim
end Go.Proofs.Ytcacocndcfbmaaa
