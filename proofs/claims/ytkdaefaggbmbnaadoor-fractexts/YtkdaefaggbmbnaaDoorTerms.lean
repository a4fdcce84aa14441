/-
  What Terms returns: a new list that holds the fraction's terms.
-/
import Derived.Test.YtkdaefaggbmbnaaDoorFloor
import Derived.Maps.AppendAt
import Derived.RangeFuncBox
namespace Go.Proofs.YtkdaefaggbmbnaaDoor
open Go.ChangeShapes Go.WideShapes Go.ChangeAt Go.RowKit Go.Shelf
set_option linter.unusedVariables false
set_option linter.unusedSimpArgs false
attribute [local go_sem] Oper.semAt_some

theorem info2 : (Tryd.prog.info? 2).map (fun i => (i.zero, i.size, i.bytes)) = some (some (.int .i64 0), 1, 8) := by kernel_rfl

/-- An append's result lies in the row that it was handed, or in a new block. -/
theorem append_where {P : Program} (w : World) (base : Nat) (t ty e : TypeId) (i : TypeInfo) (z : Value) (size bytes : Nat) (ht : P.underlying t = some (.slice e)) (hi : P.info? e = some i) (hz : i.zero = some z)
    (hsize : i.size = size) (hby : i.bytes = bytes) (hzs : z.cells.size = size) (hsz : 0 < size)
    (v : Value) (n : Nat) (xs : List Value) (hown : w.ownsRow base e size v n xs)
    (a : Addr) (m c : Nat) (news : List Value) (hl : news.length = m * size) (hnews : ∀ j u, news[j]? = some u → w.cell? (a.add j) = some u) (h1 : ∀ u ∈ news, u.oneCell' = true) (hm : 0 < m)
    (h63 : n + m ≤ maxLen) (hbytes : (n + m) * bytes ≤ 140737488355328)
    (v' : Value) (w' : World) (hrun : (Builtin.append_ #[t, t] ty #[v, .slice (some a) m c]).run P w = .ok v' w') : v'.ownBlock = v.ownBlock ∨ v'.ownBlock = some w.heap.size := by
  subst hsize
  subst hby
  have hsmall : n + m ≤ 9223372036854775807 := by simp only [maxLen] at h63; omega
  rcases hown.2 with ⟨rfl, rfl⟩ | ⟨g, cap, cur, rfl, hbg, hg, hnc, hcm, hcs, htake⟩
  · have hr := run_append_nil (P := P) w t ty e i z ht hi hz a m c news hl hnews (by omega) (by omega) (by have hb := hbytes; simp only [Nat.zero_add] at hb; omega)
    rw [hr] at hrun
    cases hrun
    exact .inr rfl
  · by_cases hroom : n + m ≤ cap
    · have hfit : n * i.size + news.length ≤ cur.size := by rw [hl, hcs, ← Nat.add_mul]; exact Nat.mul_le_mul_right _ hroom
      have hr := run_append_room (P := P) w t ty e i ht hi g n cap cur hg a m c news hl hnews h1 hroom hfit
      rw [hr] at hrun
      cases hrun
      exact .inl rfl
    · have holds : ∀ j u, xs[j]? = some u → w.cell? ((⟨g, 0, none⟩ : Addr).add j) = some u := hown.cells (g := g) rfl
      have hr := run_append_grow (P := P) w t ty e i z ht hi hz ⟨g, 0, none⟩ n cap xs hown.1 holds a m c news hl hnews (by omega) (by omega) (growslice_fits (by omega) hbytes)
      rw [hr] at hrun
      cases hrun
      exact .inr rfl

/-- One more element at the end of a list of numbers that is one's own, within a fence. -/
theorem append_one {F : Fence} {n : Nat} (w : World) {ops : Array Oper} {rest : List Oper} {o : Oper} {a : Act} {Q : Exit → Act → World → Prop}
    (hg : o.guard = none) (s x : Operand) (hop : o.op = Op.call { callee := Callee.builtin Builtin.append, args := #[s, x], argTypes := #[48, 48] })
    (base : Nat) (v : Value) (k : Nat) (xs : List Value) (hs : a.eval s = v) (hown : w.ownsRow base 2 1 v k xs) (ad : Addr) (y : Value) (hx : a.eval x = .slice (some ad) 1 1)
    (hc : ∀ j u, [y][j]? = some u → w.cell? (ad.add j) = some u) (hy : y.oneCell' = true) (b2 : (k + 1) * 8 ≤ 140737488355328) (b3 : base ≤ w.heap.size)
    (hK : ∀ g cap w', w'.ownsRow base 2 1 (.slice (some ⟨g, 0, none⟩) (k + 1) cap) (k + 1) (xs ++ [y]) → w.grownBy w' v.ownBlock → (v.ownBlock = some g ∨ g = w.heap.size) →
      wpListIn F n Tryd.prog ops Q rest (a.put o.dst (.slice (some ⟨g, 0, none⟩) (k + 1) cap)) w') :
    wpListIn F n Tryd.prog ops Q (o :: rest) a w := by
  obtain ⟨i0, hi, hz0, hz1, hz2⟩ := info_parts info2
  refine wpListIn_plain hg fun K hK' => ?_
  have h63 : k + 1 ≤ maxLen := by unfold maxLen; omega
  obtain ⟨v', w', hrun, r1, r2, r3⟩ := run_append_own (P := Tryd.prog) w base 48 o.type 2 i0 (.int .i64 0) 1 8 Tryd.underlying48 hi hz0 hz1 hz2 rfl (by decide) v k xs hown ad 1 1 [y] rfl hc (by simpa using hy) h63 b2 b3
  have r4 := append_where (P := Tryd.prog) w base 48 o.type 2 i0 (.int .i64 0) 1 8 Tryd.underlying48 hi hz0 hz1 hz2 rfl (by decide) v k xs hown ad 1 1 [y] rfl hc (by simpa using hy) (by decide) h63 b2 v' w' hrun
  obtain ⟨g, cap, rfl⟩ := ownsRow_succ r1
  unfold Oper.wpIn
  refine ⟨?_, ?_⟩
  · simp [Oper.about, hop, resolve, Target.leads, Sem.run_pure]
  · rw [Oper.semAt_plain F _ _ (by rw [hop]; intro c hc'; cases hc')]
    simp [execOp, hop, resolve, invoke, builtin, hs, hx, hrun, Result.andThen]
    refine hK' _ _ (hK g cap w' r1 r2 ?_)
    rcases r4 with h | h
    · exact .inl h.symm
    · exact .inr (by simpa [Value.ownBlock] using h)

theorem owns_of_block {w w' : World} {base : Nat} {e : TypeId} {size : Nat} {v : Value} {n : Nat} {xs : List Value} (h : w.ownsRow base e size v n xs) (hb : ∀ g, v.ownBlock = some g → w'.heap[g]? = w.heap[g]?) : w'.ownsRow base e size v n xs := by
  refine ⟨h.1, ?_⟩
  rcases h.2 with hn | ⟨g, cap, cur, rfl, hg, hh, r⟩
  · exact .inl hn
  · exact .inr ⟨g, cap, cur, rfl, hg, (hb g rfl).trans hh, r⟩

abbrev iv (x : Int) : Value := .int .i64 x

/-- The variable in block b holds a list of its own, ys; C: the block where they lie. -/
def Holds (W : World) (b base : Nat) (C : Nat → Prop) (ys : List Int) : Prop :=
  ∃ v, One W b v ∧ W.ownsRow base 2 1 v ys.length (ys.map iv) ∧ (∀ g, C g ↔ v.ownBlock = some g)
theorem Holds.same {W W' : World} {n b base : Nat} {C : Nat → Prop} {ys : List Int} (h : Holds W b base C ys) (s : Same n C W W') (hb : b < n) : Holds W' b base C ys := by
  obtain ⟨v, h1, h2, h3⟩ := h
  exact ⟨v, h1.same s hb, owns_of_block h2 (fun g hg => s.block g (h2.lt g hg).2 (.inr ((h3 g).2 hg))), h3⟩
theorem Holds.nil (W : World) (base b : Nat) (h : One W b (.slice none 0 0)) : Holds W b base (fun _ => False) [] :=
  ⟨_, h, World.ownsRow_nil W base 2 1, fun g => ⟨fun h => h.elim, fun h => by cases h⟩⟩

/-- The append done and stored back: what holds behind it. -/
theorem Holds.grow {W W1 : World} {n b base : Nat} {C : Nat → Prop} {ys : List Int} {v : Value} {g cap : Nat} {y : Int} {tmp : Obj}
    (h1 : One W b v) (h3 : ∀ g, C g ↔ v.ownBlock = some g) (hC : ∀ g, C g → n ≤ g ∧ g < W.heap.size) (hb : b < n) (hn : n ≤ W.heap.size)
    (r1 : W1.ownsRow base 2 1 (.slice (some ⟨g, 0, none⟩) (ys.length + 1) cap) (ys.length + 1) (ys.map iv ++ [iv y]))
    (r2 : (W.alloc tmp).grownBy W1 v.ownBlock) (r3 : v.ownBlock = some g ∨ g = (W.alloc tmp).heap.size) :
    One W1 b v ∧ Holds (W1.setCell ⟨b, 0, none⟩ (.slice (some ⟨g, 0, none⟩) (ys.length + 1) cap)) b base (fun k => k = g) (ys ++ [y]) ∧
      Turn n C (fun k => k = g) W (W1.setCell ⟨b, 0, none⟩ (.slice (some ⟨g, 0, none⟩) (ys.length + 1) cap)) ∧ b ≠ g := by
  have hsz : W.heap.size + 1 ≤ W1.heap.size := by have := r2.size; simpa using this
  have hbv : some b ≠ v.ownBlock := fun e => by have := (hC b ((h3 b).2 e.symm)).1; omega
  have hbg : b ≠ g := by
    rcases r3 with h | h
    · have := (hC g ((h3 g).2 h)).1; omega
    · have := h1.2.2; simp at h; omega
  have hgs : g < W1.heap.size := (r1.lt g rfl).2
  have o1 : One W1 b v := h1.of_block ((r2.block b (by have := h1.2.2; simp; omega) hbv).trans (Below.heap_alloc _ _ _ h1.2.2)) (by omega)
  refine ⟨o1, ⟨_, o1.set _, ?_, fun k => ⟨fun e => by rw [e]; rfl, fun e => (show g = k by simpa [Value.ownBlock] using e).symm⟩⟩, ⟨?_, ?_, ?_⟩, hbg⟩
  · rw [List.length_append, List.map_append]
    exact owns_of_block r1 (fun g' hg' => Below.heap_setCell _ _ _ _ (fun e => hbg (((show g = g' by simpa [Value.ownBlock] using hg').trans e).symm)))
  · simp [World.setCell]; omega
  · intro k h5 h6 h7
    refine (Below.heap_setCell _ _ _ _ (by show k ≠ b; omega)).trans ((r2.block k (by simp; omega) (fun e => h7 ((h3 k).2 e.symm))).trans (Below.heap_alloc _ _ _ h6))
  · rintro k rfl
    refine ⟨?_, by simpa [World.setCell] using hgs, ?_⟩
    · rcases r3 with h | h
      · exact (hC k ((h3 k).2 h)).1
      · simp at h; omega
    · rcases r3 with h | h
      · exact .inl ((h3 k).2 h)
      · right; simp at h; omega

theorem tms_length (n d : Int) (hd : 0 ≤ d) : (tms n d).length ≤ d.toNat := by
  have key : ∀ (f : Nat) (n d : Int), (tmsF f n d).length ≤ f := by
    intro f
    induction f with
    | zero => intro n d; simp [tmsF]
    | succ f ih => intro n d; simp only [tmsF]; split <;> simp; exact ih _ _
  exact key _ _ _

set_option maxRecDepth 100000 in
set_option maxHeartbeats 2000000 in
theorem terms_list (n d : Int) (w : World) (hn : I64 n) (hd : 0 ≤ d) (hd' : d ≤ 2147483647) :
    Calls Tryd.prog 25 #[fr n d] w fun e w' => ∃ v, e = .returned v ∧ w'.ownsRow w.heap.size 2 1 v (tms n d).length ((tms n d).map fun s => iv s.1) ∧ Below w.heap.size w w' := by
  have hlen := tms_length n d hd
  refine (callsIn_wide (n := 2)).1 ?_
  refine callsIn_of_wp_marks Tryd.func25 rfl trivial ?_
  simp only [Tryd.ntmps25, List.size_toArray, List.length_cons, List.length_nil, Nat.reduceAdd, Nat.reduceSub, Array.replicate_succ, Array.replicate_zero, List.push_toArray, List.append_toArray, List.nil_append, List.cons_append]
  gi_wp2_with (refine ⟨trivial, ?_⟩; gi_at_call 35; refine (callsIn_wide.2 (terms_mk _ _ _)).mono ?_; rintro e w1 ⟨rfl, T1, hb1, Z1⟩)
  replace T1 := T1.at (k' := w.heap.size + 1 + 1) (by simp)
  have O1 : One w1 (w.heap.size + 1) (.slice none 0 0) := ((One.new _ _ _).at (by simp)).below hb1
  have B1 : Below w.heap.size w w1 := (((Below.refl _ w).alloc (Nat.le_refl _) _).alloc (by simp) _).trans (hb1.mono (by simp; omega))
  replace Z1 : w1.heap.size = w.heap.size + 3 := by rw [Z1]; simp
  clear hb1
  refine range_turns (gf := 47) (lb := #[.pointer (some ⟨w.heap.size + 1 + 1, 0, none⟩)]) rfl (enters_of Tryd.func47 (by kernel_rfl) rfl)
    (terms_gives n d (w.heap.size + 1 + 1) w1 hn hd (by omega) T1) (Below.refl _ _) (fun _ => rfl)
    (fun k C W => k ≤ (tms n d).length ∧ Holds W (w.heap.size + 1) w.heap.size C (((tms n d).take k).map Prod.fst) ∧ Below w.heap.size w W)
    (fun c C W => False)
    (fun k C A B h s => ⟨h.1, h.2.1.same s (by omega), Below.same h.2.2 s (by omega) (Nat.le_refl _)⟩)
    (fun c C A B h s => h)
    ⟨Nat.zero_le _, Holds.nil _ _ _ O1, B1⟩
    (fun x a' W => ∃ c, w1.heap.size + 2 ≤ c ∧ Two W c (.int .i64 x.1) (.bool x.2) ∧ a' = { tmps := #[fr n d, .pointer (some ⟨w.heap.size, 0, none⟩), .slice none 0 0, .pointer (some ⟨w.heap.size + 1, 0, none⟩), .pointer (some ⟨c, 0, none⟩), fr n d, .func (.func 47) #[] #[.pointer (some ⟨w.heap.size + 1 + 1, 0, none⟩)], stp x.1 x.2, undef, undef, undef, undef, undef, undef], defers := [] })
    (fun x a' A o h => by obtain ⟨c, hc, hT, e⟩ := h; exact ⟨c, hc, hT.putObj (by omega) o, e⟩)
    ?assign ?body ?done ?stop
  case assign =>
    intro k x W C K hi hs hK
    gi_wp2
    exact hK _ _ ⟨W.heap.size, hs, Two.new _ _ _ _, rfl⟩ ((Below.refl _ W).alloc (Nat.le_refl _) _)
  case body =>
    rintro k x C a' W ⟨hk, ⟨v, O2, R2, H2⟩, B2⟩ ⟨c, hc, T2, rfl⟩ hx hs hC
    obtain ⟨q0, q1, f0, f1, z⟩ := id T2
    obtain ⟨o0, o1, oz⟩ := id O2
    have hk' : k < (tms n d).length := (List.getElem?_eq_some_iff.1 hx).1
    have hL : (((tms n d).take k).map Prod.fst).length = k := by simp; omega
    have hT1 : ((tms n d).take (k + 1)).map Prod.fst = ((tms n d).take k).map Prod.fst ++ [x.1] := by
      rw [List.take_add_one, hx]; simp
    obtain ⟨ys, hys⟩ : ∃ ys, ((tms n d).take k).map Prod.fst = ys := ⟨_, rfl⟩
    rw [hys] at hL R2 hT1
    have HY : Hid (((tms n d).take (k + 1)).map Prod.fst = ys ++ [x.1]) := hT1
    have HB : Hid (Below w.heap.size w W) := B2
    clear hT1 hys hx B2
    gi_wp2_with (gi_at_builtin; refine append_one _ rfl _ _ rfl w.heap.size _ _ _ rfl (R2.alloc _) ⟨W.heap.size, 0, none⟩ (.int .i64 x.1) rfl (cell_one_new _ _ _) (by simp [Value.oneCell']) (by omega) (by have := HB.out.size; simp; omega) ?_; intro g cap w2 r1 r2 r3; obtain ⟨O3, H3, T3, hne⟩ := Holds.grow (n := w1.heap.size) (y := x.1) O2 H2 (fun b hb => by have := hC b hb; omega) (by omega) (by omega) r1 r2 r3; obtain ⟨p0, p1, pz⟩ := id O3)
    have B3 : Below w.heap.size w (w2.setCell ⟨w.heap.size + 1, 0, none⟩ (.slice (some ⟨g, 0, none⟩) (k + 1) cap)) :=
      ((HB.out.alloc HB.out.size _).grown r2 (by have := HB.out.size; simp; omega) (fun j e => (R2.lt j e).1)).setCell (p := ⟨w.heap.size + 1, 0, none⟩) (by simp) _
    rw [hL] at H3 T3
    exact ⟨fun k => k = g, ⟨by omega, by rw [HY.out]; exact H3, B3⟩, T3⟩
  case done =>
    rintro C W ⟨hk, ⟨v, O2, R2, H2⟩, B2⟩ hK hC
    obtain ⟨o0, o1, oz⟩ := id O2
    have HR : Hid (W.ownsRow w.heap.size 2 1 v (tms n d).length ((tms n d).map fun s => iv s.1)) := by
      show W.ownsRow w.heap.size 2 1 v (tms n d).length ((tms n d).map fun s => iv s.1)
      simpa [List.take_length, Function.comp_def] using R2
    clear R2
    gi_wp2
    refine ⟨by simp, .inl ⟨_, _, rfl, run_takeDeferred hK, ?_⟩⟩
    refine ⟨_, results_tmp rfl _ _ _, _, rfl, owns_of_block HR.out (fun g hg => World.putObj_heap_other (fun e => ?_)), below_putObj B2 (by omega) _⟩
    have := hC g ((H2 g).2 hg)
    omega
  case stop =>
    rintro c C W h _ _
    exact h.elim

end Go.Proofs.YtkdaefaggbmbnaaDoor
