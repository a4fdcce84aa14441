/-
  Peers, and the document's.
-/
import Derived.Test.YtacefkchhcpgaaaH9
import Derived.Test.YtacefkchhcpgaaaH4
import Derived.Test.YtacefkchhcpgaaaH17
import Derived.Maps.AppendAt
import Derived.RangeFuncBox
namespace Go.Proofs.Ytacefkchhcpgaaa
open Go.ChangeShapes Go.WideShapes Go.ChangeAt Go.RowKit Go.Shelf
set_option linter.unusedVariables false
set_option linter.unusedSimpArgs false
attribute [local go_sem] Oper.semAt_some

theorem info3 : (Try.prog.info? 3).map (fun i => (i.zero, i.size, i.bytes)) = some (some (.int .i64 0), 1, 8) := by kernel_rfl
/-- An append's result lies in the row that it was handed, or in a new block. -/
theorem append_where {P : Program} (w : World) (base : Nat) (t ty e : TypeId) (i : TypeInfo) (z : Value) (size bytes : Nat) (ht : P.underlying t = some (.slice e)) (hi : P.info? e = some i) (hz : i.zero = some z)
    (hsize : i.size = size) (hby : i.bytes = bytes) (hzs : z.cells.size = size) (hsz : 0 < size)
    (v : Value) (n : Nat) (xs : List Value) (hown : w.ownsRow base e size v n xs)
    (a : Addr) (m c : Nat) (news : List Value) (hl : news.length = m * size) (hnews : ∀ j u, news[j]? = some u → w.cell? (a.add j) = some u) (h1 : ∀ u ∈ news, u.oneCell' = true) (hm : 0 < m)
    (h63 : n + m ≤ maxLen) (hbytes : (n + m) * bytes ≤ 140737488355328)
    (v' : Value) (w' : World) (hrun : (Builtin.append_ #[t, t] ty #[v, .slice (some a) m c]).run P w = .ok v' w') : v'.ownBlock = v.ownBlock ∨ v'.ownBlock = some w.heap.size := by
  subst hsize
  subst hby
  have hsmall : n + m ≤ 9223372036854775807 := by simp only [maxLen] at h63; omega
  rcases hown.2 with ⟨rfl, rfl⟩ | ⟨g, cap, cur, rfl, hbg, hg, hnc, hcm, hcs, htake⟩
  · have hr := run_append_nil (P := P) w t ty e i z ht hi hz a m c news hl hnews (by omega) (by omega) (by have hb := hbytes; simp only [Nat.zero_add] at hb; omega)
    rw [hr] at hrun
    cases hrun
    exact .inr rfl
  · by_cases hroom : n + m ≤ cap
    · have hfit : n * i.size + news.length ≤ cur.size := by rw [hl, hcs, ← Nat.add_mul]; exact Nat.mul_le_mul_right _ hroom
      have hr := run_append_room (P := P) w t ty e i ht hi g n cap cur hg a m c news hl hnews h1 hroom hfit
      rw [hr] at hrun
      cases hrun
      exact .inl rfl
    · have holds : ∀ j u, xs[j]? = some u → w.cell? ((⟨g, 0, none⟩ : Addr).add j) = some u := hown.cells (g := g) rfl
      have hr := run_append_grow (P := P) w t ty e i z ht hi hz ⟨g, 0, none⟩ n cap xs hown.1 holds a m c news hl hnews (by omega) (by omega) (growslice_fits (by omega) hbytes)
      rw [hr] at hrun
      cases hrun
      exact .inr rfl
abbrev iv (x : Int) : Value := .int .i64 x
theorem run_append_int {W : World} (ty : TypeId) {base : Nat} {v : Value} {k : Nat} {xs : List Value} (hown : W.ownsRow base 3 1 v k xs) {ad : Addr} {y : Int}
    (hc : ∀ j u, [iv y][j]? = some u → W.cell? (ad.add j) = some u) (b2 : (k + 1) * 8 ≤ 140737488355328) (b3 : base ≤ W.heap.size) :
    ∃ g cap w', (Builtin.append_ #[39, 39] ty #[v, .slice (some ad) 1 1]).run Try.prog W = .ok (.slice (some ⟨g, 0, none⟩) (k + 1) cap) w' ∧ w'.ownsRow base 3 1 (.slice (some ⟨g, 0, none⟩) (k + 1) cap) (k + 1) (xs ++ [iv y]) ∧ W.grownBy w' v.ownBlock ∧ (v.ownBlock = some g ∨ g = W.heap.size) := by
  obtain ⟨i0, hi, hz0, hz1, hz2⟩ := info_parts info3
  have h63 : k + 1 ≤ maxLen := by unfold maxLen; omega
  obtain ⟨v', w', hrun, r1, r2, r3⟩ := run_append_own (P := Try.prog) W base 39 ty 3 i0 (.int .i64 0) 1 8 Try.underlying39 hi hz0 hz1 hz2 rfl (by decide) v k xs hown ad 1 1 [iv y] rfl hc (by simp [Value.oneCell']) h63 b2 b3
  have r4 := append_where (P := Try.prog) W base 39 ty 3 i0 (.int .i64 0) 1 8 Try.underlying39 hi hz0 hz1 hz2 rfl (by decide) v k xs hown ad 1 1 [iv y] rfl hc (by simp [Value.oneCell']) (by decide) h63 b2 v' w' hrun
  rcases r1.2 with ⟨_, h0⟩ | ⟨g, cap, cur, rfl, q⟩
  · omega
  · refine ⟨g, cap, w', hrun, r1, r2, ?_⟩
    rcases r4 with h | h
    · exact .inl h.symm
    · exact .inr (by simpa [Value.ownBlock] using h)
theorem wpListIn_append_int {F : Fence} {n : Nat} (w : World) {ops : Array Oper} {rest : List Oper} {o : Oper} {a : Act} {Q : Exit → Act → World → Prop}
    (hg : o.guard = none) (s x : Operand) (hop : o.op = Op.call { callee := Callee.builtin Builtin.append, args := #[s, x], argTypes := #[39, 39] })
    (base : Nat) (v : Value) (k : Nat) (xs : List Value) (hs : a.eval s = v) (hown : w.ownsRow base 3 1 v k xs) (ad : Addr) (y : Int) (hx : a.eval x = .slice (some ad) 1 1)
    (hc : ∀ j u, [iv y][j]? = some u → w.cell? (ad.add j) = some u) (b2 : (k + 1) * 8 ≤ 140737488355328) (b3 : base ≤ w.heap.size)
    (hK : ∀ g cap w', w'.ownsRow base 3 1 (.slice (some ⟨g, 0, none⟩) (k + 1) cap) (k + 1) (xs ++ [iv y]) → w.grownBy w' v.ownBlock → (v.ownBlock = some g ∨ g = w.heap.size) →
      wpListIn F n Try.prog ops Q rest (a.put o.dst (.slice (some ⟨g, 0, none⟩) (k + 1) cap)) w') :
    wpListIn F n Try.prog ops Q (o :: rest) a w := by
  refine wpListIn_plain hg fun K hK' => ?_
  obtain ⟨g, cap, w', hrun, r1, r2, r4⟩ := run_append_int o.type hown hc b2 b3
  unfold Oper.wpIn
  refine ⟨?_, ?_⟩
  · simp [Oper.about, hop, resolve, Target.leads, Sem.run_pure]
  · rw [Oper.semAt_plain F _ _ (by rw [hop]; intro c hc'; cases hc')]
    simp [execOp, hop, resolve, invoke, builtin, hs, hx, hrun, Result.andThen]
    exact hK' _ _ (hK g cap w' r1 r2 r4)
theorem wpList_append_int {w : World} {ops : Array Oper} {rest : List Oper} {o : Oper} {a : Act} {Q : Exit → Act → World → Prop}
    (hg : o.guard = none) (s x : Operand) (hop : o.op = Op.call { callee := Callee.builtin Builtin.append, args := #[s, x], argTypes := #[39, 39] })
    (base : Nat) (v : Value) (k : Nat) (xs : List Value) (hs : a.eval s = v) (hown : w.ownsRow base 3 1 v k xs) (ad : Addr) (y : Int) (hx : a.eval x = .slice (some ad) 1 1)
    (hc : ∀ j u, [iv y][j]? = some u → w.cell? (ad.add j) = some u) (b2 : (k + 1) * 8 ≤ 140737488355328) (b3 : base ≤ w.heap.size)
    (hK : ∀ g cap w', w'.ownsRow base 3 1 (.slice (some ⟨g, 0, none⟩) (k + 1) cap) (k + 1) (xs ++ [iv y]) → w.grownBy w' v.ownBlock →
      wpList Try.prog ops Q rest (a.put o.dst (.slice (some ⟨g, 0, none⟩) (k + 1) cap)) w') :
    wpList Try.prog ops Q (o :: rest) a w := by
  refine wpList_plain hg fun K hK' => ?_
  obtain ⟨g, cap, w', hrun, r1, r2, r4⟩ := run_append_int o.type hown hc b2 b3
  unfold Oper.wp
  simp [execOp, hop, resolve, invoke, builtin, hs, hx, hrun, Result.andThen]
  exact hK' _ _ (hK g cap w' r1 r2)
theorem owns_of_block {w w' : World} {base : Nat} {e : TypeId} {size : Nat} {v : Value} {n : Nat} {xs : List Value} (h : w.ownsRow base e size v n xs) (hb : ∀ g, v.ownBlock = some g → w'.heap[g]? = w.heap[g]?) : w'.ownsRow base e size v n xs := by
  refine ⟨h.1, ?_⟩
  rcases h.2 with hn | ⟨g, cap, cur, rfl, hg, hh, r⟩
  · exact .inl hn
  · exact .inr ⟨g, cap, cur, rfl, hg, (hb g rfl).trans hh, r⟩
/-- The variable in block b holds a list of its own, of n elements whose cells are xs; C: the block where they lie. -/
def Holds (e size : Nat) (W : World) (b base : Nat) (C : Nat → Prop) (n : Nat) (xs : List Value) : Prop :=
  ∃ v, One W b v ∧ W.ownsRow base e size v n xs ∧ (∀ g, C g ↔ v.ownBlock = some g)
theorem Holds.same {e size : Nat} {W W' : World} {n b base : Nat} {C : Nat → Prop} {m : Nat} {xs : List Value} (h : Holds e size W b base C m xs) (s : Same n C W W') (hb : b < n) : Holds e size W' b base C m xs := by
  obtain ⟨v, h1, h2, h3⟩ := h
  exact ⟨v, h1.same s hb, owns_of_block h2 (fun g hg => s.block g (h2.lt g hg).2 (.inr ((h3 g).2 hg))), h3⟩
theorem Holds.nil (e size : Nat) (W : World) (base b : Nat) (h : One W b (.slice none 0 0)) : Holds e size W b base (fun _ => False) 0 [] :=
  ⟨_, h, World.ownsRow_nil W base e size, fun g => ⟨fun h => h.elim, fun h => by cases h⟩⟩
/-- The append done and stored back: what holds behind it. -/
theorem Holds.grow {e size : Nat} {W W1 : World} {n b base : Nat} {C : Nat → Prop} {m : Nat} {ys : List Value} {v : Value} {g cap : Nat} {tmp : Obj}
    (h1 : One W b v) (h3 : ∀ g, C g ↔ v.ownBlock = some g) (hC : ∀ g, C g → n ≤ g ∧ g < W.heap.size) (hb : b < n) (hn : n ≤ W.heap.size)
    (r1 : W1.ownsRow base e size (.slice (some ⟨g, 0, none⟩) (m + 1) cap) (m + 1) ys)
    (r2 : (W.alloc tmp).grownBy W1 v.ownBlock) (r3 : v.ownBlock = some g ∨ g = (W.alloc tmp).heap.size) :
    One W1 b v ∧ Holds e size (W1.setCell ⟨b, 0, none⟩ (.slice (some ⟨g, 0, none⟩) (m + 1) cap)) b base (fun k => k = g) (m + 1) ys ∧
      Turn n C (fun k => k = g) W (W1.setCell ⟨b, 0, none⟩ (.slice (some ⟨g, 0, none⟩) (m + 1) cap)) ∧ b ≠ g := by
  have hsz : W.heap.size + 1 ≤ W1.heap.size := by have := r2.size; simpa using this
  have hbv : some b ≠ v.ownBlock := fun e => by have := (hC b ((h3 b).2 e.symm)).1; omega
  have hbg : b ≠ g := by
    rcases r3 with h | h
    · have := (hC g ((h3 g).2 h)).1; omega
    · have := h1.2.2; simp at h; omega
  have hgs : g < W1.heap.size := (r1.lt g rfl).2
  have o1 : One W1 b v := h1.of_block ((r2.block b (by have := h1.2.2; simp; omega) hbv).trans (Below.heap_alloc _ _ _ h1.2.2)) (by omega)
  refine ⟨o1, ⟨_, o1.set _, ?_, fun k => ⟨fun e => by rw [e]; rfl, fun e => (show g = k by simpa [Value.ownBlock] using e).symm⟩⟩, ⟨?_, ?_, ?_⟩, hbg⟩
  · exact owns_of_block r1 (fun g' hg' => Below.heap_setCell _ _ _ _ (fun e => hbg (((show g = g' by simpa [Value.ownBlock] using hg').trans e).symm)))
  · simp [World.setCell]; omega
  · intro k h5 h6 h7
    refine (Below.heap_setCell _ _ _ _ (by show k ≠ b; omega)).trans ((r2.block k (by simp; omega) (fun e => h7 ((h3 k).2 e.symm))).trans (Below.heap_alloc _ _ _ h6))
  · rintro k rfl
    refine ⟨?_, by simpa [World.setCell] using hgs, ?_⟩
    · rcases r3 with h | h
      · exact (hC k ((h3 k).2 h)).1
      · simp at h; omega
    · rcases r3 with h | h
      · exact .inl ((h3 k).2 h)
      · right; simp at h; omega
set_option maxRecDepth 100000 in
set_option maxHeartbeats 4000000 in
theorem peers_any (a : Option Addr) (c : Nat) (hs : List HS) (w : World) (P : Hs w a hs.length c hs) :
    Calls Try.prog 26 #[.slice a hs.length c] w fun e w' => ∃ v, e = .returned v ∧ w'.ownsRow w.heap.size 3 1 v hs.length (hs.map fun h => iv h.peer) ∧ Below w.heap.size w w' := by
  have HSM : Hid (hs.length * 64 ≤ 140737488355328) := P.small
  obtain ⟨rs, R, PK⟩ := P.mem
  have ee := peers_same R.size (fun i hi => by obtain ⟨a, c, e, _⟩ := PK i hi; rw [e]; rfl)
  have HRS : Hid (rs.length = hs.length) := R.size
  have hmap : (hs.map fun h => iv h.peer) = rs.map fun r => iv r.peer := by
    have := congrArg (List.map iv) ee
    simpa [List.map_map, Function.comp_def] using this.symm
  rw [hmap]
  clear PK P ee hmap
  have KN := fun W => toward_any a hs.length c W
  refine (callsIn_wide (n := 2)).1 ?_
  refine callsIn_of_wp_marks Try.func26 rfl trivial ?_
  simp only [Try.ntmps26, List.size_toArray, List.length_cons, List.length_nil, Nat.reduceAdd, Nat.reduceSub, Array.replicate_succ, Array.replicate_zero, List.push_toArray, List.append_toArray, List.nil_append, List.cons_append]
  gi_wp2_with (refine ⟨trivial, ?_⟩; gi_at_call 46; refine (callsIn_wide.2 (KN _)).mono ?_; rintro e w1 ⟨rfl, hw1⟩)
  rw [← hw1]
  have hb1 : Below (w.alloc (.cells #[.slice none 0 0] 39)).heap.size (w.alloc (.cells #[.slice none 0 0] 39)) w1 := by rw [hw1]; exact (Below.refl _ _).alloc (Nat.le_refl _) _
  have O1 : One w1 w.heap.size (.slice none 0 0) := (One.new _ _ _).below hb1
  have B1 : Below w.heap.size w w1 := ((Below.refl _ w).alloc (Nat.le_refl _) _).trans (hb1.mono (by simp))
  have Z1 : w1.heap.size = w.heap.size + 2 := by rw [hw1]; simp
  have K1 : KeepI w (w.heap.size + 1) (.slice a hs.length c) w1 := by
    refine ⟨?_, B1⟩
    rw [hw1]
    exact (One.new _ _ _).at (by simp)
  clear hb1 hw1 KN
  refine range_turns (gf := 62) (lb := #[.pointer (some ⟨w.heap.size + 1, 0, none⟩)]) (by first | rfl | simp) (enters_of Try.func62 (by kernel_rfl) rfl)
    (toward_gives w (w.heap.size + 1) a hs.length c rs w1 R) (Below.refl _ _) (fun _ => rfl)
    (fun k C W => k ≤ rs.length ∧ Holds 3 1 W w.heap.size w.heap.size C k ((rs.take k).map fun r => iv r.peer) ∧ KeepI w (w.heap.size + 1) (.slice a hs.length c) W)
    (fun c C W => False)
    (fun k C A h => h.2.2)
    (fun k C A B h s => ⟨h.1, h.2.1.same s (by omega), h.2.2.ptr.same s (by omega), Below.same h.2.2.below s (by omega) (Nat.le_refl _)⟩)
    (fun c C A B h s => h)
    ⟨Nat.zero_le _, Holds.nil _ _ _ _ _ O1, K1⟩
    (fun x a' W => a' = { tmps := #[.slice a hs.length c, undef, .slice none 0 0, .pointer (some ⟨w.heap.size, 0, none⟩), .int .i64 x.peer, .slice a hs.length c, .func (.func 62) #[] #[.pointer (some ⟨w.heap.size + 1, 0, none⟩)], .int .i64 x.peer, x.val, undef, undef, undef, undef, undef], defers := [] })
    (fun x a' A o h => h)
    ?assign ?body ?done ?stop
  case assign =>
    rintro k ⟨peer, boot, life, la, ln, lc, pend, miss⟩ W C K hi hs' hK
    dsimp only [encT, HR.val]
    gi_wp2
    exact hK _ _ rfl (Below.refl _ _)
  case body =>
    rintro k x C a' W ⟨hk, ⟨v, O2, R2, H2⟩, K2⟩ rfl hx hs' hC
    obtain ⟨o0, o1, oz⟩ := id O2
    have hk' : k < rs.length := (List.getElem?_eq_some_iff.1 hx).1
    have hT1 : (rs.take (k + 1)).map (fun r => iv r.peer) = (rs.take k).map (fun r => iv r.peer) ++ [iv x.peer] := by
      rw [List.take_add_one, hx]; simp
    obtain ⟨ys, hys⟩ : ∃ ys, (rs.take k).map (fun r => iv r.peer) = ys := ⟨_, rfl⟩
    rw [hys] at R2 hT1
    have HY : Hid ((rs.take (k + 1)).map (fun r => iv r.peer) = ys ++ [iv x.peer]) := hT1
    have HB : Hid (Below w.heap.size w W) := K2.below
    have HK1 : Hid (k < rs.length) := hk'
    clear hT1 hys hx hk'
    gi_wp2_with (gi_at_builtin; refine wpListIn_append_int _ rfl _ _ rfl w.heap.size _ _ _ rfl (R2.alloc _) ⟨W.heap.size, 0, none⟩ x.peer rfl (cell_one_new _ _ _) (by have := HSM.out; have := HRS.out; have := HK1.out; omega) (by have := HB.out.size; simp; omega) ?_; intro g cap w2 r1 r2 r3; obtain ⟨O3, H3, T3, hne⟩ := Holds.grow (n := w1.heap.size) O2 H2 (fun b hb => by have := hC b hb; omega) (by omega) (by omega) r1 r2 r3; obtain ⟨p0, p1, pz⟩ := id O3)
    have B3 : Below w.heap.size w (w2.setCell ⟨w.heap.size, 0, none⟩ (.slice (some ⟨g, 0, none⟩) (k + 1) cap)) :=
      ((HB.out.alloc HB.out.size _).grown r2 (by have := HB.out.size; simp; omega) (fun j e => (R2.lt j e).1)).setCell (p := ⟨w.heap.size, 0, none⟩) (by simp) _
    have F3 : One (w2.setCell ⟨w.heap.size, 0, none⟩ (.slice (some ⟨g, 0, none⟩) (k + 1) cap)) (w.heap.size + 1) (.slice a hs.length c) := by
      have z := K2.ptr.2.2
      have nv : some (w.heap.size + 1) ≠ v.ownBlock := fun e => by have := hC (w.heap.size + 1) ((H2 _).2 e.symm); omega
      exact (K2.ptr.of_block ((r2.block _ (by simp; omega) nv).trans (Below.heap_alloc _ _ _ z)) (by have := r2.size; simp at this; omega)).far (by omega) _
    exact ⟨fun k => k = g, ⟨by have := HK1.out; omega, by rw [HY.out]; exact H3, F3, B3⟩, T3⟩
  case done =>
    rintro C W ⟨hk, ⟨v, O2, R2, H2⟩, K2⟩ hK hC
    obtain ⟨o0, o1, oz⟩ := id O2
    have HR : Hid (W.ownsRow w.heap.size 3 1 v hs.length (rs.map fun r => iv r.peer)) := by
      show W.ownsRow w.heap.size 3 1 v hs.length (rs.map fun r => iv r.peer)
      rw [List.take_length] at R2
      rw [← HRS.out]
      exact R2
    clear R2
    gi_wp2
    refine ⟨by simp, .inl ⟨_, _, rfl, run_takeDeferred hK, ?_⟩⟩
    refine ⟨_, results_tmp rfl _ _ _, _, rfl, owns_of_block HR.out (fun g hg => World.putObj_heap_other (fun e => ?_)), below_putObj K2.below (by omega) _⟩
    have := hC g ((H2 g).2 hg)
    omega
  case stop =>
    rintro c C W h _ _
    exact h.elim
set_option maxRecDepth 100000 in
set_option maxHeartbeats 4000000 in
theorem rpeers_any (A : Option Addr) (c : Nat) (hs : List HS) (w : World) (P : Hs w A hs.length c hs) :
    Calls Try.prog 27 #[.slice A hs.length c] w fun e w' => ∃ v, e = .returned v ∧ w'.ownsRow w.heap.size 3 1 v hs.length (hs.map fun h => iv h.peer) ∧ Below w.heap.size w w' := by
  have HSM : Hid (hs.length * 64 ≤ 140737488355328) := P.small
  go_enter Try.func27, Try.ntmps27
  go_wp2
  go_loopg [3, 4] hs.length (fun gk v3 v4 wr => ∃ (i : Nat) (vv : Value), vv = v3 ∧ v4 = .int .i64 (i : Int) ∧ i + gk = hs.length ∧ wr.ownsRow w.heap.size 3 1 vv i ((hs.take i).map fun h => iv h.peer) ∧ Below w.heap.size w wr)
  case atStart => exact ⟨0, _, rfl, by first | rfl | go_num, by omega, World.ownsRow_nil _ _ 3 1, Below.refl _ _⟩
  case round =>
    obtain ⟨i, vv, rfl, rfl, hgk, O, B⟩ := hrel
    by_cases hi : i < hs.length
    case pos =>
      have HI : Hid (i < hs.length) := hi
      have hiI : (i : Int) < (hs.length : Int) := by omega
      have hwr : IntKind.i64.wrap ((i : Int) + 1) = (i : Int) + 1 := by rw [IntKind.wrap_i64]; have := HSM.out; omega
      obtain ⟨g, o, a1, c1, rfl, k10, r10, R10⟩ := P.at i hi
      have hT1 : (hs.take (i + 1)).map (fun h => iv h.peer) = (hs.take i).map (fun h => iv h.peer) ++ [iv (hs.getD i HS.z).peer] := by
        rw [take_next (z := HS.z) hi, List.map_append]; rfl
      obtain ⟨x, e1⟩ : ∃ x, hs.getD i HS.z = x := ⟨_, rfl⟩
      rw [e1] at r10 hT1
      obtain ⟨ys, hys⟩ : ∃ ys, (hs.take i).map (fun h => iv h.peer) = ys := ⟨_, rfl⟩
      rw [hys] at O hT1
      have HY : Hid ((hs.take (i + 1)).map (fun h => iv h.peer) = ys ++ [iv x.peer]) := hT1
      clear e1 R10 hT1 hys
      have kc : wr.cell? ⟨g, o + i * 6, none⟩ = some (.int .i64 x.peer) := peer_cell (range_later r10 k10 B)
      clear r10
      go_wp2_with ((with_reducible show wpList _ _ _ (Oper.mk _ (Op.call { callee := Callee.builtin Builtin.append, args := _, argTypes := #[39, 39] }) _ _ _ _ :: _) _ _); go_must (refine wpList_append_int rfl _ _ rfl w.heap.size _ _ _ rfl (O.alloc _) ⟨wr.heap.size, 0, none⟩ x.peer rfl (cell_one_new _ _ _) (by have := HSM.out; have := HI.out; omega) (by have := B.size; simp; omega) ?_; intro g3 cap3 w3 O3 r3))
      have B3 : Below w.heap.size w w3 := (B.alloc B.size _).grown r3 (by have := B.size; simp; omega) (fun j e => (O.lt j e).1)
      go_roundg (gk - 1)
      case measure => omega
      case rel => exact ⟨i + 1, _, rfl, by first | rfl | go_num, by omega, by rw [HY.out]; exact O3, B3⟩
    case neg =>
      have hiI : ¬ (i : Int) < (hs.length : Int) := by omega
      have hin : i = hs.length := by omega
      subst hin
      rw [List.take_length] at O
      go_wp2
      go_ret
      exact ⟨_, rfl, O, B⟩
end Go.Proofs.Ytacefkchhcpgaaa
