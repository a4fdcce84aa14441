/-
  What Salvage returns.
-/
import Derived.Test.YteadkfcbgphgnaaDoorGrow
import Derived.Stop.RegionWithIn
import Derived.BigQuiet
import Derived.RangeFuncCalls
namespace Go.Proofs.YteadkfcbgphgnaaDoor
open Go.ChangeShapes Go.WideShapes Go.ChangeAt Go.RowKit Go.Shelf
set_option linter.unusedVariables false
set_option linter.unusedSimpArgs false
attribute [local go_sem] Oper.semAt_some

/-- One more body at the end of a list of one's own, as one step of a region that draws its order. -/
theorem append_stepB {F : Fence} {n : Nat} (w : World) {ops : Array Oper} {o : Oper} {a : Act} {K : Act → World → Prop} {Q : Exit → Act → World → Prop} {E : Prop}
    (hg : o.guard = none) (s x : Operand) (hop : o.op = Op.call { callee := Callee.builtin Builtin.append, args := #[s, x], argTypes := #[33, 33] })
    (base : Nat) (v : Value) (k : Nat) (xs : List Value) (hs : a.eval s = v) (hown : w.ownsRow base 22 1 v k xs) (ad : Addr) (y : Value) (hx : a.eval x = .slice (some ad) 1 1)
    (hc : ∀ j u, [y][j]? = some u → w.cell? (ad.add j) = some u) (hy : y.oneCell' = true) (b2 : (k + 1) * 24 ≤ 140737488355328) (b3 : base ≤ w.heap.size)
    (hK : ∀ g cap w', w'.ownsRow base 22 1 (.slice (some ⟨g, 0, none⟩) (k + 1) cap) (k + 1) (xs ++ [y]) → w.grownBy w' v.ownBlock → (v.ownBlock = some g ∨ g = w.heap.size) →
      K (a.put o.dst (.slice (some ⟨g, 0, none⟩) (k + 1) cap)) w') :
    if Region.wanted o (yielded ops a.tmps) = true then Oper.wpIn F n Tryd.prog o a w K Q else E := by
  have hw : Region.wanted o (yielded ops a.tmps) = true := by simp [Region.wanted, hg]
  rw [if_pos hw]
  obtain ⟨i0, hi, hz0, hz1, hz2⟩ := info_parts info22
  have h63 : k + 1 ≤ maxLen := by unfold maxLen; omega
  obtain ⟨v', w', hrun, r1, r2, r3⟩ := run_append_own (P := Tryd.prog) w base 33 o.type 22 i0 (.slice none 0 0) 1 24 Tryd.underlying33 hi hz0 hz1 hz2 rfl (by decide) v k xs hown ad 1 1 [y] rfl hc (by simpa using hy) h63 b2 b3
  have r4 := append_where (P := Tryd.prog) w base 33 o.type 22 i0 (.slice none 0 0) 1 24 Tryd.underlying33 hi hz0 hz1 hz2 rfl (by decide) v k xs hown ad 1 1 [y] rfl hc (by simpa using hy) (by decide) h63 b2 v' w' hrun
  obtain ⟨g, cap, rfl⟩ := ownsRow_succ r1
  unfold Oper.wpIn
  refine ⟨?_, ?_⟩
  · simp [Oper.about, hop, resolve, Target.leads, Sem.run_pure]
  · rw [Oper.semAt_plain F _ _ (by rw [hop]; intro c hc'; cases hc')]
    simp [execOp, hop, resolve, invoke, builtin, hs, hx, hrun, Result.andThen]
    refine hK g cap w' r1 r2 ?_
    rcases r4 with h | h
    · exact .inl h.symm
    · exact .inr (by simpa [Value.ownBlock] using h)
/-- One more place at the end of a list of one's own, within a fence. -/
theorem append_oneP {F : Fence} {n : Nat} (w : World) {ops : Array Oper} {rest : List Oper} {o : Oper} {a : Act} {Q : Exit → Act → World → Prop}
    (hg : o.guard = none) (s x : Operand) (hop : o.op = Op.call { callee := Callee.builtin Builtin.append, args := #[s, x], argTypes := #[44, 44] })
    (base : Nat) (v : Value) (k : Nat) (xs : List Value) (hs : a.eval s = v) (hown : w.ownsRow base 3 1 v k xs) (ad : Addr) (y : Value) (hx : a.eval x = .slice (some ad) 1 1)
    (hc : ∀ j u, [y][j]? = some u → w.cell? (ad.add j) = some u) (hy : y.oneCell' = true) (b2 : (k + 1) * 8 ≤ 140737488355328) (b3 : base ≤ w.heap.size)
    (hK : ∀ g cap w', w'.ownsRow base 3 1 (.slice (some ⟨g, 0, none⟩) (k + 1) cap) (k + 1) (xs ++ [y]) → w.grownBy w' v.ownBlock → (v.ownBlock = some g ∨ g = w.heap.size) →
      wpListIn F n Tryd.prog ops Q rest (a.put o.dst (.slice (some ⟨g, 0, none⟩) (k + 1) cap)) w') :
    wpListIn F n Tryd.prog ops Q (o :: rest) a w := by
  obtain ⟨i0, hi, hz0, hz1, hz2⟩ := info_parts info3
  refine wpListIn_plain hg fun K hK' => ?_
  have h63 : k + 1 ≤ maxLen := by unfold maxLen; omega
  obtain ⟨v', w', hrun, r1, r2, r3⟩ := run_append_own (P := Tryd.prog) w base 44 o.type 3 i0 (.int .i64 0) 1 8 Tryd.underlying44 hi hz0 hz1 hz2 rfl (by decide) v k xs hown ad 1 1 [y] rfl hc (by simpa using hy) h63 b2 b3
  have r4 := append_where (P := Tryd.prog) w base 44 o.type 3 i0 (.int .i64 0) 1 8 Tryd.underlying44 hi hz0 hz1 hz2 rfl (by decide) v k xs hown ad 1 1 [y] rfl hc (by simpa using hy) (by decide) h63 b2 v' w' hrun
  obtain ⟨g, cap, rfl⟩ := ownsRow_succ r1
  unfold Oper.wpIn
  refine ⟨?_, ?_⟩
  · simp [Oper.about, hop, resolve, Target.leads, Sem.run_pure]
  · rw [Oper.semAt_plain F _ _ (by rw [hop]; intro c hc'; cases hc')]
    simp [execOp, hop, resolve, invoke, builtin, hs, hx, hrun, Result.andThen]
    refine hK' _ _ (hK g cap w' r1 r2 ?_)
    rcases r4 with h | h
    · exact .inl h.symm
    · exact .inr (by simpa [Value.ownBlock] using h)
theorem whole_mk (a : Option Addr) (len cap : Nat) (w : World) :
    Calls Tryd.prog 27 #[.slice a len cap] w fun e w' => e = .returned (.func (.func 29) #[] #[.pointer (some ⟨w.heap.size, 0, none⟩)]) ∧ One w' w.heap.size (.slice a len cap) ∧ Below w.heap.size w w' ∧ w'.heap.size = w.heap.size + 1 :=
  (whole_any a len cap w).mono fun e w' h => by
    obtain ⟨he, rfl⟩ := h
    exact ⟨he, One.new _ _ _, (Below.refl _ w).alloc (Nat.le_refl _) _, by simp⟩
theorem owns_base {w : World} {base base' : Nat} {e : TypeId} {size : Nat} {v : Value} {n : Nat} {xs : List Value} (h : w.ownsRow base e size v n xs) (hb : base' ≤ base) : w.ownsRow base' e size v n xs := by
  refine ⟨h.1, ?_⟩
  rcases h.2 with hn | ⟨g, cap, cur, rfl, hg, r⟩
  · exact .inl hn
  · exact .inr ⟨g, cap, cur, rfl, by omega, r⟩
theorem OwnL.base {base base' : Nat} {w : World} : ∀ {vs : List Value} {bs : List (List Int)}, OwnL base w vs bs → base' ≤ base → OwnL base' w vs bs
  | [], [], _, _ => trivial
  | _ :: _, _ :: _, k, hb => ⟨k.1.at hb, OwnL.base k.2 hb⟩
theorem Below.undrew {w w' : World} (h : Below w.drew.heap.size w.drew w') : Below w.heap.size w w' := ⟨h.os, h.tape, h.output, h.size, h.block⟩

/-- What Salvage tells stands there: a frame at that place. -/
theorem sal_at : ∀ (f at0 : Nat) (l : List Int) (q : List Int × Nat), l.length ≤ f → q ∈ salF f at0 l → at0 ≤ q.2 ∧ opn (l.drop (q.2 - at0)) = .ok (q.1, q.1.length + 8)
  | 0, at0, l, q, _, h => by simp [salF] at h
  | f + 1, at0, l, q, hf, h => by
    by_cases hl : l = []
    · subst hl; rw [salF_nil] at h; cases h
    · have hpos : 0 < l.length := List.length_pos_iff.2 hl
      cases ho : opn l with
      | error e =>
        rw [salF_err hl ho] at h
        obtain ⟨h1, h2⟩ := sal_at f (at0 + 1) (l.drop 1) q (by rw [List.length_drop]; omega) h
        refine ⟨by omega, ?_⟩
        rw [List.drop_drop, show 1 + (q.2 - (at0 + 1)) = q.2 - at0 by omega] at h2
        exact h2
      | ok r =>
        obtain ⟨bd, n⟩ := r
        have hp := opn_pos ho
        rw [salF_ok ho] at h
        rcases List.mem_cons.1 h with rfl | h
        · refine ⟨Nat.le_refl _, ?_⟩
          simp only [Nat.sub_self, List.drop_zero]
          rw [ho, ← body_len ho]
        · obtain ⟨h1, h2⟩ := sal_at f (at0 + n) (l.drop n) q (by rw [List.length_drop]; omega) h
          refine ⟨by omega, ?_⟩
          rw [List.drop_drop, show n + (q.2 - (at0 + n)) = q.2 - at0 by omega] at h2
          exact h2
theorem sal_len : ∀ (f at0 : Nat) (l : List Int), 8 * (salF f at0 l).length ≤ l.length
  | 0, at0, l => by simp [salF]
  | f + 1, at0, l => by
    by_cases hl : l = []
    · subst hl; rw [salF_nil]; simp
    · cases ho : opn l with
      | error e =>
        rw [salF_err hl ho]
        have := sal_len f (at0 + 1) (l.drop 1)
        rw [List.length_drop] at this
        omega
      | ok r =>
        obtain ⟨bd, n⟩ := r
        have hp := opn_pos ho
        rw [salF_ok ho, List.length_cons]
        have := sal_len f (at0 + n) (l.drop n)
        rw [List.length_drop] at this
        omega
theorem frame_body {l bd : List Int} {n : Nat} (h : opn l = .ok (bd, n)) : ((l.take n).drop 4).take (n - 8) = bd := by
  unfold opn at h
  split at h
  · cases h
  split at h
  · cases h
  split at h
  · cases h
  split at h
  · cases h
  simp only [Except.ok.injEq, Prod.mk.injEq] at h
  obtain ⟨rfl, rfl⟩ := h
  rw [List.drop_take, List.take_take]
  congr 1
  omega

set_option maxRecDepth 100000 in
set_option maxHeartbeats 8000000 in
theorem salvage_any (a : Option Addr) (len cap0 : Nat) (zs : List Int) (w : World) (R : Row .u8 w a len cap0 zs) (ht : Tab w) (hl : len ≤ 1099511627776) (hcap : cap0 ≤ 9223372036854775807) :
    Calls Tryd.prog 20 #[.slice a len cap0] w fun e w' => (∃ v u, e = .returned (.tuple #[v, u]) ∧ Bods w.heap.size w' v ((salF len 0 zs).map (·.1)) ∧ Pls w.heap.size w' u ((salF len 0 zs).map (·.2))) ∧ Below w.heap.size w w' := by
  have hsz := R.size
  have hle := R.le
  have hxl := sal_len len 0 zs
  obtain ⟨b, off, ha⟩ : ∃ b off, 0 < len → a = some ⟨b, off, none⟩ := by
    by_cases h : 0 < len
    · obtain ⟨b, off, e, _, _⟩ := R.mem.resolve_left (by omega)
      exact ⟨b, off, fun _ => e⟩
    · exact ⟨0, 0, fun h' => absurd h' h⟩
  have KW := whole_mk a len cap0
  refine (callsIn_wide (n := 2)).1 ?_
  refine callsIn_of_wp_marks Tryd.func20 rfl trivial ?_
  simp only [Tryd.ntmps20, List.size_toArray, List.length_cons, List.length_nil, Nat.reduceAdd, Nat.reduceSub, Array.replicate_succ, Array.replicate_zero, List.push_toArray, List.append_toArray, List.nil_append, List.cons_append]
  gi_wp2_with (refine ⟨trivial, ?_⟩; gi_at_call 27; refine (callsIn_wide.2 (KW _)).mono ?_; rintro e w1 ⟨rfl, OF0, hb0, Z1⟩)
  have sz1 : w1.heap.size = w.heap.size + 3 := by rw [Z1]; simp
  have O1 : One w1 w.heap.size (.slice none 0 0) := One.below (One.alloc (One.new _ _ _) _) hb0
  have O2 : One w1 (w.heap.size + 1) (.slice none 0 0) := One.below (One.at (One.new _ _ _) (by simp)) hb0
  have OF : One w1 (w.heap.size + 1 + 1) (.slice a len cap0) := OF0.at (by simp)
  have B1 : Below w.heap.size w w1 := (((Below.refl _ w).alloc (Nat.le_refl _) _).alloc (by simp) _).trans (hb0.mono (by simp; omega))
  clear hb0 Z1 OF0 KW
  refine range_turns (gf := 29) (lb := #[.pointer (some ⟨w.heap.size + 1 + 1, 0, none⟩)]) (by first | rfl | simp) (enters_of Tryd.func29 (by kernel_rfl) rfl)
    (whole_gives a b off len cap0 zs (w.heap.size + 1 + 1) w1 hl hcap ha) (Below.refl _ _) (fun _ => rfl)
    (fun k C W => k ≤ (salF len 0 zs).length ∧ (∃ v u vs, HS W w.heap.size (w.heap.size + 1) w1.heap.size C (((salF len 0 zs).take k).map (·.1)) (((salF len 0 zs).take k).map (·.2)) v u vs) ∧ One W (w.heap.size + 1 + 1) (.slice a len cap0) ∧ Below w.heap.size w W)
    (fun c C W => False)
    (fun k C A h => ⟨R.below h.2.2.2, h.2.2.1, ht.below h.2.2.2⟩)
    (fun k C A B h s => ⟨h.1, (let ⟨v, u, vs, hs⟩ := h.2.1; ⟨v, u, vs, hs.same s (by omega) (by omega)⟩), h.2.2.1.same s (by omega), Below.same h.2.2.2 s (by omega) (Nat.le_refl _)⟩)
    (fun c C A B h s => h)
    ⟨Nat.zero_le _, ⟨_, _, _, HS.nil _ _ _ _ O1 O2⟩, OF, B1⟩
    (fun q a' W => a' = { tmps := #[.slice a len cap0, undef, .slice none 0 0, .slice none 0 0, .pointer (some ⟨w.heap.size, 0, none⟩), .pointer (some ⟨w.heap.size + 1, 0, none⟩), .int .i64 (q.2 : Int), .slice (some ⟨b, off + q.2, none⟩) (q.1.length + 8) (cap0 - q.2), .slice a len cap0, .func (.func 29) #[] #[.pointer (some ⟨w.heap.size + 1 + 1, 0, none⟩)], .int .i64 (q.2 : Int), .slice (some ⟨b, off + q.2, none⟩) (q.1.length + 8) (cap0 - q.2), undef, undef, undef, undef, undef, undef, undef, undef, undef, undef, undef], defers := [] })
    (fun q a' A o h => h)
    ?assign ?body ?done ?stop
  case assign =>
    intro k q W C K hi hs hK
    gi_wp2
    exact hK _ _ rfl (Below.refl _ _)
  case body =>
    rintro k q C a' W ⟨hk, ⟨v, u, vs, H2⟩, OF2, B2⟩ rfl hx hs hC
    have hk' : k < (salF len 0 zs).length := (List.getElem?_eq_some_iff.1 hx).1
    have hT1 : (salF len 0 zs).take (k + 1) = (salF len 0 zs).take k ++ [q] := by rw [List.take_add_one, hx]; rfl
    obtain ⟨hq1, hq2⟩ := sal_at len 0 zs q (by omega) (List.mem_of_getElem? hx)
    rw [Nat.sub_zero] at hq2
    have hqp := opn_pos hq2
    rw [List.length_drop] at hqp
    obtain rfl := ha (by omega)
    have FR := (R.below B2).part q.2 (q.2 + (q.1.length + 8)) (by omega) (by omega)
    rw [add_plain, show q.2 + (q.1.length + 8) - q.2 = q.1.length + 8 by omega] at FR
    obtain ⟨bd, hbd⟩ : ∃ bd, q.1 = bd := ⟨_, rfl⟩
    obtain ⟨p, hp⟩ : ∃ p, q.2 = p := ⟨_, rfl⟩
    have hfb := frame_body hq2
    have KB := fun X' (R' : Row .u8 X' (some ⟨b, off + q.2, none⟩) (q.1.length + 8) (cap0 - q.2) ((zs.drop q.2).take (q.1.length + 8))) => bodyIn_any b (off + q.2) (q.1.length + 8) (cap0 - q.2) _ X' R' (by omega) (by omega) (by omega)
    rw [hfb, hbd, hp] at KB
    rw [hbd, hp] at FR
    have HT1 : Hid ((salF len 0 zs).take (k + 1) = (salF len 0 zs).take k ++ [(bd, p)]) := by show _ = _; rw [hT1, ← hbd, ← hp]
    rw [hbd, hp]
    have hlk : ((salF len 0 zs).take k).length = k := by rw [List.length_take]; omega
    obtain ⟨bs, hbs⟩ : ∃ bs, ((salF len 0 zs).take k).map (·.1) = bs := ⟨_, rfl⟩
    obtain ⟨ps, hps⟩ : ∃ ps, ((salF len 0 zs).take k).map (·.2) = ps := ⟨_, rfl⟩
    have hbl : bs.length ≤ len := by rw [← hbs, List.length_map]; omega
    have hpl : ps.length ≤ len := by rw [← hps, List.length_map]; omega
    have HBS : Hid (((salF len 0 zs).take (k + 1)).map (·.1) = bs ++ [bd]) := by show _ = _; rw [HT1.out, List.map_append, hbs]; rfl
    have HPS : Hid (((salF len 0 zs).take (k + 1)).map (·.2) = ps ++ [p]) := by show _ = _; rw [HT1.out, List.map_append, hps]; rfl
    rw [hbs, hps] at H2
    have hl24 : (bs.length + 1) * 24 ≤ 140737488355328 := by omega
    have hl8 : (ps.length + 1) * 8 ≤ 140737488355328 := by omega
    obtain ⟨N, hN⟩ : ∃ N, w1.heap.size = N := ⟨_, rfl⟩
    rw [hN] at H2 hs hC
    have hNw : N = w.heap.size + 3 := by omega
    have hNW : N ≤ W.heap.size := by omega
    have hb1 : w.heap.size < N := by omega
    have hb2 : w.heap.size + 1 < N := by omega
    have hne : w.heap.size ≠ w.heap.size + 1 := by omega
    have hCA : ∀ g, C g → g < W.heap.size := fun g hg => (hC g hg).2
    obtain ⟨o0, o1, oz⟩ := id H2.o1
    have HBW : Hid (Below w.heap.size w W) := B2
    have HOF : Hid (One W (w.heap.size + 1 + 1) (.slice (some ⟨b, off, none⟩) len cap0)) := OF2
    clear hq1 hq2 hqp hfb hT1 hlk hbs hps hx B2 OF2
    gi_wp2
    refine wpIn_region_any (by kernel_rfl) ?_
    change wpAnyIn _ _ _ _ _ _ _ _ _ (World.drew _)
    refine wpAnyIn_ready (rs := [0, 1]) (by kernel_rfl) (by simp) ?_
    refine AllReadyIn.cons rfl (fun K hK => ?_) ?_
    · go_simp
      refine hK _ _ ?_
      clear hK K
      refine wpAnyIn_ready (rs := [1]) (by kernel_rfl) (by simp) ?_
      refine AllReadyIn.cons rfl (fun K hK => ?_) ?_
      · go_simp
        refine hK _ _ ?_
        clear hK K
        refine wpAnyIn_ready (rs := [2]) (by kernel_rfl) (by simp) ?_
        refine AllReadyIn.cons rfl (fun K hK => ?_) ?_
        · go_simp
          refine ⟨trivial, ?_⟩
          refine (CallsIn.inRound _ (callsIn_wide.2 (KB _ (FR.drew)))).mono ?_
          rintro e V2 ⟨x, rfl, hox0, hb0⟩
          have hb := Below.undrew hb0
          have hox : Own W.heap.size V2 x bd := hox0
          obtain ⟨xa, xc, rfl⟩ := own_len hox
          obtain ⟨u0, u1, uz⟩ := id (H2.o1.below hb)
          refine hK _ _ ?_
          clear hK K hb0 hox0
          refine wpAnyIn_ready (rs := [3]) (by kernel_rfl) (by simp) ?_
          refine AllReadyIn.cons rfl (fun K hK => ?_) ?_
          · go_simp
            refine hK _ _ ?_
            clear hK K
            refine wpAnyIn_ready (rs := [4]) (by kernel_rfl) (by simp) ?_
            refine AllReadyIn.cons rfl (fun K hK => ?_) ?_
            · refine append_stepB _ rfl _ _ rfl N _ _ _ rfl ((H2.below hb).rv.alloc _) ⟨V2.heap.size, 0, none⟩ (.slice xa bd.length xc) rfl (cell_one_new _ _ _) (by simp [Value.oneCell']) hl24 (by have := hb.size; simp; omega) ?_
              intro g cap W5 r1 r2 r3
              have O5 := (HS.bod (H2.below hb) hb hox hNW hb1 hb2 hne hCA r1 r2 r3).1
              obtain ⟨p0, p1, pz⟩ := id O5
              refine hK _ _ ?_
              clear hK K
              refine wpAnyIn_ready (rs := [5]) (by kernel_rfl) (by simp) ?_
              refine AllReadyIn.cons rfl (fun K hK => ?_) ?_
              · go_simp
                refine hK _ _ ?_
                clear hK K
                refine wpAnyIn_done (by kernel_rfl) ?_ _
                obtain ⟨_, H6, T6⟩ := HS.bod (H2.below hb) hb hox hNW hb1 hb2 hne hCA r1 r2 r3
                have hvl : ∀ j, v.ownBlock = some j → w.heap.size ≤ j := fun j e => by have := (H2.rv.lt j e).1; omega
                have BV : Below w.heap.size w V2 := HBW.out.trans (hb.mono HBW.out.size)
                have B6 := ((BV.alloc BV.size (.cells #[.slice xa bd.length xc] 22)).grown r2 (by have := BV.size; simp; omega) hvl).setCell (p := ⟨w.heap.size, 0, none⟩) (Nat.le_refl _) (.slice (some ⟨g, 0, none⟩) (bs.length + 1) cap)
                have hvf : some (w.heap.size + 1 + 1) ≠ v.ownBlock := fun e => by have := (H2.rv.lt _ e.symm).1; omega
                have OF5 : One W5 (w.heap.size + 1 + 1) (.slice (some ⟨b, off, none⟩) len cap0) := (HOF.out.below hb).of_block ((r2.block _ (by have := (HOF.out.below hb).2.2; simp; omega) hvf).trans (Below.heap_alloc _ _ _ (HOF.out.below hb).2.2)) (by have := r2.size; simp at this; omega)
                have OF6 := OF5.of_block (W' := W5.setCell ⟨w.heap.size, 0, none⟩ (.slice (some ⟨g, 0, none⟩) (bs.length + 1) cap)) (Below.heap_setCell _ _ _ _ (by show w.heap.size + 1 + 1 ≠ w.heap.size; omega)) (by simp [World.setCell])
                obtain ⟨W6, hW6⟩ : ∃ W6, W5.setCell ⟨w.heap.size, 0, none⟩ (.slice (some ⟨g, 0, none⟩) (bs.length + 1) cap) = W6 := ⟨_, rfl⟩
                rw [hW6] at H6 T6 B6 OF6
                have hs6 := T6.size
                obtain ⟨y0, y1, yz⟩ := id H6.o2
                have RU : W6.ownsRow N 3 1 u ps.length (ps.map iv) := H6.pu
                clear r1 r2 r3 O5 p0 p1 pz u0 u1 uz hox hb OF5 BV
                gi_wp2_with (gi_at_builtin; refine append_oneP _ rfl _ _ rfl N _ _ _ rfl (RU.alloc _) ⟨W6.heap.size, 0, none⟩ (.int .i64 (p : Int)) rfl (cell_one_new _ _ _) (by simp [Value.oneCell']) hl8 (by simp; omega) ?_; intro g2 cap2 W7 s1 s2 s3; obtain ⟨O7, H7, T7⟩ := HS.pl H6 (by omega) hb1 hb2 hne s1 s2 s3; obtain ⟨x0, x1, xz⟩ := id O7)
                have hul : ∀ j, u.ownBlock = some j → w.heap.size ≤ j := fun j e => by have := (RU.lt j e).1; omega
                have huf : some (w.heap.size + 1 + 1) ≠ u.ownBlock := fun e => by have := (RU.lt _ e.symm).1; omega
                have B8 := ((B6.alloc B6.size (.cells #[.int .i64 (p : Int)] 3)).grown s2 (by have := B6.size; simp; omega) hul).setCell (p := ⟨w.heap.size + 1, 0, none⟩) (by simp) (.slice (some ⟨g2, 0, none⟩) (ps.length + 1) cap2)
                have OF7 : One W7 (w.heap.size + 1 + 1) (.slice (some ⟨b, off, none⟩) len cap0) := OF6.of_block ((s2.block _ (by have := OF6.2.2; simp; omega) huf).trans (Below.heap_alloc _ _ _ OF6.2.2)) (by have := s2.size; simp at this; omega)
                have OF8 := OF7.of_block (W' := W7.setCell ⟨w.heap.size + 1, 0, none⟩ (.slice (some ⟨g2, 0, none⟩) (ps.length + 1) cap2)) (Below.heap_setCell _ _ _ _ (by show w.heap.size + 1 + 1 ≠ w.heap.size + 1; omega)) (by simp [World.setCell])
                subst hN
                exact ⟨_, ⟨by omega, ⟨_, _, _, by rw [HBS.out, HPS.out]; exact H7⟩, OF8, B8⟩, T6.trans T7⟩
              exact AllReadyIn.nil
            exact AllReadyIn.nil
          exact AllReadyIn.nil
        exact AllReadyIn.nil
      exact AllReadyIn.nil
    refine AllReadyIn.cons rfl (fun K hK => ?_) ?_
    · go_simp
      refine hK _ _ ?_
      clear hK K
      refine wpAnyIn_ready (rs := [0, 2]) (by kernel_rfl) (by simp) ?_
      refine AllReadyIn.cons rfl (fun K hK => ?_) ?_
      · go_simp
        refine hK _ _ ?_
        clear hK K
        refine wpAnyIn_ready (rs := [2]) (by kernel_rfl) (by simp) ?_
        refine AllReadyIn.cons rfl (fun K hK => ?_) ?_
        · go_simp
          refine ⟨trivial, ?_⟩
          refine (CallsIn.inRound _ (callsIn_wide.2 (KB _ (FR.drew)))).mono ?_
          rintro e V2 ⟨x, rfl, hox0, hb0⟩
          have hb := Below.undrew hb0
          have hox : Own W.heap.size V2 x bd := hox0
          obtain ⟨xa, xc, rfl⟩ := own_len hox
          obtain ⟨u0, u1, uz⟩ := id (H2.o1.below hb)
          refine hK _ _ ?_
          clear hK K hb0 hox0
          refine wpAnyIn_ready (rs := [3]) (by kernel_rfl) (by simp) ?_
          refine AllReadyIn.cons rfl (fun K hK => ?_) ?_
          · go_simp
            refine hK _ _ ?_
            clear hK K
            refine wpAnyIn_ready (rs := [4]) (by kernel_rfl) (by simp) ?_
            refine AllReadyIn.cons rfl (fun K hK => ?_) ?_
            · refine append_stepB _ rfl _ _ rfl N _ _ _ rfl ((H2.below hb).rv.alloc _) ⟨V2.heap.size, 0, none⟩ (.slice xa bd.length xc) rfl (cell_one_new _ _ _) (by simp [Value.oneCell']) hl24 (by have := hb.size; simp; omega) ?_
              intro g cap W5 r1 r2 r3
              have O5 := (HS.bod (H2.below hb) hb hox hNW hb1 hb2 hne hCA r1 r2 r3).1
              obtain ⟨p0, p1, pz⟩ := id O5
              refine hK _ _ ?_
              clear hK K
              refine wpAnyIn_ready (rs := [5]) (by kernel_rfl) (by simp) ?_
              refine AllReadyIn.cons rfl (fun K hK => ?_) ?_
              · go_simp
                refine hK _ _ ?_
                clear hK K
                refine wpAnyIn_done (by kernel_rfl) ?_ _
                obtain ⟨_, H6, T6⟩ := HS.bod (H2.below hb) hb hox hNW hb1 hb2 hne hCA r1 r2 r3
                have hvl : ∀ j, v.ownBlock = some j → w.heap.size ≤ j := fun j e => by have := (H2.rv.lt j e).1; omega
                have BV : Below w.heap.size w V2 := HBW.out.trans (hb.mono HBW.out.size)
                have B6 := ((BV.alloc BV.size (.cells #[.slice xa bd.length xc] 22)).grown r2 (by have := BV.size; simp; omega) hvl).setCell (p := ⟨w.heap.size, 0, none⟩) (Nat.le_refl _) (.slice (some ⟨g, 0, none⟩) (bs.length + 1) cap)
                have hvf : some (w.heap.size + 1 + 1) ≠ v.ownBlock := fun e => by have := (H2.rv.lt _ e.symm).1; omega
                have OF5 : One W5 (w.heap.size + 1 + 1) (.slice (some ⟨b, off, none⟩) len cap0) := (HOF.out.below hb).of_block ((r2.block _ (by have := (HOF.out.below hb).2.2; simp; omega) hvf).trans (Below.heap_alloc _ _ _ (HOF.out.below hb).2.2)) (by have := r2.size; simp at this; omega)
                have OF6 := OF5.of_block (W' := W5.setCell ⟨w.heap.size, 0, none⟩ (.slice (some ⟨g, 0, none⟩) (bs.length + 1) cap)) (Below.heap_setCell _ _ _ _ (by show w.heap.size + 1 + 1 ≠ w.heap.size; omega)) (by simp [World.setCell])
                obtain ⟨W6, hW6⟩ : ∃ W6, W5.setCell ⟨w.heap.size, 0, none⟩ (.slice (some ⟨g, 0, none⟩) (bs.length + 1) cap) = W6 := ⟨_, rfl⟩
                rw [hW6] at H6 T6 B6 OF6
                have hs6 := T6.size
                obtain ⟨y0, y1, yz⟩ := id H6.o2
                have RU : W6.ownsRow N 3 1 u ps.length (ps.map iv) := H6.pu
                clear r1 r2 r3 O5 p0 p1 pz u0 u1 uz hox hb OF5 BV
                gi_wp2_with (gi_at_builtin; refine append_oneP _ rfl _ _ rfl N _ _ _ rfl (RU.alloc _) ⟨W6.heap.size, 0, none⟩ (.int .i64 (p : Int)) rfl (cell_one_new _ _ _) (by simp [Value.oneCell']) hl8 (by simp; omega) ?_; intro g2 cap2 W7 s1 s2 s3; obtain ⟨O7, H7, T7⟩ := HS.pl H6 (by omega) hb1 hb2 hne s1 s2 s3; obtain ⟨x0, x1, xz⟩ := id O7)
                have hul : ∀ j, u.ownBlock = some j → w.heap.size ≤ j := fun j e => by have := (RU.lt j e).1; omega
                have huf : some (w.heap.size + 1 + 1) ≠ u.ownBlock := fun e => by have := (RU.lt _ e.symm).1; omega
                have B8 := ((B6.alloc B6.size (.cells #[.int .i64 (p : Int)] 3)).grown s2 (by have := B6.size; simp; omega) hul).setCell (p := ⟨w.heap.size + 1, 0, none⟩) (by simp) (.slice (some ⟨g2, 0, none⟩) (ps.length + 1) cap2)
                have OF7 : One W7 (w.heap.size + 1 + 1) (.slice (some ⟨b, off, none⟩) len cap0) := OF6.of_block ((s2.block _ (by have := OF6.2.2; simp; omega) huf).trans (Below.heap_alloc _ _ _ OF6.2.2)) (by have := s2.size; simp at this; omega)
                have OF8 := OF7.of_block (W' := W7.setCell ⟨w.heap.size + 1, 0, none⟩ (.slice (some ⟨g2, 0, none⟩) (ps.length + 1) cap2)) (Below.heap_setCell _ _ _ _ (by show w.heap.size + 1 + 1 ≠ w.heap.size + 1; omega)) (by simp [World.setCell])
                subst hN
                exact ⟨_, ⟨by omega, ⟨_, _, _, by rw [HBS.out, HPS.out]; exact H7⟩, OF8, B8⟩, T6.trans T7⟩
              exact AllReadyIn.nil
            exact AllReadyIn.nil
          exact AllReadyIn.nil
        exact AllReadyIn.nil
      refine AllReadyIn.cons rfl (fun K hK => ?_) ?_
      · go_simp
        refine ⟨trivial, ?_⟩
        refine (CallsIn.inRound _ (callsIn_wide.2 (KB _ (FR.drew)))).mono ?_
        rintro e V2 ⟨x, rfl, hox0, hb0⟩
        have hb := Below.undrew hb0
        have hox : Own W.heap.size V2 x bd := hox0
        obtain ⟨xa, xc, rfl⟩ := own_len hox
        obtain ⟨u0, u1, uz⟩ := id (H2.o1.below hb)
        refine hK _ _ ?_
        clear hK K hb0 hox0
        refine wpAnyIn_ready (rs := [0, 3]) (by kernel_rfl) (by simp) ?_
        refine AllReadyIn.cons rfl (fun K hK => ?_) ?_
        · go_simp
          refine hK _ _ ?_
          clear hK K
          refine wpAnyIn_ready (rs := [3]) (by kernel_rfl) (by simp) ?_
          refine AllReadyIn.cons rfl (fun K hK => ?_) ?_
          · go_simp
            refine hK _ _ ?_
            clear hK K
            refine wpAnyIn_ready (rs := [4]) (by kernel_rfl) (by simp) ?_
            refine AllReadyIn.cons rfl (fun K hK => ?_) ?_
            · refine append_stepB _ rfl _ _ rfl N _ _ _ rfl ((H2.below hb).rv.alloc _) ⟨V2.heap.size, 0, none⟩ (.slice xa bd.length xc) rfl (cell_one_new _ _ _) (by simp [Value.oneCell']) hl24 (by have := hb.size; simp; omega) ?_
              intro g cap W5 r1 r2 r3
              have O5 := (HS.bod (H2.below hb) hb hox hNW hb1 hb2 hne hCA r1 r2 r3).1
              obtain ⟨p0, p1, pz⟩ := id O5
              refine hK _ _ ?_
              clear hK K
              refine wpAnyIn_ready (rs := [5]) (by kernel_rfl) (by simp) ?_
              refine AllReadyIn.cons rfl (fun K hK => ?_) ?_
              · go_simp
                refine hK _ _ ?_
                clear hK K
                refine wpAnyIn_done (by kernel_rfl) ?_ _
                obtain ⟨_, H6, T6⟩ := HS.bod (H2.below hb) hb hox hNW hb1 hb2 hne hCA r1 r2 r3
                have hvl : ∀ j, v.ownBlock = some j → w.heap.size ≤ j := fun j e => by have := (H2.rv.lt j e).1; omega
                have BV : Below w.heap.size w V2 := HBW.out.trans (hb.mono HBW.out.size)
                have B6 := ((BV.alloc BV.size (.cells #[.slice xa bd.length xc] 22)).grown r2 (by have := BV.size; simp; omega) hvl).setCell (p := ⟨w.heap.size, 0, none⟩) (Nat.le_refl _) (.slice (some ⟨g, 0, none⟩) (bs.length + 1) cap)
                have hvf : some (w.heap.size + 1 + 1) ≠ v.ownBlock := fun e => by have := (H2.rv.lt _ e.symm).1; omega
                have OF5 : One W5 (w.heap.size + 1 + 1) (.slice (some ⟨b, off, none⟩) len cap0) := (HOF.out.below hb).of_block ((r2.block _ (by have := (HOF.out.below hb).2.2; simp; omega) hvf).trans (Below.heap_alloc _ _ _ (HOF.out.below hb).2.2)) (by have := r2.size; simp at this; omega)
                have OF6 := OF5.of_block (W' := W5.setCell ⟨w.heap.size, 0, none⟩ (.slice (some ⟨g, 0, none⟩) (bs.length + 1) cap)) (Below.heap_setCell _ _ _ _ (by show w.heap.size + 1 + 1 ≠ w.heap.size; omega)) (by simp [World.setCell])
                obtain ⟨W6, hW6⟩ : ∃ W6, W5.setCell ⟨w.heap.size, 0, none⟩ (.slice (some ⟨g, 0, none⟩) (bs.length + 1) cap) = W6 := ⟨_, rfl⟩
                rw [hW6] at H6 T6 B6 OF6
                have hs6 := T6.size
                obtain ⟨y0, y1, yz⟩ := id H6.o2
                have RU : W6.ownsRow N 3 1 u ps.length (ps.map iv) := H6.pu
                clear r1 r2 r3 O5 p0 p1 pz u0 u1 uz hox hb OF5 BV
                gi_wp2_with (gi_at_builtin; refine append_oneP _ rfl _ _ rfl N _ _ _ rfl (RU.alloc _) ⟨W6.heap.size, 0, none⟩ (.int .i64 (p : Int)) rfl (cell_one_new _ _ _) (by simp [Value.oneCell']) hl8 (by simp; omega) ?_; intro g2 cap2 W7 s1 s2 s3; obtain ⟨O7, H7, T7⟩ := HS.pl H6 (by omega) hb1 hb2 hne s1 s2 s3; obtain ⟨x0, x1, xz⟩ := id O7)
                have hul : ∀ j, u.ownBlock = some j → w.heap.size ≤ j := fun j e => by have := (RU.lt j e).1; omega
                have huf : some (w.heap.size + 1 + 1) ≠ u.ownBlock := fun e => by have := (RU.lt _ e.symm).1; omega
                have B8 := ((B6.alloc B6.size (.cells #[.int .i64 (p : Int)] 3)).grown s2 (by have := B6.size; simp; omega) hul).setCell (p := ⟨w.heap.size + 1, 0, none⟩) (by simp) (.slice (some ⟨g2, 0, none⟩) (ps.length + 1) cap2)
                have OF7 : One W7 (w.heap.size + 1 + 1) (.slice (some ⟨b, off, none⟩) len cap0) := OF6.of_block ((s2.block _ (by have := OF6.2.2; simp; omega) huf).trans (Below.heap_alloc _ _ _ OF6.2.2)) (by have := s2.size; simp at this; omega)
                have OF8 := OF7.of_block (W' := W7.setCell ⟨w.heap.size + 1, 0, none⟩ (.slice (some ⟨g2, 0, none⟩) (ps.length + 1) cap2)) (Below.heap_setCell _ _ _ _ (by show w.heap.size + 1 + 1 ≠ w.heap.size + 1; omega)) (by simp [World.setCell])
                subst hN
                exact ⟨_, ⟨by omega, ⟨_, _, _, by rw [HBS.out, HPS.out]; exact H7⟩, OF8, B8⟩, T6.trans T7⟩
              exact AllReadyIn.nil
            exact AllReadyIn.nil
          exact AllReadyIn.nil
        refine AllReadyIn.cons rfl (fun K hK => ?_) ?_
        · go_simp
          refine hK _ _ ?_
          clear hK K
          refine wpAnyIn_ready (rs := [0]) (by kernel_rfl) (by simp) ?_
          refine AllReadyIn.cons rfl (fun K hK => ?_) ?_
          · go_simp
            refine hK _ _ ?_
            clear hK K
            refine wpAnyIn_ready (rs := [4]) (by kernel_rfl) (by simp) ?_
            refine AllReadyIn.cons rfl (fun K hK => ?_) ?_
            · refine append_stepB _ rfl _ _ rfl N _ _ _ rfl ((H2.below hb).rv.alloc _) ⟨V2.heap.size, 0, none⟩ (.slice xa bd.length xc) rfl (cell_one_new _ _ _) (by simp [Value.oneCell']) hl24 (by have := hb.size; simp; omega) ?_
              intro g cap W5 r1 r2 r3
              have O5 := (HS.bod (H2.below hb) hb hox hNW hb1 hb2 hne hCA r1 r2 r3).1
              obtain ⟨p0, p1, pz⟩ := id O5
              refine hK _ _ ?_
              clear hK K
              refine wpAnyIn_ready (rs := [5]) (by kernel_rfl) (by simp) ?_
              refine AllReadyIn.cons rfl (fun K hK => ?_) ?_
              · go_simp
                refine hK _ _ ?_
                clear hK K
                refine wpAnyIn_done (by kernel_rfl) ?_ _
                obtain ⟨_, H6, T6⟩ := HS.bod (H2.below hb) hb hox hNW hb1 hb2 hne hCA r1 r2 r3
                have hvl : ∀ j, v.ownBlock = some j → w.heap.size ≤ j := fun j e => by have := (H2.rv.lt j e).1; omega
                have BV : Below w.heap.size w V2 := HBW.out.trans (hb.mono HBW.out.size)
                have B6 := ((BV.alloc BV.size (.cells #[.slice xa bd.length xc] 22)).grown r2 (by have := BV.size; simp; omega) hvl).setCell (p := ⟨w.heap.size, 0, none⟩) (Nat.le_refl _) (.slice (some ⟨g, 0, none⟩) (bs.length + 1) cap)
                have hvf : some (w.heap.size + 1 + 1) ≠ v.ownBlock := fun e => by have := (H2.rv.lt _ e.symm).1; omega
                have OF5 : One W5 (w.heap.size + 1 + 1) (.slice (some ⟨b, off, none⟩) len cap0) := (HOF.out.below hb).of_block ((r2.block _ (by have := (HOF.out.below hb).2.2; simp; omega) hvf).trans (Below.heap_alloc _ _ _ (HOF.out.below hb).2.2)) (by have := r2.size; simp at this; omega)
                have OF6 := OF5.of_block (W' := W5.setCell ⟨w.heap.size, 0, none⟩ (.slice (some ⟨g, 0, none⟩) (bs.length + 1) cap)) (Below.heap_setCell _ _ _ _ (by show w.heap.size + 1 + 1 ≠ w.heap.size; omega)) (by simp [World.setCell])
                obtain ⟨W6, hW6⟩ : ∃ W6, W5.setCell ⟨w.heap.size, 0, none⟩ (.slice (some ⟨g, 0, none⟩) (bs.length + 1) cap) = W6 := ⟨_, rfl⟩
                rw [hW6] at H6 T6 B6 OF6
                have hs6 := T6.size
                obtain ⟨y0, y1, yz⟩ := id H6.o2
                have RU : W6.ownsRow N 3 1 u ps.length (ps.map iv) := H6.pu
                clear r1 r2 r3 O5 p0 p1 pz u0 u1 uz hox hb OF5 BV
                gi_wp2_with (gi_at_builtin; refine append_oneP _ rfl _ _ rfl N _ _ _ rfl (RU.alloc _) ⟨W6.heap.size, 0, none⟩ (.int .i64 (p : Int)) rfl (cell_one_new _ _ _) (by simp [Value.oneCell']) hl8 (by simp; omega) ?_; intro g2 cap2 W7 s1 s2 s3; obtain ⟨O7, H7, T7⟩ := HS.pl H6 (by omega) hb1 hb2 hne s1 s2 s3; obtain ⟨x0, x1, xz⟩ := id O7)
                have hul : ∀ j, u.ownBlock = some j → w.heap.size ≤ j := fun j e => by have := (RU.lt j e).1; omega
                have huf : some (w.heap.size + 1 + 1) ≠ u.ownBlock := fun e => by have := (RU.lt _ e.symm).1; omega
                have B8 := ((B6.alloc B6.size (.cells #[.int .i64 (p : Int)] 3)).grown s2 (by have := B6.size; simp; omega) hul).setCell (p := ⟨w.heap.size + 1, 0, none⟩) (by simp) (.slice (some ⟨g2, 0, none⟩) (ps.length + 1) cap2)
                have OF7 : One W7 (w.heap.size + 1 + 1) (.slice (some ⟨b, off, none⟩) len cap0) := OF6.of_block ((s2.block _ (by have := OF6.2.2; simp; omega) huf).trans (Below.heap_alloc _ _ _ OF6.2.2)) (by have := s2.size; simp at this; omega)
                have OF8 := OF7.of_block (W' := W7.setCell ⟨w.heap.size + 1, 0, none⟩ (.slice (some ⟨g2, 0, none⟩) (ps.length + 1) cap2)) (Below.heap_setCell _ _ _ _ (by show w.heap.size + 1 + 1 ≠ w.heap.size + 1; omega)) (by simp [World.setCell])
                subst hN
                exact ⟨_, ⟨by omega, ⟨_, _, _, by rw [HBS.out, HPS.out]; exact H7⟩, OF8, B8⟩, T6.trans T7⟩
              exact AllReadyIn.nil
            exact AllReadyIn.nil
          exact AllReadyIn.nil
        exact AllReadyIn.nil
      exact AllReadyIn.nil
    exact AllReadyIn.nil
  case done =>
    rintro C W ⟨hk, ⟨v, u, vs, H2⟩, OF2, B2⟩ hK hC
    obtain ⟨o0, o1, oz⟩ := id H2.o1
    obtain ⟨q0, q1, qz⟩ := id H2.o2
    have HC := H2.hc
    have HR : Hid (W.ownsRow w1.heap.size 22 1 v ((salF len 0 zs).map (·.1)).length vs ∧ OwnL w1.heap.size W vs ((salF len 0 zs).map (·.1)) ∧ Pls w1.heap.size W u ((salF len 0 zs).map (·.2))) := by
      have h1 := H2.rv
      have h2 := H2.lv
      have h3 := H2.pu
      rw [List.take_length] at h1 h2 h3
      exact ⟨h1, h2, h3⟩
    gi_wp2
    refine wpIn_wide.2 ?_
    go_quiet (fail)
    gi_wp2
    have hD : (W.drewN nq).heap[w.heap.size + 3]? = some (.deferred (some [])) := by rw [← sz1]; exact hK
    refine ⟨by simp, .inl ⟨_, _, rfl, run_takeDeferred hD, ?_⟩⟩
    obtain ⟨h1, h2, h3⟩ := HR.out
    have far : ∀ (o : Obj) (g : Nat), C g → ((W.drewN nq).putObj (w.heap.size + 3) o).heap[g]? = W.heap[g]? := fun o g hg => (World.putObj_heap_other (fun e => by have := (hC g hg).1; omega)).trans rfl
    refine ⟨_, results_tmp2 rfl _ _ _, ⟨_, _, rfl, ⟨vs, ?_, ?_⟩, ?_⟩, below_putObj (below_drewN B2 _) (by omega) _⟩
    · exact owns_base (ownsRow_of_block h1 fun g hg => far _ g ((HC g).2 (.inl hg))) (by omega)
    · exact OwnL.base (h2.of_block fun x hx g hg => far _ g ((HC g).2 (.inr (.inr ⟨x, hx, hg⟩)))) (by omega)
    · exact owns_base (Pls.of_block h3 fun g hg => far _ g ((HC g).2 (.inr (.inl hg)))) (by omega)
  case stop =>
    rintro c C W h _ _
    exact h.elim

end Go.Proofs.YteadkfcbgphgnaaDoor
