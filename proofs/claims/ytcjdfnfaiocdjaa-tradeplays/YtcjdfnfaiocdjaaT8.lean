/-
  Package trade: what Play returns.
-/
import Derived.Test.YtcjdfnfaiocdjaaT7
namespace Go.Proofs.Ytcjdfnfaiocdjaa
open Go.ChangeShapes Go.WideShapes Go.ChangeAt Go.RowKit Go.Maps Go.Shelf
set_option linter.unusedVariables false
set_option linter.unusedSimpArgs false
attribute [local go_sem] Oper.semAt_some
theorem PS.fault {w W : World} {k7 : Nat} {S : PV} {C : Nat → Prop} (h : PS w k7 S C W) (h7 : w.heap.size + 2 ≤ k7) (hC : ∀ b, C b → k7 + 2 ≤ b) (c : Int) : PS w k7 ⟨S.v, S.p, S.f, S.l, c⟩ C (W.setCell ⟨k7, 0, none⟩ (.int .i64 c)) := by
  have far : ∀ b, b ≠ k7 → (W.setCell ⟨k7, 0, none⟩ (.int .i64 c)).heap[b]? = W.heap[b]? := fun b hb => Below.heap_setCell _ _ _ _ hb
  have hs : W.heap.size ≤ (W.setCell ⟨k7, 0, none⟩ (.int .i64 c)).heap.size := by simp [World.setCell]
  refine ⟨h.r.of_block (far _ (by omega)) hs, h.o.of_block (far _ (by omega)) hs, h.e.set _, ?_, h.b.setCell (p := ⟨k7, 0, none⟩) (by show w.heap.size ≤ k7; omega) _⟩
  obtain ⟨v, h1, h2, h3⟩ := h.l
  exact ⟨v, h1.of_block (far _ (by omega)) hs, owns_of_block h2 (fun g hg => far _ (by have := hC g ((h3 g).2 hg); omega)), h3⟩
set_option maxRecDepth 100000 in
set_option maxHeartbeats 8000000 in
theorem play_ok (v p f a b ra rb n y1 y2 : Int) (w : World) (h : ends v p f a b ra rb = ⟨y1, y2, 0⟩) : Calls Try.prog 15 #[.int .i64 a, .int .i64 b, rg v p f, .int .i64 ra, .int .i64 rb, .int .i64 n] w fun e w' => ∃ sl cap, e = .returned (pvV (play v p f a b ra rb n) sl cap) ∧ Row w' sl (play v p f a b ra rb n).l.length (play v p f a b ra rb n).l ∧ Below w.heap.size w w' := by
  have K8 := fun w => ends_any v p f a b ra rb w
  rw [h] at K8
  have HE : Hid ((ends v p f a b ra rb).e = 0) := by show _ = _; rw [h]
  clear h
  have HAS : Hid (asks n ≤ 100) := by
    show _ ≤ _
    unfold asks
    split <;> omega
  refine (callsIn_wide (n := 2)).1 ?_
  refine callsIn_of_wp_marks Try.func15 rfl trivial ?_
  simp only [Try.ntmps15, List.size_toArray, List.length_cons, List.length_nil, Nat.reduceAdd, Nat.reduceSub, Array.replicate_succ, Array.replicate_zero, List.push_toArray, List.append_toArray, List.nil_append, List.cons_append]
  gi_wp2_with (fail)
  refine wide_scope ?_
  gi_wp2_with (first | (refine ⟨trivial, ?_⟩; gi_at_call 8; refine (callsIn_wide.2 (K8 _)).mono ?_; clear K8; rintro e w1 ⟨rfl, hb⟩; have T1 := ((Tri.new w (.int .i64 v) (.int .i64 p) (.int .i64 f) 23).alloc (.cells #[.int .i64 0, .int .i64 0, .int .i64 0] 23)).below hb; have T2 := ((Tri.new (w.alloc (.cells #[.int .i64 v, .int .i64 p, .int .i64 f] 23)) (.int .i64 0) (.int .i64 0) (.int .i64 0) 23).below hb).at (k' := w.heap.size + 1) (by simp); have hB : Below w.heap.size w w1 := Below.trans (by go_grown) (hb.mono (by simp; omega)); have HZ1 : Hid (w.heap.size + 2 ≤ w1.heap.size) := (by have := hb.size; simp at this; exact this); clear hb))
  refine wpIn_label ?_
  gi_wp2_with (first | (refine ⟨trivial, ?_⟩; gi_at_call 32; refine (callsIn_wide.2 (turns_any (a, ra) (b, rb) n _)).mono ?_; rintro e w4 ⟨rfl, hw4⟩))
  obtain ⟨w4, hw4⟩ : ∃ w4, (((((w1.alloc (.cells #[.int .i64 0] 24)).alloc (.cells #[.slice none 0 0] 42)).alloc (.cells #[.int .i64 a, .int .i64 ra] 67)).alloc (.cells #[.int .i64 b, .int .i64 rb] 67)).alloc (.cells #[.int .i64 n] 3)) = w4 := ⟨_, rfl⟩
  have z4 : w4.heap.size = w1.heap.size + 5 := by rw [← hw4]; simp
  have B4 : Below w.heap.size w w4 := by
    have := hB.size
    rw [← hw4]
    exact ((((hB.alloc hB.size _).alloc (by simp; omega) _).alloc (by simp; omega) _).alloc (by simp; omega) _).alloc (by simp; omega) _
  have X1 : Two w4 (w1.heap.size + 2) (.int .i64 a) (.int .i64 ra) := by rw [← hw4]; exact (((Two.new _ _ _ _).at (by simp)).alloc _).alloc _
  have X2 : Two w4 (w1.heap.size + 3) (.int .i64 b) (.int .i64 rb) := by rw [← hw4]; exact ((Two.new _ _ _ _).at (by simp)).alloc _
  have X3 : One w4 (w1.heap.size + 4) (.int .i64 n) := by rw [← hw4]; exact (One.new _ _ _).at (by simp)
  have P4 : PS w w1.heap.size (pst v p f a b ra rb 0) (fun _ => False) w4 := by
    refine ⟨?_, ?_, ?_, Holds.nil 2 1 _ _ _ ?_, B4⟩
    · rw [← hw4]; exact ((((T1.alloc _).alloc _).alloc _).alloc _).alloc _
    · rw [← hw4]; exact ((((T2.alloc _).alloc _).alloc _).alloc _).alloc _
    · rw [← hw4]; exact ((((One.new _ _ _).alloc _).alloc _).alloc _).alloc _
    · rw [← hw4]; exact ((((One.new _ _ _).at (by simp)).alloc _).alloc _).alloc _
  rw [hw4]
  have HZ4 : Hid (w4.heap.size = w1.heap.size + 5) := z4
  clear hw4 z4 T1 T2
  refine range_turns (gf := 47) (lb := #[.pointer (some ⟨w1.heap.size + 3, 0, none⟩), .pointer (some ⟨w1.heap.size + 2, 0, none⟩), .pointer (some ⟨w1.heap.size + 4, 0, none⟩)]) (by first | rfl | simp) (enters_of Try.func47 (by kernel_rfl) rfl)
    (turns_gives (a, ra) (b, rb) n (w1.heap.size + 2) (w1.heap.size + 3) (w1.heap.size + 4) w4 X1 X2 X3) (Below.refl _ _) (fun _ => rfl)
    (fun k C W => k ≤ asks n ∧ (k = 0 ∨ (bal v p f b a rb ra).e = 0) ∧ PS w w1.heap.size (pst v p f a b ra rb k) C W)
    (fun c C W => c = .exit 0 ∧ asks n ≠ 0 ∧ (bal v p f b a rb ra).e ≠ 0 ∧ PS w w1.heap.size ⟨v, p, f, [], (bal v p f b a rb ra).e⟩ C W)
    (fun k C A h => trivial)
    (fun k C A B h s => ⟨h.1, h.2.1, h.2.2.same s HZ1.out (by have := HZ4.out; omega)⟩)
    (fun c C A B h s => ⟨h.1, h.2.1, h.2.2.1, h.2.2.2.same s HZ1.out (by have := HZ4.out; omega)⟩)
    ⟨Nat.zero_le _, .inl rfl, P4⟩
    (fun x a' A => ∃ c9 c0, a' = { tmps := #[.int .i64 a, .int .i64 b, rg v p f, .int .i64 ra, .int .i64 rb, .int .i64 n, undef, undef, .pointer (some ⟨w.heap.size, 0, none⟩), undef, undef, undef, .pointer (some ⟨w.heap.size + 1, 0, none⟩), .slice none 0 0, .int .i64 0, .int .i64 y1, .int .i64 y2, .pointer (some ⟨w1.heap.size, 0, none⟩), .pointer (some ⟨w1.heap.size + 1, 0, none⟩), .pointer (some ⟨c9, 0, none⟩), .pointer (some ⟨c0, 0, none⟩), undef, undef, undef, evV ⟨y1, y2, 0⟩, .int .i64 a, .int .i64 b, .agg #[.int .i64 v, .int .i64 p, .int .i64 f], .int .i64 ra, .int .i64 rb, evV ⟨y1, y2, 0⟩, .int .i64 y1, .int .i64 y2, .int .i64 0, .int .i64 0, .bool false, undef, undef, .int .i64 a, .int .i64 ra, .agg #[.int .i64 a, .int .i64 ra], .int .i64 b, .int .i64 rb, .agg #[.int .i64 b, .int .i64 rb], .int .i64 n, .func (.func 47) #[] #[.pointer (some ⟨w1.heap.size + 3, 0, none⟩), .pointer (some ⟨w1.heap.size + 2, 0, none⟩), .pointer (some ⟨w1.heap.size + 4, 0, none⟩)], .agg #[.int .i64 x.1.1, .int .i64 x.1.2], .agg #[.int .i64 x.2.1, .int .i64 x.2.2], undef, undef, undef, undef, undef, undef, undef, undef, undef, undef, undef, undef, undef, undef, undef, undef, undef, undef, undef, undef, undef, undef, undef, undef, undef, undef, undef, undef, undef], defers := [] } ∧ Two A c9 (.int .i64 x.1.1) (.int .i64 x.1.2) ∧ Two A c0 (.int .i64 x.2.1) (.int .i64 x.2.2) ∧ w4.heap.size + 2 ≤ c9 ∧ w4.heap.size + 2 ≤ c0)
    (fun x a' A o ⟨c9, c0, h1, h2, h3, h4, h5⟩ => ⟨c9, c0, h1, h2.putObj (by omega) o, h3.putObj (by omega) o, h4, h5⟩)
    ?assign ?body ?done ?stop
  case assign =>
    rintro k ⟨⟨p1, p2⟩, ⟨q1, q2⟩⟩ W C K hi hs' hK
    dsimp only [encT, en]
    gi_wp2
    exact hK _ _ ⟨W.heap.size, W.heap.size + 1, rfl, (Two.new _ _ _ _).alloc _, (Two.new _ _ _ _).at (by simp), hs', by omega⟩ (((Below.refl _ _).alloc (Nat.le_refl _) _).alloc (by simp) _)
  case body =>
    rintro k x C a' W ⟨hk, hb0, PK⟩ ⟨c9, c0, rfl, Y1, Y2, l9, l0⟩ hx hs' hC
    have hz4 := HZ4.out
    have hz1 := HZ1.out
    have hka : k < asks n := by
      have := (List.getElem?_eq_some_iff.1 hx).1
      rw [trns_len] at this
      exact this
    have hxe : trn (a, ra) (b, rb) k = x := by rw [trns_at hka] at hx; exact Option.some.inj hx
    have KB := fun w => bal_any (pst v p f a b ra rb k).v (pst v p f a b ra rb k).p (pst v p f a b ra rb k).f x.1.1 x.2.1 x.1.2 x.2.2 w
    have hbk : bal (pst v p f a b ra rb k).v (pst v p f a b ra rb k).p (pst v p f a b ra rb k).f x.1.1 x.2.1 x.1.2 x.2.2 = balK v p f a b ra rb k := by unfold balK; rw [hxe]
    rw [hbk] at KB
    have hbc : balK v p f a b ra rb k = ⟨0, 0, 0, 0, 31⟩ ∨ balK v p f a b ra rb k = ⟨0, 0, 0, 0, 10⟩ ∨ (balK v p f a b ra rb k).e = 0 := by rw [← hbk]; exact bal_cases _ _ _ _ _ _ _
    have HLN : Hid ((pst v p f a b ra rb k).l.length = k) := pst_len _ _ _ _ _ _ _ _
    have HPE : Hid ((pst v p f a b ra rb k).e = 0) := pst_e _ _ _ _ _ _ _ _
    clear hxe hbk hx
    obtain ⟨⟨p1, p2⟩, ⟨q1, q2⟩⟩ := x
    dsimp only at Y1 Y2 KB ⊢
    obtain ⟨r0, r1, r2, s0, s1, s2, rz⟩ := _root_.id PK.r
    obtain ⟨i0, i1, i2, i3, i4⟩ := _root_.id Y1
    obtain ⟨j0, j1, j2, j3, j4⟩ := _root_.id Y2
    have hCW : ∀ q, C q → w4.heap.size ≤ q ∧ q < W.heap.size := fun q hq => ⟨by have := (hC q hq).1; omega, (hC q hq).2⟩
    by_cases hbe : (balK v p f a b ra rb k).e = 0
    · obtain ⟨HBE, HPS⟩ := balK_ok hb0 hbe
      have HPS' : Hid (pst v p f a b ra rb (k + 1) = ⟨(balK v p f a b ra rb k).v, (balK v p f a b ra rb k).p, (balK v p f a b ra rb k).f, (pst v p f a b ra rb k).l ++ [(balK v p f a b ra rb k).n], 0⟩) := HPS
      have HBE' : Hid ((bal v p f b a rb ra).e = 0) := HBE
      have HKA : Hid (k < asks n) := hka
      have HCW : Hid (∀ q, C q → w4.heap.size ≤ q ∧ q < W.heap.size) := hCW
      clear hbc HPS HBE hka hk hb0 hCW
      generalize balK v p f a b ra rb k = BB at *
      generalize pst v p f a b ra rb k = S at *
      obtain ⟨u, q, g, m, e⟩ := BB
      dsimp only at hbe
      subst hbe
      gi_wp2_with (first
        | (refine ⟨trivial, ?_⟩; gi_at_call 13; refine (CallsIn.inRound _ (callsIn_wide.2 (KB _))).mono ?_; clear KB; rintro e Wb ⟨rfl, bb⟩)
        | fail)
      clear r0 r1 r2 s0 s1 s2 rz i0 i1 i2 i3 i4 j0 j1 j2 j3 j4 Y1 Y2
      have BC := bb.alloc bb.size (.cells #[.int .i64 u, .int .i64 q, .int .i64 g] 23)
      have TM := Tri.new Wb (.int .i64 u) (.int .i64 q) (.int .i64 g) 23
      have zc : (Wb.alloc (.cells #[.int .i64 u, .int .i64 q, .int .i64 g] 23)).heap.size = Wb.heap.size + 1 := by simp
      obtain ⟨Wc, hWc⟩ : ∃ Wc, Wb.alloc (.cells #[.int .i64 u, .int .i64 q, .int .i64 g] 23) = Wc := ⟨_, rfl⟩
      rw [hWc] at BC TM zc
      rw [hWc]
      clear hWc
      have P5 := PK.same (M := w4.heap.size) (Same.of_below BC) hz1 (by omega)
      obtain ⟨vv, O2, R2, H2⟩ := P5.l
      obtain ⟨av, cv, rfl⟩ : ∃ av cv, vv = .slice av S.l.length cv := by
        rcases R2.2 with ⟨e0, h0⟩ | ⟨g', cap, cur, e0, _⟩
        · exact ⟨none, 0, by rw [h0]; exact e0⟩
        · exact ⟨_, cap, e0⟩
      have hbz := bb.size
      have HZC : Hid (w4.heap.size ≤ Wc.heap.size ∧ Wc.heap.size = Wb.heap.size + 1 ∧ W.heap.size ≤ Wb.heap.size ∧ w4.heap.size + 2 ≤ W.heap.size ∧ w.heap.size + 2 ≤ w1.heap.size ∧ w4.heap.size = w1.heap.size + 5) := ⟨by omega, zc, hbz, hs', hz1, hz4⟩
      have HCC : Hid (∀ b, C b → w4.heap.size ≤ b ∧ b < Wc.heap.size) := fun b hb => by have := HCW.out b hb; omega
      have HOW : Hid (∀ b, some b = (Value.slice av S.l.length cv).ownBlock → b < W.heap.size) := fun b hb => (HCW.out b ((H2 b).2 hb.symm)).2
      have HBC : Hid (Below W.heap.size W Wc) := BC
      have bmA := ((Below.refl Wc.heap.size Wc).alloc (Nat.le_refl _) (.cells #[.int .i64 m] 2)).drew
      have TMA : Tri (Wc.alloc (.cells #[.int .i64 m] 2)).drew Wb.heap.size (.int .i64 u) (.int .i64 q) (.int .i64 g) := Tri.below TM bmA
      clear zc hbz BC bb hz1 hz4 hs' hC
      refine region_heldIn (fun W' => Tri W' Wb.heap.size (.int .i64 u) (.int .i64 q) (.int .i64 g)) (by kernel_rfl) ?_
      refine anyInH_take 0 66 (rg u q g) (by kernel_rfl) rfl rfl (by kernel_rfl) (by kernel_rfl) (by kernel_rfl) (fun _ _ _ h => h) (Or.inl ⟨by rfl, by intro w hSw; obtain ⟨k0, k1, k2, k3, k4, k5, k6⟩ := hSw; go_simp⟩) (fun w => by simp [Oper.about]) (TM.drew) ?_
      try simp only [Act.put, List.setIfInBounds_toArray, List.set_cons_zero, List.set_cons_succ]
      refine anyInH_take 2 68 (.int .i64 m) (by kernel_rfl) rfl rfl (by kernel_rfl) (by kernel_rfl) (by kernel_rfl) (fun _ _ _ h => h) (Or.inl ⟨by rfl, by intro w hSw; go_simp⟩) (fun w => by simp [Oper.about]) (TM.drew) ?_
      try simp only [Act.put, List.setIfInBounds_toArray, List.set_cons_zero, List.set_cons_succ]
      refine anyInH_two 1 3 (by kernel_rfl) rfl rfl (by rfl) (by rfl) (fun K hK => ?_) (fun K hK => ?_)
      · obtain ⟨o0, o1, oz⟩ := _root_.id O2
        go_simp
        refine hK _ _ TM.drew (fun hS => ?_)
        clear hK o0 o1 oz
        try simp only [Act.put, List.setIfInBounds_toArray, List.set_cons_zero, List.set_cons_succ]
        refine anyInH_one 3 (by kernel_rfl) rfl (by rfl) (fun K hK => ?_)
        go_simp
        refine hK _ _ TMA (fun hS => ?_)
        clear hK
        try simp only [Act.put, List.setIfInBounds_toArray, List.set_cons_zero, List.set_cons_succ]
        refine anyInH_one 4 (by kernel_rfl) rfl (by rfl) (fun K hK => ?_)
        refine wpIn_append_int _ _ rfl w.heap.size (.slice av S.l.length cv) S.l.length (S.l.map iv) rfl (owns_later R2 bmA) ⟨Wc.heap.size, 0, none⟩ m rfl (cell_one_new _ _ _) (by have := HLN.out; have := HKA.out; have := HAS.out; omega) (by have h9 := bmA.size; have := HZC.out; omega) ?_
        intro g' cap W1 r1 r2 r3
        obtain ⟨F1, F2, F3, F4, F5, F6⟩ := PS.grow (M := w4.heap.size) (u := u) (q := q) (f := g) (y := m) P5 HZ1.out (by have := HZ4.out; omega) (fun b hb => HCC.out b hb) HZC.out.1 O2 H2 bmA r1 r2 r3
        have e5 : W1.heap[Wb.heap.size]? = Wc.heap[Wb.heap.size]? := (r2.block _ (by have := bmA.size; have := HZC.out; omega) (fun e => by have := HOW.out _ e; have := HZC.out; omega)).trans (bmA.block _ (by have := HZC.out; omega))
        have TM1 : Tri W1 Wb.heap.size (.int .i64 u) (.int .i64 q) (.int .i64 g) := TM.of_block e5 F6
        obtain ⟨t0, t1, t2, t3, t4, t5, t6⟩ := _root_.id F1
        refine hK _ _ TM1 (fun hS => ?_)
        clear hK
        try simp only [Act.put, List.setIfInBounds_toArray, List.set_cons_zero, List.set_cons_succ]
        refine anyInH_one 5 (by kernel_rfl) rfl (by rfl) (fun K hK => ?_)
        go_simp
        have TM2 := TM1.far (k := w.heap.size) (by have := HZC.out; omega) (.int .i64 u) (.int .i64 q) (.int .i64 g)
        obtain ⟨Wx, hWx⟩ : ∃ Wx, put3 W1 w.heap.size (.int .i64 u) (.int .i64 q) (.int .i64 g) = Wx := ⟨_, rfl⟩
        rw [hWx] at F2 F3 F4 TM2
        dsimp only [put3] at hWx
        rw [hWx]
        clear hWx t0 t1 t2 t3 t4 t5 t6
        refine hK _ _ TM2 (fun hS => ?_)
        clear hK
        try simp only [Act.put, List.setIfInBounds_toArray, List.set_cons_zero, List.set_cons_succ]
        obtain ⟨t0, t1, t2⟩ := _root_.id F2
        refine anyInH_one 6 (by kernel_rfl) rfl (by rfl) (fun K hK => ?_)
        go_simp
        refine hK _ _ (TM2.of_block (Below.heap_setCell _ _ _ _ (by show Wb.heap.size ≠ w1.heap.size + 1; have := HZC.out; have := HZ4.out; omega)) (by simp [World.setCell])) (fun hS => ?_)
        clear hK
        try simp only [Act.put, List.setIfInBounds_toArray, List.set_cons_zero, List.set_cons_succ]
        refine anyInH_done (by kernel_rfl) ?_ _
        gi_wp2
        refine ⟨_, ⟨HKA.out, .inr HBE'.out, ?_⟩, (Turn.of_below HBC.out (fun b hb => HCW.out b hb)).trans F4⟩
        rw [HPS'.out]
        rw [HPE.out] at F3
        exact F3
      · go_simp
        refine hK _ _ TMA (fun hS => ?_)
        clear hK
        try simp only [Act.put, List.setIfInBounds_toArray, List.set_cons_zero, List.set_cons_succ]
        refine anyInH_one 1 (by kernel_rfl) rfl (by rfl) (fun K hK => ?_)
        have OA := O2.below bmA
        obtain ⟨o0, o1, oz⟩ := _root_.id OA
        go_simp
        refine hK _ _ TMA (fun hS => ?_)
        clear hK o0 o1 oz
        try simp only [Act.put, List.setIfInBounds_toArray, List.set_cons_zero, List.set_cons_succ]
        refine anyInH_one 4 (by kernel_rfl) rfl (by rfl) (fun K hK => ?_)
        refine wpIn_append_int _ _ rfl w.heap.size (.slice av S.l.length cv) S.l.length (S.l.map iv) rfl (owns_later R2 bmA) ⟨Wc.heap.size, 0, none⟩ m rfl (cell_one_new _ _ _) (by have := HLN.out; have := HKA.out; have := HAS.out; omega) (by have h9 := bmA.size; have := HZC.out; omega) ?_
        intro g' cap W1 r1 r2 r3
        obtain ⟨F1, F2, F3, F4, F5, F6⟩ := PS.grow (M := w4.heap.size) (u := u) (q := q) (f := g) (y := m) P5 HZ1.out (by have := HZ4.out; omega) (fun b hb => HCC.out b hb) HZC.out.1 O2 H2 bmA r1 r2 r3
        have e5 : W1.heap[Wb.heap.size]? = Wc.heap[Wb.heap.size]? := (r2.block _ (by have := bmA.size; have := HZC.out; omega) (fun e => by have := HOW.out _ e; have := HZC.out; omega)).trans (bmA.block _ (by have := HZC.out; omega))
        have TM1 : Tri W1 Wb.heap.size (.int .i64 u) (.int .i64 q) (.int .i64 g) := TM.of_block e5 F6
        obtain ⟨t0, t1, t2, t3, t4, t5, t6⟩ := _root_.id F1
        refine hK _ _ TM1 (fun hS => ?_)
        clear hK
        try simp only [Act.put, List.setIfInBounds_toArray, List.set_cons_zero, List.set_cons_succ]
        refine anyInH_one 5 (by kernel_rfl) rfl (by rfl) (fun K hK => ?_)
        go_simp
        have TM2 := TM1.far (k := w.heap.size) (by have := HZC.out; omega) (.int .i64 u) (.int .i64 q) (.int .i64 g)
        obtain ⟨Wx, hWx⟩ : ∃ Wx, put3 W1 w.heap.size (.int .i64 u) (.int .i64 q) (.int .i64 g) = Wx := ⟨_, rfl⟩
        rw [hWx] at F2 F3 F4 TM2
        dsimp only [put3] at hWx
        rw [hWx]
        clear hWx t0 t1 t2 t3 t4 t5 t6
        refine hK _ _ TM2 (fun hS => ?_)
        clear hK
        try simp only [Act.put, List.setIfInBounds_toArray, List.set_cons_zero, List.set_cons_succ]
        obtain ⟨t0, t1, t2⟩ := _root_.id F2
        refine anyInH_one 6 (by kernel_rfl) rfl (by rfl) (fun K hK => ?_)
        go_simp
        refine hK _ _ (TM2.of_block (Below.heap_setCell _ _ _ _ (by show Wb.heap.size ≠ w1.heap.size + 1; have := HZC.out; have := HZ4.out; omega)) (by simp [World.setCell])) (fun hS => ?_)
        clear hK
        try simp only [Act.put, List.setIfInBounds_toArray, List.set_cons_zero, List.set_cons_succ]
        refine anyInH_done (by kernel_rfl) ?_ _
        gi_wp2
        refine ⟨_, ⟨HKA.out, .inr HBE'.out, ?_⟩, (Turn.of_below HBC.out (fun b hb => HCW.out b hb)).trans F4⟩
        rw [HPS'.out]
        rw [HPE.out] at F3
        exact F3
    · obtain ⟨hk0, hce⟩ := balK_bad hb0 hbe
      obtain ⟨c, hcc, hc0⟩ : ∃ c, balK v p f a b ra rb k = ⟨0, 0, 0, 0, c⟩ ∧ (c == 0) = false := by
        rcases hbc with h | h | h
        · exact ⟨31, h, by decide⟩
        · exact ⟨10, h, by decide⟩
        · exact absurd h hbe
      have HCE : Hid ((bal v p f b a rb ra).e = c) := by show _ = _; rw [hce, hcc]
      have HNE : Hid ((bal v p f b a rb ra).e ≠ 0) := by show _ ≠ _; rw [hce]; exact hbe
      have HAN : Hid (asks n ≠ 0) := by show _ ≠ _; omega
      rw [hcc] at KB
      have HPK : Hid (PS w w1.heap.size ⟨v, p, f, [], 0⟩ C W) := by
        rw [hk0] at PK
        exact PK
      have HCW : Hid (∀ q, C q → w4.heap.size ≤ q ∧ q < W.heap.size) := hCW
      clear hbc hcc hce hbe hka hk hb0 hCW hk0 PK
      gi_wp2_with (first
        | (refine ⟨trivial, ?_⟩; gi_at_call 13; refine (CallsIn.inRound _ (callsIn_wide.2 (KB _))).mono ?_; clear KB; rintro e Wb ⟨rfl, bb⟩; have BC := bb.alloc bb.size (.cells #[.int .i64 0, .int .i64 0, .int .i64 0] 23); have P5 := HPK.out.same (M := w4.heap.size) (Same.of_below bb) hz1 (by omega); obtain ⟨o0, o1, oz⟩ := _root_.id P5.e)
        | fail)
      have hCB : ∀ q, C q → w4.heap.size ≤ q ∧ q < Wb.heap.size := fun q hq => by have := HCW.out q hq; have := bb.size; omega
      refine ⟨C, ⟨rfl, HAN.out, HNE.out, ?_⟩, ?_⟩
      · rw [HCE.out]
        exact PS.same (M := w4.heap.size) (P5.fault hz1 (fun q hq => by have := HCW.out q hq; omega) c) (Same.alloc _ _ _ _) hz1 (by omega)
      · refine (Turn.of_below bb HCW.out).trans ((Turn.setOld hCB (by omega) 0 _).trans (Turn.of_below ((Below.refl _ _).alloc (Nat.le_refl _) _) (fun q hq => ?_)))
        have := hCB q hq
        simpa [World.setCell] using this
  case done =>
    rintro C W ⟨hk, hb0, PK⟩ hK hC
    rw [trns_len] at hk hb0 PK
    have HPL : Hid (play v p f a b ra rb n = pst v p f a b ra rb (asks n)) := play_end HE.out hb0
    have HLN : Hid ((pst v p f a b ra rb (asks n)).l.length ≤ 100) := by show _ ≤ _; rw [pst_len]; exact HAS.out
    have HBD : Hid (∀ k : Nat, -9223372036854775808 ≤ (pst v p f a b ra rb (asks n)).l.getD k 0 ∧ (pst v p f a b ra rb (asks n)).l.getD k 0 ≤ 9223372036854775807) := fun k => pst_bd _ _ _ _ _ _ _ _ k
    have HPE : Hid ((pst v p f a b ra rb (asks n)).e = 0) := pst_e _ _ _ _ _ _ _ _
    have PE : One W w1.heap.size (.int .i64 0) := by have := PK.e; rw [pst_e] at this; exact this
    clear hk hb0 P4 X1 X2 X3
    generalize pst v p f a b ra rb (asks n) = S at *
    obtain ⟨vv, O2, R2, H2⟩ := PK.l
    obtain ⟨av, cv, rfl⟩ : ∃ av cv, vv = .slice av S.l.length cv := by
      rcases R2.2 with ⟨e0, h0⟩ | ⟨g', cap, cur, e0, _⟩
      · exact ⟨none, 0, by rw [h0]; exact e0⟩
      · exact ⟨_, cap, e0⟩
    obtain ⟨e0, e1, ez⟩ := _root_.id PE
    have hz1 := HZ1.out
    have hz4 := HZ4.out
    have HZA : Hid (w.heap.size + 2 ≤ w1.heap.size ∧ w4.heap.size = w1.heap.size + 5) := ⟨hz1, hz4⟩
    have HCC : Hid (∀ b, C b → w4.heap.size + 2 ≤ b ∧ b < W.heap.size) := hC
    clear hz1 hz4 hC
    gi_wp2_with (fail)
    refine then_false ?_
    refine region_heldIn (fun W' => Tri W' w.heap.size (.int .i64 S.v) (.int .i64 S.p) (.int .i64 S.f) ∧ One W' (w1.heap.size + 1) (.slice av S.l.length cv)) (by kernel_rfl) ?_
    have SS : Tri W.drew w.heap.size (.int .i64 S.v) (.int .i64 S.p) (.int .i64 S.f) ∧ One W.drew (w1.heap.size + 1) (.slice av S.l.length cv) := ⟨PK.r.drew, O2⟩
    refine anyInH_take 0 75 (rg S.v S.p S.f) (by kernel_rfl) rfl rfl (by kernel_rfl) (by kernel_rfl) (by kernel_rfl) (fun _ _ _ h => h) (Or.inl ⟨by rfl, by intro w hSw; obtain ⟨k0, k1, k2, k3, k4, k5, k6⟩ := hSw.1; go_simp⟩) (fun w => by simp [Oper.about]) (SS) ?_
    try simp only [Act.put, List.setIfInBounds_toArray, List.set_cons_zero, List.set_cons_succ]
    refine anyInH_take 1 76 (.slice av S.l.length cv) (by kernel_rfl) rfl rfl (by kernel_rfl) (by kernel_rfl) (by kernel_rfl) (fun _ _ _ h => h) (Or.inl ⟨by rfl, by intro w hSw; obtain ⟨k0, k1, k2⟩ := hSw.2; go_simp⟩) (fun w => by simp [Oper.about]) (SS) ?_
    try simp only [Act.put, List.setIfInBounds_toArray, List.set_cons_zero, List.set_cons_succ]
    refine anyInH_one 2 (by kernel_rfl) rfl (by rfl) (fun K hK' => ?_)
    obtain ⟨g0, g1, g2, h0, h1, h2, gz⟩ := _root_.id PK.o
    go_simp
    obtain ⟨W6, hW6⟩ : ∃ W6, put3 W (w.heap.size + 1) (.int .i64 S.v) (.int .i64 S.p) (.int .i64 S.f) = W6 := ⟨_, rfl⟩
    have far : ∀ b, b ≠ w.heap.size + 1 → W6.heap[b]? = W.heap[b]? := fun b hb => by rw [← hW6]; exact put3_far hb _ _ _
    have z6 : W6.heap.size = W.heap.size := by rw [← hW6]; exact put3_size _ _ _ _ _
    have S6 : Tri W6.drew w.heap.size (.int .i64 S.v) (.int .i64 S.p) (.int .i64 S.f) ∧ One W6.drew (w1.heap.size + 1) (.slice av S.l.length cv) := ⟨(PK.r.of_block (W' := W6) (far _ (by omega)) (by omega)).drew, O2.of_block (W' := W6) (far _ (by have := HZA.out; omega)) (by omega)⟩
    have T6 : Tri W6 (w.heap.size + 1) (.int .i64 S.v) (.int .i64 S.p) (.int .i64 S.f) := by rw [← hW6]; exact PK.o.store _ _ _
    have B6 : Below w.heap.size w W6 := by rw [← hW6]; exact Below.put3 PK.b (by omega) _ _ _
    dsimp only [put3] at hW6
    rw [hW6]
    clear hW6 g0 g1 g2 h0 h1 h2 gz
    refine hK' _ _ S6 (fun hS => ?_)
    clear hK'
    try simp only [Act.put, List.setIfInBounds_toArray, List.set_cons_zero, List.set_cons_succ]
    refine anyInH_take 3 13 (.slice av S.l.length cv) (by kernel_rfl) rfl rfl (by kernel_rfl) (by kernel_rfl) (by kernel_rfl) (fun _ _ _ h => h) (Or.inl ⟨by rfl, by intro w hSw; go_simp⟩) (fun w => by simp [Oper.about]) (S6) ?_
    try simp only [Act.put, List.setIfInBounds_toArray, List.set_cons_zero, List.set_cons_succ]
    refine anyInH_take 4 14 (.int .i64 0) (by kernel_rfl) rfl rfl (by kernel_rfl) (by kernel_rfl) (by kernel_rfl) (fun _ _ _ h => h) (Or.inl ⟨by rfl, by intro w hSw; go_simp⟩) (fun w => by simp [Oper.about]) (S6) ?_
    try simp only [Act.put, List.setIfInBounds_toArray, List.set_cons_zero, List.set_cons_succ]
    refine anyInH_done (by kernel_rfl) ?_ _
    gi_wp2
    have K6 : W6.heap[w4.heap.size]? = some (.deferred (some [])) := (far _ (by have := HZA.out; omega)).trans hK
    refine ⟨by simp, .inl ⟨_, _, rfl, run_takeDeferred (w := W6.drew) K6, ?_⟩⟩
    have T7 := T6.drew.putObj (l := w4.heap.size) (by have := HZA.out; omega) (.deferred none)
    obtain ⟨g0, g1, g2, h0, h1, h2, gz⟩ := _root_.id T7
    have R7 : (W6.drew.putObj w4.heap.size (.deferred none)).ownsRow w.heap.size 2 1 (.slice av S.l.length cv) S.l.length (S.l.map iv) := owns_of_block R2 (fun b hb => by
      have hb' := HCC.out b ((H2 b).2 hb)
      have hza := HZA.out
      exact (World.putObj_heap_other (by omega)).trans (far b (by omega)))
    obtain ⟨a7, c7, e7, Rw7⟩ := owns_row R7 HLN.out HBD.out
    refine ⟨pvV S av cv, by simp [results, Try.results15, go_sem, g0, g1, g2, h0, h1, h2, gz, HPE.out], ?_⟩
    rw [HPL.out]
    refine ⟨av, cv, rfl, ?_, below_putObj B6.drew (by have := HZA.out; omega) _⟩
    cases e7
    exact Rw7
  case stop =>
    rintro cd C W ⟨rfl, hn, hbe, PK⟩ hK hC
    have HPL : Hid (play v p f a b ra rb n = ⟨0, 0, 0, [], (bal v p f b a rb ra).e⟩) := play_bad HE.out hn hbe
    have hc : ((bal v p f b a rb ra).e != 0) = true := by simpa using hbe
    have hz1 := HZ1.out
    have hz4 := HZ4.out
    have PE := PK.e
    dsimp only at PE
    clear P4 X1 X2 X3 hn hbe
    generalize (bal v p f b a rb ra).e = c at *
    obtain ⟨e0, e1, ez⟩ := _root_.id PE
    have HZA : Hid (w.heap.size + 2 ≤ w1.heap.size ∧ w4.heap.size = w1.heap.size + 5) := ⟨hz1, hz4⟩
    clear hz4
    gi_wp2_with (fail)
    have hK0 : Hid (W.heap[w4.heap.size]? = some (.deferred (some []))) := hK
    clear hK
    have HT := PK.o
    refine then_false ?_
    refine region_heldIn (fun W' => One W' (w1.heap.size) (.int .i64 c)) (by kernel_rfl) ?_
    refine anyInH_take 0 73 (rg 0 0 0) (by kernel_rfl) rfl rfl (by kernel_rfl) (by kernel_rfl) (by kernel_rfl) (fun _ _ _ h => h) (Or.inl ⟨by rfl, by intro w hSw; go_simp⟩) (fun w => by simp [Oper.about]) (PE) ?_
    try simp only [Act.put, List.setIfInBounds_toArray, List.set_cons_zero, List.set_cons_succ]
    refine anyInH_take 1 74 (.int .i64 c) (by kernel_rfl) rfl rfl (by kernel_rfl) (by kernel_rfl) (by kernel_rfl) (fun _ _ _ h => h) (Or.inl ⟨by rfl, by intro w hSw; obtain ⟨s0, s1, s2⟩ := hSw; go_simp⟩) (fun w => by simp [Oper.about]) (PE) ?_
    try simp only [Act.put, List.setIfInBounds_toArray, List.set_cons_zero, List.set_cons_succ]
    refine anyInH_one 2 (by kernel_rfl) rfl (by rfl) (fun K hK => ?_)
    obtain ⟨g0, g1, g2, h0, h1, h2, gz⟩ := _root_.id (HT)
    go_simp
    have OO : One (put3 W (w.heap.size + 1) (.int .i64 0) (.int .i64 0) (.int .i64 0)).drew (w1.heap.size) (.int .i64 c) := One.of_block (W := W) PE (put3_far (W := W) (by omega) _ _ _) (Nat.le_of_eq (put3_size W _ _ _ _).symm)
    have TT := (HT).store (.int .i64 0) (.int .i64 0) (.int .i64 0)
    obtain ⟨W6, hW6⟩ : ∃ W6, (put3 W (w.heap.size + 1) (.int .i64 0) (.int .i64 0) (.int .i64 0)) = W6 := ⟨_, rfl⟩
    rw [hW6] at OO TT
    dsimp only [put3] at hW6
    rw [hW6]
    clear g0 g1 g2 h0 h1 h2 gz
    refine hK _ _ OO (fun hS => ?_)
    clear hK
    try simp only [Act.put, List.setIfInBounds_toArray, List.set_cons_zero, List.set_cons_succ]
    refine anyInH_take 3 13 (.slice none 0 0) (by kernel_rfl) rfl rfl (by kernel_rfl) (by kernel_rfl) (by kernel_rfl) (fun _ _ _ h => h) (Or.inl ⟨by rfl, by intro w hSw; go_simp⟩) (fun w => by simp [Oper.about]) (OO) ?_
    try simp only [Act.put, List.setIfInBounds_toArray, List.set_cons_zero, List.set_cons_succ]
    refine anyInH_take 4 14 (.int .i64 c) (by kernel_rfl) rfl rfl (by kernel_rfl) (by kernel_rfl) (by kernel_rfl) (fun _ _ _ h => h) (Or.inl ⟨by rfl, by intro w hSw; go_simp⟩) (fun w => by simp [Oper.about]) (OO) ?_
    try simp only [Act.put, List.setIfInBounds_toArray, List.set_cons_zero, List.set_cons_succ]
    refine anyInH_done (by kernel_rfl) ?_ _
    gi_wp2
    have K6 : W6.heap[w4.heap.size]? = some (.deferred (some [])) := by rw [← hW6]; exact (put3_far (W := W) (by have := HZA.out; omega) _ _ _).trans hK0.out
    refine ⟨by simp, .inl ⟨_, _, rfl, run_takeDeferred (w := W6.drew) K6, ?_⟩⟩
    have T7 := TT.drew.putObj (l := w4.heap.size) (by have := HZA.out; omega) (.deferred none)
    obtain ⟨g0, g1, g2, h0, h1, h2, gz⟩ := _root_.id T7
    refine ⟨pvV ⟨0, 0, 0, [], c⟩ none 0, by simp [results, Try.results15, go_sem, g0, g1, g2, h0, h1, h2, gz], ?_⟩
    rw [HPL.out]
    refine ⟨none, 0, rfl, ⟨rfl, Nat.zero_le _, fun k => by simp, .inl rfl⟩, below_putObj (Below.drew ?_) (by have := HZA.out; omega) _⟩
    rw [← hW6]
    exact Below.put3 PK.b (by omega) _ _ _
theorem play_any (v p f a b ra rb n : Int) (w : World) : Calls Try.prog 15 #[.int .i64 a, .int .i64 b, rg v p f, .int .i64 ra, .int .i64 rb, .int .i64 n] w fun e w' => ∃ sl cap, e = .returned (pvV (play v p f a b ra rb n) sl cap) ∧ Row w' sl (play v p f a b ra rb n).l.length (play v p f a b ra rb n).l ∧ Below w.heap.size w w' := by
  rcases ends_cases v p f a b ra rb with h | h | ⟨_, _, _, _, _, h⟩
  · rw [show play v p f a b ra rb n = ⟨0, 0, 0, [], 31⟩ from by unfold play; rw [h]; rfl]
    refine (play_err v p f a b ra rb n 31 w h (by decide)).mono ?_
    rintro e w' ⟨rfl, hb⟩
    exact ⟨none, 0, rfl, ⟨rfl, Nat.zero_le _, fun k => by simp, .inl rfl⟩, hb⟩
  · rw [show play v p f a b ra rb n = ⟨0, 0, 0, [], 10⟩ from by unfold play; rw [h]; rfl]
    refine (play_err v p f a b ra rb n 10 w h (by decide)).mono ?_
    rintro e w' ⟨rfl, hb⟩
    exact ⟨none, 0, rfl, ⟨rfl, Nat.zero_le _, fun k => by simp, .inl rfl⟩, hb⟩
  · exact play_ok v p f a b ra rb n _ _ w h
end Go.Proofs.Ytcjdfnfaiocdjaa
