/-
  Package book: the sum over entries, by what each counts for.
-/
import Derived.Test.YtcacocndcfbmaaaB4
namespace Go.Proofs.Ytcacocndcfbmaaa
open Go.ChangeShapes Go.WideShapes Go.ChangeAt Go.RowKit Go.Maps Go.Shelf
set_option linter.unusedVariables false
set_option linter.unusedSimpArgs false
attribute [local go_sem] Oper.semAt_some

set_option maxRecDepth 100000 in
set_option maxHeartbeats 8000000 in
theorem sumB_any (w0 : World) (fb : Nat) (id : Int) (A : Option Addr) (c : Nat) (hs : List HS) (name : ByteArray) (begin_ : Int) (peer : Int) (pb : Nat) (w : World) (P : Hs w0 A hs.length c hs) (K0 : KeepE w0 fb id (.slice A hs.length c) name w) (hfb : fb + 3 ≤ w.heap.size) (hw0 : w0.heap.size ≤ w.heap.size) (hn : hs.length ≤ 500) (hbg : -2147483647 ≤ begin_ ∧ begin_ ≤ 2147483647) (hpb : One w pb (.int .i64 peer)):
    Calls Try.prog 26 #[.int .i64 begin_, .func (.func 38) #[] #[.pointer (some ⟨fb + 1, 0, none⟩), .pointer (some ⟨fb + 1 + 1, 0, none⟩), .pointer (some ⟨fb, 0, none⟩)], .func (.func 32) #[] #[.pointer (some ⟨pb, 0, none⟩)]] w fun e w' => e = .returned (.tuple #[.int .i64 (chkV (begin_ :: (ents id name hs).map (cntB peer)).sum), .int .i64 (chkE (begin_ :: (ents id name hs).map (cntB peer)).sum)]) ∧ Below w.heap.size w w' := by
  have HLE : Hid ((ents id name hs).length ≤ hs.length) := ents_len _ _ _
  have HN : Hid (hs.length ≤ 500) := hn
  have HBG : Hid (-2147483647 ≤ begin_ ∧ begin_ ≤ 2147483647) := hbg
  have HFB : Hid (fb + 3 ≤ w.heap.size) := hfb
  have HW0 : Hid (w0.heap.size ≤ w.heap.size) := hw0
  obtain ⟨w4, hw4⟩ : ∃ w4, (((w.alloc (.cells #[.func (.func 32) #[] #[.pointer (some ⟨pb, 0, none⟩)]] 67)).alloc (.cells #[.int .i64 begin_] 2)).alloc (.cells #[.slice (some ⟨w.heap.size + 1, 0, none⟩) 1 1] 44)) = w4 := ⟨_, rfl⟩
  have B4 : Below w.heap.size w w4 := by rw [← hw4]; exact (((Below.refl _ _).alloc (Nat.le_refl _) _).alloc (by simp <;> omega) _).alloc (by simp <;> omega) _
  have z4 : w4.heap.size = w.heap.size + 3 := by rw [← hw4]; simp
  have x0 : One w4 w.heap.size (.func (.func 32) #[] #[.pointer (some ⟨pb, 0, none⟩)]) := by rw [← hw4]; exact ((One.new _ _ _).alloc _).alloc _
  have x1 : w4.heap[w.heap.size + 1]? = some (.cells #[.int .i64 begin_] 2 (0, 0)) := by rw [← hw4]; exact heap_old (by simp) (heap_new (by simp))
  have x2 : One w4 (w.heap.size + 1 + 1) (.slice (some ⟨w.heap.size + 1, 0, none⟩) 1 1) := by rw [← hw4]; exact (One.new _ _ _).at (by simp)
  have HZ : Hid (w4.heap.size = w.heap.size + 3) := z4
  have HW : Hid ((((w.alloc (.cells #[.func (.func 32) #[] #[.pointer (some ⟨pb, 0, none⟩)]] 67)).alloc (.cells #[.int .i64 begin_] 2)).alloc (.cells #[.slice (some ⟨w.heap.size + 1, 0, none⟩) 1 1] 44)) = w4) := hw4
  have K4 : KeepE w0 fb id (.slice A hs.length c) name w4 := K0.later B4
  have O4 : HoldsN 2 1 (w.heap.size + 3) w4 (w.heap.size + 1 + 1) w.heap.size (fun _ => False) 1 ((begin_ :: ((ents id name hs).take 0).map (cntB peer)).map iv) := by
    refine ⟨_, x2, ⟨rfl, .inr ⟨w.heap.size + 1, 1, _, rfl, by omega, x1, Nat.le_refl _, by decide, rfl, rfl⟩⟩, fun g => ⟨fun h => h.elim, fun h => ?_⟩, fun h => ?_⟩
    · have : w.heap.size + 1 = g := by simpa [Value.ownBlock] using h.1
      omega
    · simp [Value.ownBlock] at h
  have Q4 : One w4 pb (.int .i64 peer) := hpb.below B4
  have HPB : Hid (pb < w.heap.size) := hpb.2.2
  clear hw4 z4 x1 x2 hn hbg hfb hw0
  obtain ⟨ZS, hZS⟩ : ∃ ZS, (begin_ :: (ents id name hs).map (cntB peer)).sum = ZS := ⟨_, rfl⟩
  rw [hZS]
  have HZS : Hid ((begin_ :: (ents id name hs).map (cntB peer)).sum = ZS) := hZS
  clear hZS
  refine (callsIn_wide (n := 2)).1 ?_
  refine callsIn_of_wp_marks Try.func26 rfl trivial ?_
  simp only [Try.ntmps26, List.size_toArray, List.length_cons, List.length_nil, Nat.reduceAdd, Nat.reduceSub, Array.replicate_succ, Array.replicate_zero, List.push_toArray, List.append_toArray, List.nil_append, List.cons_append]
  gi_wp2
  rw [HW.out]
  clear HW
  refine range_turns (gf := 38) (lb := #[.pointer (some ⟨fb + 1, 0, none⟩), .pointer (some ⟨fb + 1 + 1, 0, none⟩), .pointer (some ⟨fb, 0, none⟩)]) (by first | rfl | simp) (enters_of Try.func38 (by kernel_rfl) rfl)
    (entries_gives w0 fb id A c hs name w4 P) (Below.refl _ _) (fun _ => rfl)
    (fun k C W => k ≤ (ents id name hs).length ∧ HoldsN 2 1 (w.heap.size + 3) W (w.heap.size + 1 + 1) w.heap.size C (k + 1) ((begin_ :: ((ents id name hs).take k).map (cntB peer)).map iv) ∧ KeepE w0 fb id (.slice A hs.length c) name W ∧ Below w.heap.size w W ∧ One W w.heap.size (.func (.func 32) #[] #[.pointer (some ⟨pb, 0, none⟩)]) ∧ One W pb (.int .i64 peer))
    (fun c C W => False)
    (fun k C A h => h.2.2.1)
    (fun k C A B h s => ⟨h.1, h.2.1.same (by rw [HZ.out] at s; exact s) (by omega), h.2.2.1.same s (by have := HZ.out; have := HFB.out; omega) (by have := HZ.out; have := HW0.out; omega), Below.same h.2.2.2.1 s (by have := HZ.out; omega) (Nat.le_refl _), h.2.2.2.2.1.same s (by have := HZ.out; omega), h.2.2.2.2.2.same s (by have := HZ.out; have := HPB.out; omega)⟩)
    (fun c C A B h s => h)
    ⟨Nat.zero_le _, O4, K4, B4, x0, Q4⟩
    (fun x a' W => a' = { tmps := #[.int .i64 begin_, .func (.func 38) #[] #[.pointer (some ⟨fb + 1, 0, none⟩), .pointer (some ⟨fb + 1 + 1, 0, none⟩), .pointer (some ⟨fb, 0, none⟩)], .func (.func 32) #[] #[.pointer (some ⟨pb, 0, none⟩)], undef, undef, .pointer (some ⟨w.heap.size, 0, none⟩), .int .i64 0, .int .i64 0, .pointer (some ⟨w.heap.size + 1 + 1, 0, none⟩), .int .i64 x.1, .int .i64 x.2, .int .i64 begin_, .slice (some ⟨w.heap.size + 1, 0, none⟩) 1 1, .func (.func 38) #[] #[.pointer (some ⟨fb + 1, 0, none⟩), .pointer (some ⟨fb + 1 + 1, 0, none⟩), .pointer (some ⟨fb, 0, none⟩)], .int .i64 x.1, .int .i64 x.2, undef, undef, undef, undef, undef, undef, undef, undef, undef, undef, undef], defers := [] })
    (fun x a' A o h => h)
    ?assign ?body ?done ?stop
  case assign =>
    rintro k ⟨p, q⟩ W C K hi hs' hK
    dsimp only [encE]
    gi_wp2
    exact hK _ _ rfl (Below.refl _ _)
  case body =>
    rintro k x C a' W ⟨hk, ⟨v, O2, R2, H2, N2⟩, K2, B2, X2, Q2⟩ rfl hx hs' hC
    have hk' : k < (ents id name hs).length := (List.getElem?_eq_some_iff.1 hx).1
    have hxr := ents_rng (List.mem_of_getElem? hx)
    have hT1 : (begin_ :: ((ents id name hs).take (k + 1)).map (cntB peer)).map iv = (begin_ :: ((ents id name hs).take k).map (cntB peer)).map iv ++ [iv ((cntB peer) x)] := by
      rw [List.take_add_one, hx]; simp
    obtain ⟨ys, hys⟩ : ∃ ys, (begin_ :: ((ents id name hs).take k).map (cntB peer)).map iv = ys := ⟨_, rfl⟩
    rw [hys] at R2 hT1
    have HY : Hid ((begin_ :: ((ents id name hs).take (k + 1)).map (cntB peer)).map iv = ys ++ [iv ((cntB peer) x)]) := hT1
    have HK1 : Hid (k < (ents id name hs).length) := hk'
    have HXR : Hid (-2147483647 ≤ x.2 ∧ x.2 ≤ 2147483647) := hxr
    obtain ⟨av, cv, rfl⟩ : ∃ av cv, v = .slice av (k + 1) cv := by
      rcases R2.2 with ⟨_, h0⟩ | ⟨g, cap, cur, e, _⟩
      · omega
      · exact ⟨_, cap, e⟩
    obtain ⟨o0, o1, oz⟩ := _root_.id O2
    have c0 := X2.1
    have hzW : w.heap.size + 3 ≤ W.heap.size := by have := HZ.out; omega
    have HZW : Hid (w.heap.size + 3 ≤ W.heap.size) := hzW
    have HCC : Hid (∀ b, C b → w4.heap.size + 2 ≤ b ∧ b < W.heap.size) := hC
    have HK2 : Hid (KeepE w0 fb id (.slice A hs.length c) name W) := K2
    have HB2 : Hid (Below w.heap.size w W) := B2
    have WA : ∀ (X : World), Below W.heap.size W X → X.ownsRow w.heap.size 2 1 (.slice av (k + 1) cv) (k + 1) ys := fun X b => owns_later R2 b
    clear hT1 hys hx hk' hxr hs' K2 B2
    have FIN : ∀ (W1 : World) (g cap : Nat) (Wm : World), Below W.heap.size W Wm → W1.ownsRow w.heap.size 2 1 (.slice (some ⟨g, 0, none⟩) (k + 1 + 1) cap) (k + 1 + 1) (ys ++ [iv ((cntB peer) x)]) → Wm.grownBy W1 (Value.slice av (k + 1) cv).ownBlock → ((Value.slice av (k + 1) cv).ownBlock = some g ∨ g = Wm.heap.size) →
        One W1 (w.heap.size + 1 + 1) (.slice av (k + 1) cv) ∧ (∃ C', (k + 1 ≤ (ents id name hs).length ∧ HoldsN 2 1 (w.heap.size + 3) (W1.setCell ⟨w.heap.size + 1 + 1, 0, none⟩ (.slice (some ⟨g, 0, none⟩) (k + 1 + 1) cap)) (w.heap.size + 1 + 1) w.heap.size C' (k + 1 + 1) ((begin_ :: ((ents id name hs).take (k + 1)).map (cntB peer)).map iv) ∧ KeepE w0 fb id (.slice A hs.length c) name (W1.setCell ⟨w.heap.size + 1 + 1, 0, none⟩ (.slice (some ⟨g, 0, none⟩) (k + 1 + 1) cap)) ∧ Below w.heap.size w (W1.setCell ⟨w.heap.size + 1 + 1, 0, none⟩ (.slice (some ⟨g, 0, none⟩) (k + 1 + 1) cap)) ∧ One (W1.setCell ⟨w.heap.size + 1 + 1, 0, none⟩ (.slice (some ⟨g, 0, none⟩) (k + 1 + 1) cap)) w.heap.size (.func (.func 32) #[] #[.pointer (some ⟨pb, 0, none⟩)]) ∧ One (W1.setCell ⟨w.heap.size + 1 + 1, 0, none⟩ (.slice (some ⟨g, 0, none⟩) (k + 1 + 1) cap)) pb (.int .i64 peer)) ∧ Turn w4.heap.size C C' W (W1.setCell ⟨w.heap.size + 1 + 1, 0, none⟩ (.slice (some ⟨g, 0, none⟩) (k + 1 + 1) cap))) ∧ One (W1.setCell ⟨w.heap.size + 1 + 1, 0, none⟩ (.slice (some ⟨g, 0, none⟩) (k + 1 + 1) cap)) w.heap.size (.func (.func 32) #[] #[.pointer (some ⟨pb, 0, none⟩)]) ∧ One (W1.setCell ⟨w.heap.size + 1 + 1, 0, none⟩ (.slice (some ⟨g, 0, none⟩) (k + 1 + 1) cap)) pb (.int .i64 peer) ∧ One W1 w.heap.size (.func (.func 32) #[] #[.pointer (some ⟨pb, 0, none⟩)]) ∧ One W1 pb (.int .i64 peer) := by
      intro W1 g cap Wm bm r1 r2 r3
      have hzW := HZW.out
      obtain ⟨O3, H3, T3, hne, far⟩ := HoldsN.grow (M := w.heap.size + 3) O2 H2 N2 (by omega) hzW bm r1 r2 r3
      have own_hi : ∀ q, some q = (Value.slice av (k + 1) cv).ownBlock → w.heap.size < q := fun q e => by
        have h1 := (R2.lt q e.symm).1
        have : q ≠ w.heap.size := by
          rintro rfl
          have hc1 := X2.1
          have := (R2.lt _ e.symm).2
          rcases R2.2 with ⟨e0, h0⟩ | ⟨g', cap', cur', e0, _, hh, _⟩
          · omega
          · have eg : g' = w.heap.size := by rw [e0] at e; simpa [Value.ownBlock] using e.symm
            subst eg
            rcases R2.2 with ⟨_, h0⟩ | ⟨g2, cap2, cur2, e2, _, hh2, _, _, hcs2, ht2⟩
            · omega
            · have eg2 : g2 = w.heap.size := by rw [e2] at e; simpa [Value.ownBlock] using e.symm
              subst eg2
              have c00 : W.cell? ⟨w.heap.size, 0, none⟩ = cur2[0]? := by simp [World.cell?, hh2]
              have hz2 : ys[0]? = some (iv begin_) := by
                have := HY.out
                have h8 : ((begin_ :: ((ents id name hs).take (k + 1)).map (cntB peer)).map iv)[0]? = some (iv begin_) := rfl
                rw [this, List.getElem?_append_left (by have := R2.1; omega)] at h8
                exact h8
              rw [← ht2, List.getElem?_take, if_pos (by omega)] at hz2
              have h9 : cur2[0]? = some (iv begin_) := by simpa using hz2
              rw [c00, h9] at hc1
              cases hc1
        omega
      have hlo : ∀ q, q ≤ w.heap.size → (W1.setCell ⟨w.heap.size + 1 + 1, 0, none⟩ (.slice (some ⟨g, 0, none⟩) (k + 1 + 1) cap)).heap[q]? = W.heap[q]? := fun q hq => far q (by omega) (by omega) (fun e => by have := own_hi q e; omega)
      have hlo1 : ∀ q, q ≤ w.heap.size → W1.heap[q]? = W.heap[q]? := fun q hq => (r2.block q (by have := bm.size; omega) (fun e => by have := own_hi q e; omega)).trans (bm.block q (by omega))
      have hszs : W.heap.size ≤ W1.heap.size := by have := bm.size; have := r2.size; omega
      have hsz : W.heap.size ≤ (W1.setCell ⟨w.heap.size + 1 + 1, 0, none⟩ (.slice (some ⟨g, 0, none⟩) (k + 1 + 1) cap)).heap.size := by simpa [World.setCell] using hszs
      have hfb := HFB.out
      have B3 : Below w.heap.size w (W1.setCell ⟨w.heap.size + 1 + 1, 0, none⟩ (.slice (some ⟨g, 0, none⟩) (k + 1 + 1) cap)) :=
        ((HB2.out.trans (bm.mono HB2.out.size)).grown r2 (by have := HB2.out.size; have := bm.size; omega) (fun j e => (R2.lt j e).1)).setCell (p := ⟨w.heap.size + 1 + 1, 0, none⟩) (by show w.heap.size ≤ w.heap.size + 1 + 1; omega) _
      have KK := HK2.out.far (HK2.out.below.trans ⟨by rw [B3.os, HB2.out.os], by rw [B3.tape, HB2.out.tape], by rw [B3.output, HB2.out.output], hsz, fun q hq => hlo q (by have := HW0.out; omega)⟩) hsz (fun q h5 h6 => hlo q (by omega))
      have XX := X2.of_block (hlo w.heap.size (Nat.le_refl _)) hsz
      have XY := X2.of_block (hlo1 w.heap.size (Nat.le_refl _)) hszs
      have QQ := Q2.of_block (hlo pb (by have := HPB.out; omega)) hsz
      have QY := Q2.of_block (hlo1 pb (by have := HPB.out; omega)) hszs
      exact ⟨O3, ⟨_, ⟨HK1.out, by rw [HY.out]; exact H3, KK, B3, XX, QQ⟩, by rw [HZ.out]; exact T3⟩, XX, QQ, XY, QY⟩
    gi_wp2_with (fail)
    refine region_heldIn (fun W' => W'.cell? ⟨w.heap.size, 0, none⟩ = some (.func (.func 32) #[] #[.pointer (some ⟨pb, 0, none⟩)]) ∧ One W' pb (.int .i64 peer)) (by kernel_rfl) ?_
    refine anyInH_take 1 17 (.func (.func 32) #[] #[.pointer (some ⟨pb, 0, none⟩)]) (by kernel_rfl) rfl rfl (by kernel_rfl) (by kernel_rfl) (by kernel_rfl) (fun _ _ _ h => h) (Or.inl ⟨by rfl, by intro w hSw; have s1 := hSw.1; go_simp⟩) (fun w => by simp [Oper.about]) (⟨c0, Q2⟩) ?_
    try simp only [Act.put, List.setIfInBounds_toArray, List.set_cons_zero, List.set_cons_succ]
    refine anyInH_take 2 18 (.int .i64 x.1) (by kernel_rfl) rfl rfl (by kernel_rfl) (by kernel_rfl) (by kernel_rfl) (fun _ _ _ h => h) (Or.inl ⟨by rfl, by intro w hSw; go_simp⟩) (fun w => by simp [Oper.about]) (⟨c0, Q2⟩) ?_
    try simp only [Act.put, List.setIfInBounds_toArray, List.set_cons_zero, List.set_cons_succ]
    refine anyInH_take 3 19 (.int .i64 x.2) (by kernel_rfl) rfl rfl (by kernel_rfl) (by kernel_rfl) (by kernel_rfl) (fun _ _ _ h => h) (Or.inl ⟨by rfl, by intro w hSw; go_simp⟩) (fun w => by simp [Oper.about]) (⟨c0, Q2⟩) ?_
    try simp only [Act.put, List.setIfInBounds_toArray, List.set_cons_zero, List.set_cons_succ]
    refine anyInH_two 0 4 (by kernel_rfl) rfl rfl (by rfl) (by rfl) (fun K hK => ?_) (fun K hK => ?_)
    · go_simp
      refine hK _ _ (⟨c0, Q2⟩) (fun hS => ?_)
      clear hK
      try simp only [Act.put, List.setIfInBounds_toArray, List.set_cons_zero, List.set_cons_succ]
      refine anyInH_one 4 (by kernel_rfl) rfl (by rfl) (fun K hK => ?_)
      go_simp
      refine ⟨trivial, ?_⟩
      gi_at_call 32
      refine (CallsIn.inRound _ (callsIn_wide.2 (cntB_any peer pb x _ (Q2.below (Below.refl _ _).drew)))).mono ?_
      rintro e w7 ⟨rfl, hw7⟩
      rw [hw7]
      clear hw7 w7
      refine hK _ _ (⟨c0, Q2⟩) (fun hS => ?_)
      clear hK
      try simp only [Act.put, List.setIfInBounds_toArray, List.set_cons_zero, List.set_cons_succ]
      refine anyInH_one 5 (by kernel_rfl) rfl (by rfl) (fun K hK => ?_)
      have XA := X2.below (((Below.refl _ _).alloc (Nat.le_refl _) (.cells #[.int .i64 ((cntB peer) x)] 2)).drew)
      have cA := XA.1
      have QA := Q2.below (((Below.refl _ _).alloc (Nat.le_refl _) (.cells #[.int .i64 ((cntB peer) x)] 2)).drew)
      go_simp
      refine hK _ _ (⟨cA, QA⟩) (fun hS => ?_)
      clear hK
      try simp only [Act.put, List.setIfInBounds_toArray, List.set_cons_zero, List.set_cons_succ]
      refine anyInH_one 6 (by kernel_rfl) rfl (by rfl) (fun K hK => ?_)
      refine wpIn_append_int _ _ rfl w.heap.size (.slice av (k + 1) cv) (k + 1) ys rfl (WA _ (((Below.refl _ _).alloc (Nat.le_refl _) (.cells #[.int .i64 ((cntB peer) x)] 2)).drew)) ⟨W.heap.size, 0, none⟩ ((cntB peer) x) rfl (cell_one_new _ _ _) (by have := HN.out; have := HLE.out; have := HK1.out; omega) (by have := HZW.out; show w.heap.size ≤ (W.alloc (.cells #[.int .i64 ((cntB peer) x)] 2)).drew.heap.size; have h9 : (W.alloc (.cells #[.int .i64 ((cntB peer) x)] 2)).drew.heap.size = W.heap.size + 1 := (by show (W.alloc (.cells #[.int .i64 ((cntB peer) x)] 2)).heap.size = _; simp); omega) ?_
      intro g cap W1 r1 r2 r3
      obtain ⟨O3, ⟨C', I3, T3⟩, XX, QQ, XY, QY⟩ := FIN W1 g cap _ (((Below.refl _ _).alloc (Nat.le_refl _) (.cells #[.int .i64 ((cntB peer) x)] 2)).drew) r1 r2 r3
      obtain ⟨p0, p1, pz⟩ := _root_.id O3
      refine hK _ _ (⟨XY.1, QY⟩) (fun hS => ?_)
      clear hK
      try simp only [Act.put, List.setIfInBounds_toArray, List.set_cons_zero, List.set_cons_succ]
      refine anyInH_one 7 (by kernel_rfl) rfl (by rfl) (fun K hK => ?_)
      go_simp
      refine hK _ _ (⟨XX.1, QQ⟩) (fun hS => ?_)
      clear hK
      try simp only [Act.put, List.setIfInBounds_toArray, List.set_cons_zero, List.set_cons_succ]
      refine anyInH_done (by kernel_rfl) ?_ _
      gi_wp2
      exact ⟨C', I3, T3⟩
    · go_simp
      refine ⟨trivial, ?_⟩
      gi_at_call 32
      refine (CallsIn.inRound _ (callsIn_wide.2 (cntB_any peer pb x _ (Q2.below (Below.refl _ _).drew)))).mono ?_
      rintro e w7 ⟨rfl, hw7⟩
      rw [hw7]
      clear hw7 w7
      refine hK _ _ (⟨c0, Q2⟩) (fun hS => ?_)
      clear hK
      try simp only [Act.put, List.setIfInBounds_toArray, List.set_cons_zero, List.set_cons_succ]
      refine anyInH_two 0 5 (by kernel_rfl) rfl rfl (by rfl) (by rfl) (fun K hK => ?_) (fun K hK => ?_)
      · go_simp
        refine hK _ _ (⟨c0, Q2⟩) (fun hS => ?_)
        clear hK
        try simp only [Act.put, List.setIfInBounds_toArray, List.set_cons_zero, List.set_cons_succ]
        refine anyInH_one 5 (by kernel_rfl) rfl (by rfl) (fun K hK => ?_)
        have XA := X2.below (((Below.refl _ _).alloc (Nat.le_refl _) (.cells #[.int .i64 ((cntB peer) x)] 2)).drew)
        have cA := XA.1
        have QA := Q2.below (((Below.refl _ _).alloc (Nat.le_refl _) (.cells #[.int .i64 ((cntB peer) x)] 2)).drew)
        go_simp
        refine hK _ _ (⟨cA, QA⟩) (fun hS => ?_)
        clear hK
        try simp only [Act.put, List.setIfInBounds_toArray, List.set_cons_zero, List.set_cons_succ]
        refine anyInH_one 6 (by kernel_rfl) rfl (by rfl) (fun K hK => ?_)
        refine wpIn_append_int _ _ rfl w.heap.size (.slice av (k + 1) cv) (k + 1) ys rfl (WA _ (((Below.refl _ _).alloc (Nat.le_refl _) (.cells #[.int .i64 ((cntB peer) x)] 2)).drew)) ⟨W.heap.size, 0, none⟩ ((cntB peer) x) rfl (cell_one_new _ _ _) (by have := HN.out; have := HLE.out; have := HK1.out; omega) (by have := HZW.out; show w.heap.size ≤ (W.alloc (.cells #[.int .i64 ((cntB peer) x)] 2)).drew.heap.size; have h9 : (W.alloc (.cells #[.int .i64 ((cntB peer) x)] 2)).drew.heap.size = W.heap.size + 1 := (by show (W.alloc (.cells #[.int .i64 ((cntB peer) x)] 2)).heap.size = _; simp); omega) ?_
        intro g cap W1 r1 r2 r3
        obtain ⟨O3, ⟨C', I3, T3⟩, XX, QQ, XY, QY⟩ := FIN W1 g cap _ (((Below.refl _ _).alloc (Nat.le_refl _) (.cells #[.int .i64 ((cntB peer) x)] 2)).drew) r1 r2 r3
        obtain ⟨p0, p1, pz⟩ := _root_.id O3
        refine hK _ _ (⟨XY.1, QY⟩) (fun hS => ?_)
        clear hK
        try simp only [Act.put, List.setIfInBounds_toArray, List.set_cons_zero, List.set_cons_succ]
        refine anyInH_one 7 (by kernel_rfl) rfl (by rfl) (fun K hK => ?_)
        go_simp
        refine hK _ _ (⟨XX.1, QQ⟩) (fun hS => ?_)
        clear hK
        try simp only [Act.put, List.setIfInBounds_toArray, List.set_cons_zero, List.set_cons_succ]
        refine anyInH_done (by kernel_rfl) ?_ _
        gi_wp2
        exact ⟨C', I3, T3⟩
      · have XA := X2.below (((Below.refl _ _).alloc (Nat.le_refl _) (.cells #[.int .i64 ((cntB peer) x)] 2)).drew)
        have cA := XA.1
        have QA := Q2.below (((Below.refl _ _).alloc (Nat.le_refl _) (.cells #[.int .i64 ((cntB peer) x)] 2)).drew)
        go_simp
        refine hK _ _ (⟨cA, QA⟩) (fun hS => ?_)
        clear hK
        try simp only [Act.put, List.setIfInBounds_toArray, List.set_cons_zero, List.set_cons_succ]
        refine anyInH_one 0 (by kernel_rfl) rfl (by rfl) (fun K hK => ?_)
        have OA := O2.below (((Below.refl _ _).alloc (Nat.le_refl _) (.cells #[.int .i64 ((cntB peer) x)] 2)).drew)
        obtain ⟨oa0, oa1, oaz⟩ := _root_.id OA
        go_simp
        refine hK _ _ (⟨cA, QA⟩) (fun hS => ?_)
        clear hK
        try simp only [Act.put, List.setIfInBounds_toArray, List.set_cons_zero, List.set_cons_succ]
        refine anyInH_one 6 (by kernel_rfl) rfl (by rfl) (fun K hK => ?_)
        refine wpIn_append_int _ _ rfl w.heap.size (.slice av (k + 1) cv) (k + 1) ys rfl (WA _ (((Below.refl _ _).alloc (Nat.le_refl _) (.cells #[.int .i64 ((cntB peer) x)] 2)).drew)) ⟨W.heap.size, 0, none⟩ ((cntB peer) x) rfl (cell_one_new _ _ _) (by have := HN.out; have := HLE.out; have := HK1.out; omega) (by have := HZW.out; show w.heap.size ≤ (W.alloc (.cells #[.int .i64 ((cntB peer) x)] 2)).drew.heap.size; have h9 : (W.alloc (.cells #[.int .i64 ((cntB peer) x)] 2)).drew.heap.size = W.heap.size + 1 := (by show (W.alloc (.cells #[.int .i64 ((cntB peer) x)] 2)).heap.size = _; simp); omega) ?_
        intro g cap W1 r1 r2 r3
        obtain ⟨O3, ⟨C', I3, T3⟩, XX, QQ, XY, QY⟩ := FIN W1 g cap _ (((Below.refl _ _).alloc (Nat.le_refl _) (.cells #[.int .i64 ((cntB peer) x)] 2)).drew) r1 r2 r3
        obtain ⟨p0, p1, pz⟩ := _root_.id O3
        refine hK _ _ (⟨XY.1, QY⟩) (fun hS => ?_)
        clear hK
        try simp only [Act.put, List.setIfInBounds_toArray, List.set_cons_zero, List.set_cons_succ]
        refine anyInH_one 7 (by kernel_rfl) rfl (by rfl) (fun K hK => ?_)
        go_simp
        refine hK _ _ (⟨XX.1, QQ⟩) (fun hS => ?_)
        clear hK
        try simp only [Act.put, List.setIfInBounds_toArray, List.set_cons_zero, List.set_cons_succ]
        refine anyInH_done (by kernel_rfl) ?_ _
        gi_wp2
        exact ⟨C', I3, T3⟩
  case done =>
    rintro C W ⟨hk, ⟨v, O2, R2, H2, N2⟩, K2, B2, X2, Q2⟩ hK hC
    obtain ⟨o0, o1, oz⟩ := _root_.id O2
    rw [List.take_length] at R2
    have hl : (begin_ :: (ents id name hs).map (cntB peer)).length = (ents id name hs).length + 1 := by simp
    rw [← hl] at R2
    have KS := nsum_any v (begin_ :: (ents id name hs).map (cntB peer)) W R2 ?rng (by rw [hl]; have := HLE.out; have := HN.out; omega)
    rw [HZS.out] at KS
    obtain ⟨av, cv, rfl⟩ : ∃ av cv, v = .slice av ((ents id name hs).length + 1) cv := by
      rcases R2.2 with ⟨_, h0⟩ | ⟨g, cap, cur, e, _⟩
      · rw [hl] at h0; omega
      · exact ⟨_, cap, by rw [hl] at e; exact e⟩
    clear R2 hl
    gi_wp2_with (refine ⟨trivial, ?_⟩; gi_at_call 41; refine (callsIn_wide.2 KS).mono ?_; rintro e w9 ⟨rfl, hw9⟩; rw [hw9]; clear hw9 w9)
    refine ⟨by simp, .inl ⟨_, _, rfl, run_takeDeferred hK, ?_⟩⟩
    exact ⟨_, results_tmp2 rfl _ _ _, rfl, below_putObj B2 (by have := HZ.out; omega) _⟩
    case rng =>
      intro j hj
      cases j with
      | zero => exact HBG.out
      | succ j =>
        have hj' : j < (ents id name hs).length := by rw [hl] at hj; omega
        have e : (begin_ :: (ents id name hs).map (cntB peer)).getD (j + 1) 0 = (cntB peer) ((ents id name hs)[j]) := by
          rw [List.getD_eq_getElem?_getD, List.getElem?_cons_succ, List.getElem?_map, List.getElem?_eq_getElem hj']; rfl
        rw [e]
        have hr := ents_rng (List.getElem_mem hj')
        unfold cntB
        split <;> omega
  case stop =>
    rintro c C W h _ _
    exact h.elim
end Go.Proofs.Ytcacocndcfbmaaa
