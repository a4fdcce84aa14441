/-
  The law's helper 'both': a call, on both sides: what is seen is the same (Write).
-/
import Derived.Test.YtoecgldpmmclgaaBoB
namespace Go.Proofs.Ytoecgldpmmclgaa
open Go.ChangeShapes Go.WideShapes Go.ChangeAt Go.RowKit
set_option linter.unusedVariables false
set_option linter.unusedSimpArgs false

set_option maxRecDepth 100000 in
set_option maxHeartbeats 8000000 in
theorem both_write (d l r m : Nat) (S0 T0 : DS) (nn : Int) (a : Option Addr) (len cap : Nat) (w : World) (B : Bth w d l r m S0 T0) (zs : List Int) (R : Row .u8 w a len cap zs) (hlen : len ≤ 140737488355328) (hdat : ∀ b o, a = some ⟨b, o, none⟩ → 0 < len → ¬ in4 d l r m b) :
    Calls Try.prog 10 (bothArgs d r 2 nn a len cap) w fun e w' => e = .returned (.bool true) ∧ Now w d l r m w' := by
  have X0 : (w.alloc (actO 2 nn a len cap)).heap[w.heap.size]? = some (actO 2 nn a len cap) := World.alloc_heap_new _ _
  have B0 : Below w.heap.size w (w.alloc (actO 2 nn a len cap)) := (Below.refl _ _).alloc (Nat.le_refl _) _
  have Bb := B.below B0
  have hlt := B.lt
  obtain ⟨x0, x1, x2⟩ := act_at X0
  have hR0 := R.below B0
  have hzb := R.byte
  have hz := R.size
  obtain ⟨hC, hSim⟩ := sim_wr B.sim nn len zs
  have KQ := fun W D R1 hb => rwrite_all0 r m T0 nn a len cap zs W D R1 hb
  rw [hC] at KQ
  obtain ⟨cc, hcd⟩ : ∃ cc, wrC S0 nn len = cc := ⟨_, rfl⟩
  have KP := fun a1 c1 W D R1 hb => write_all d l S0 nn a1 len c1 zs W D R1 hb
  rw [hcd] at KP KQ
  have hcc : (cc == cc) = true := by simp
  have HZ : Hid (zs.length = len) := hz
  have hfit : ([] : List Int).length + len ≤ 140737488355328 := by simpa using hlen
  clear hC hcd hz
  go_enter Try.func10, Try.ntmps10
  go_wp2_with (first
    | ((with_reducible show wpList _ _ _ (Oper.mk _ (Op.call { callee := Callee.builtin Builtin.append, args := _, argTypes := _ }) _ _ _ _ :: _) _ _); refine wpList_append_row _ rfl _ _ rfl (w.alloc (actO 2 nn a len cap)).heap.size (.slice none 0 0) [] rfl (Own.nil _ _) a len cap zs rfl hR0 (Nat.le_refl _) hfit ?_; intro v1 w1 O1 b1; rw [List.nil_append] at O1; obtain ⟨a1, n1, c1, rfl, R1, hn1, hcm1, hm1⟩ := O1.row hzb; obtain rfl : n1 = len := (by rw [hn1]; exact HZ.out); clear hn1; have X1 := (b1.block _ (row_lt X0)).trans X0; obtain ⟨y0, y1, y2⟩ := act_at X1; have B1 := Bb.below b1; have Rd1 := hR0.below b1)
    | (go_at_call 18; refine (KP _ _ _ B1.p R1 (fun b o e => (by have := (hm1 b o e).1; have h1 := hlt d (.inl rfl); have h2 := hlt l (.inr (.inl rfl)); simp at this; omega))).mono ?_; rintro e w2 ⟨rfl, P2, o2⟩; have Q2 := keepQ B1.q B1.dr B1.dm B1.lr B1.lm o2))
  clear KP
  have hd := hlt d (.inl rfl)
  have hl := hlt l (.inr (.inl rfl))
  have X2 := (o2.block _ (row_lt X1) (by rintro (e | e) <;> omega)).trans X1
  have Rd2 : Row .u8 w2 a n1 cap zs := Rd1.of_block0 o2.size (fun b o e hb h0 => o2.block b hb (by rintro (e' | e') <;> exact hdat b o e h0 (by rw [e']; first | exact .inl rfl | exact .inr (.inl rfl))))
  have HO1 : Hid (∀ g o, a1 = some ⟨g, o, none⟩ → o = 0 ∧ w.heap.size < g ∧ ∃ cs, w2.heap[g]? = some (.cells cs 5 (0, 0)) ∧ n1 ≤ cs.size) := by
    intro g o e
    subst e
    have e0 := (hm1 g o rfl).2.1
    subst e0
    obtain ⟨cs, h1, h2, h3⟩ := own_obj O1
    have h4 : w.heap.size < g := by simp at h3; omega
    exact ⟨rfl, h4, cs, (o2.block g (row_lt h1) (by rintro (e | e) <;> omega)).trans h1, h2⟩
  have o02 : Only (in4 d l r m) w w2 := (Only.of_below B0).trans ((Only.of_below b1).trans (o2.p4 r m))
  have HA1 : Hid (0 < n1 → ∃ g o, a1 = some ⟨g, o, none⟩) := by
    intro h0
    rcases R1.mem with h | ⟨b, off, e, _, _⟩
    · omega
    · exact ⟨b, off, e⟩
  have hle1 := R1.le
  go_loopg [65] n1 (fun g v65 wr => ∃ k : Nat, v65 = .int .i64 (k : Int) ∧ k + g = n1 ∧ Hid (Only (fun b => w.heap.size < b) w2 wr) ∧ Hid (∀ g o, a1 = some ⟨g, o, none⟩ → ∃ cs, wr.heap[g]? = some (.cells cs 5 (0, 0)) ∧ n1 ≤ cs.size))
  case atStart => exact ⟨0, rfl, by omega, Only.refl _ _, fun g o e => (HO1.out g o e).2.2⟩
  case round =>
    obtain ⟨k, rfl, hkg, HOk, HCk⟩ := hrel
    by_cases hk : k < n1
    · have hkI : (k : Int) < (n1 : Int) := by omega
      obtain ⟨g1, o1, rfl⟩ := HA1.out (by omega)
      obtain ⟨e0, hg1, _⟩ := HO1.out g1 o1 rfl
      subst e0
      obtain ⟨cs, hcs, hcn⟩ := HCk.out g1 0 rfl
      have ck := row_cell hcs k _ (Array.getElem?_eq_getElem (show k < cs.size by omega))
      have fk := row_free hcs k
      obtain ⟨ov, hov⟩ : ∃ ov, cs[k] = ov := ⟨_, rfl⟩
      rw [hov] at ck
      clear hov
      go_wp2
      go_roundg (gk - 1)
      case measure => omega
      case rel => exact ⟨k + 1, by go_num, by omega, (show Only _ _ _ from HOk.out.setCell (fun _ => hg1) _ _), fun g o e => (by cases e; exact ⟨_, set_row hcs k _, by simpa using hcn⟩)⟩
    · obtain rfl : k = n1 := by omega
      have Ok := HOk.out
      have X3 := (Ok.block _ (row_lt X2) (by omega)).trans X2
      obtain ⟨t0, t1, t2⟩ := act_at X3
      have P3 := P2.only Ok (by omega) (by omega)
      have Q3 := Q2.only Ok (by have := hlt r (.inr (.inr (.inl rfl))); omega) (by have := hlt m (.inr (.inr (.inr rfl))); omega)
      have Rd3 : Row .u8 wr a k cap zs := Rd2.of_block0 Ok.size (fun b o e hb h0 => Ok.block b hb (by rw [e] at R; have := R.lt h0; omega))
      go_wp2_with (go_at_call 23; refine (KQ _ Q3 Rd3 (fun b o e h0 h => hdat b o e h0 (.inr (.inr (.inl h))))).mono ?_; rintro e w4 ⟨rfl, Q4, o4⟩; have P4 := keepP P3 B.dr B.dm B.lr B.lm o4)
      have Bq : Bth w4 d l r m (wrS S0 nn k zs) (rwS T0 nn k zs) := ⟨P4, Q4, hSim, B.dr, B.dm, B.lr, B.lm⟩
      have oq : Only (in4 d l r m) w w4 := (o02.next Ok (fun q hq => .inl (by have h : w.heap.size < q := hq; omega))).trans (o4.q4 d l)
      clear KQ P4 Q4 o4 Rd3 Q3 P3 t0 t1 t2 X3 Ok HOk HCk HO1 HA1 o02 Rd2 X2 Q2 P2 o2 Rd1 B1 X1 y0 y1 y2 hm1 O1 hR0 x0 x1 x2 X0 Bb B0 R hdat R1 hle1 HZ hzb hcm1 hfit hlen hlt b1
      refine wp_region_any (by kernel_rfl) ?_
      change wpAny _ _ _ _ _ _ _ (World.drew _)
      generalize hwd : World.drew _ = wd
      have Bd := Bth.drewn (S := (wrS S0 nn k zs)) (T := (rwS T0 nn k zs)) (Bq) hwd
      have od := Only.drewn (C := in4 d l r m) (w0 := w) (oq) hwd
      clear hwd
      generalize (wrS S0 nn k zs) = S at Bd
      generalize (rwS T0 nn k zs) = T at Bd
      have e1 : ((S.n : Int) == (T.n : Int)) = true := by rw [Bd.sim.n]; simp
      have e2 : (S.gone == T.gone) = true := by rw [Bd.sim.gone]; simp
      have e3 : (S.done == T.done) = true := by rw [Bd.sim.done]; simp
      have HBS : Hid (T.bs = S.bs) := Bd.sim.bs.symm
      refine wpAny_narrow (fun X => Below wd.heap.size wd X) _ _ _ _ ?_
      refine anyH_take 0 96 (.bool true) rfl rfl (by kernel_rfl) (by kernel_rfl) (by kernel_rfl) (fun _ _ _ h => h) (Or.inl ⟨by rfl, by intro X hSw; go_simp⟩) (Below.refl _ _) ?_
      try simp only [Act.put, List.setIfInBounds_toArray, List.set_cons_zero, List.set_cons_succ]
      refine anyH_take 1 97 (.bool true) rfl rfl (by kernel_rfl) (by kernel_rfl) (by kernel_rfl) (fun _ _ _ h => h) (Or.inl ⟨by rfl, by intro X hSw; go_simp⟩) (Below.refl _ _) ?_
      try simp only [Act.put, List.setIfInBounds_toArray, List.set_cons_zero, List.set_cons_succ]
      refine anyH_take 2 98 (.pointer (some ⟨d, 0, none⟩)) rfl rfl (by kernel_rfl) (by kernel_rfl) (by kernel_rfl) (fun _ _ _ h => h) (Or.inl ⟨by rfl, by intro X hSw; go_simp⟩) (Below.refl _ _) ?_
      try simp only [Act.put, List.setIfInBounds_toArray, List.set_cons_zero, List.set_cons_succ]
      refine anyH_take 4 100 (.pointer (some ⟨r, 0, none⟩)) rfl rfl (by kernel_rfl) (by kernel_rfl) (by kernel_rfl) (fun _ _ _ h => h) (Or.inl ⟨by rfl, by intro X hSw; go_simp⟩) (Below.refl _ _) ?_
      try simp only [Act.put, List.setIfInBounds_toArray, List.set_cons_zero, List.set_cons_succ]
      refine wpAnyH_ready (rs := [3]) (by kernel_rfl) (by simp) ?_
      refine AllReadyH.cons rfl (fun K hK => ?_) AllReadyH.nil
      rw [if_pos (by rfl)]
      simp only [List.getElem_toArray, List.getElem_cons_succ, List.getElem_cons_zero]
      go_wp2_with (go_at_call 21; refine (sectors_any d l S wd Bd.p).mono ?_; rintro e w1 ⟨rfl, hw⟩; rw [hw]; clear hw)
      refine hK.out _ _ (Below.refl _ _) (fun hS => ?_)
      clear hK hS
      refine wpAnyH_ready (rs := [5]) (by kernel_rfl) (by simp) ?_
      refine AllReadyH.cons rfl (fun K hK => ?_) AllReadyH.nil
      rw [if_pos (by rfl)]
      simp only [List.getElem_toArray, List.getElem_cons_succ, List.getElem_cons_zero]
      go_wp2_with (go_at_call 26; refine (rsectors_any r m T wd Bd.q).mono ?_; rintro e w1 ⟨rfl, hw⟩; rw [hw]; clear hw)
      refine hK.out _ _ (Below.refl _ _) (fun hS => ?_)
      clear hK hS
      refine anyH_take 6 102 (.bool true) rfl rfl (by kernel_rfl) (by kernel_rfl) (by kernel_rfl) (fun _ _ _ h => h) (Or.inl ⟨by rfl, by intro X hSw; go_simp⟩) (Below.refl _ _) ?_
      try simp only [Act.put, List.setIfInBounds_toArray, List.set_cons_zero, List.set_cons_succ]
      refine anyH_take 7 103 (.bool true) rfl rfl (by kernel_rfl) (by kernel_rfl) (by kernel_rfl) (fun _ _ _ h => h) (Or.inl ⟨by rfl, by intro X hSw; go_simp⟩) (Below.refl _ _) ?_
      try simp only [Act.put, List.setIfInBounds_toArray, List.set_cons_zero, List.set_cons_succ]
      refine anyH_take 8 104 (.bool true) rfl rfl (by kernel_rfl) (by kernel_rfl) (by kernel_rfl) (fun _ _ _ h => h) (Or.inl ⟨by rfl, by intro X hSw; go_simp⟩) (Below.refl _ _) ?_
      try simp only [Act.put, List.setIfInBounds_toArray, List.set_cons_zero, List.set_cons_succ]
      refine anyH_take 9 105 (.pointer (some ⟨d, 0, none⟩)) rfl rfl (by kernel_rfl) (by kernel_rfl) (by kernel_rfl) (fun _ _ _ h => h) (Or.inl ⟨by rfl, by intro X hSw; go_simp⟩) (Below.refl _ _) ?_
      try simp only [Act.put, List.setIfInBounds_toArray, List.set_cons_zero, List.set_cons_succ]
      refine anyH_take 11 107 (.pointer (some ⟨r, 0, none⟩)) rfl rfl (by kernel_rfl) (by kernel_rfl) (by kernel_rfl) (fun _ _ _ h => h) (Or.inl ⟨by rfl, by intro X hSw; go_simp⟩) (Below.refl _ _) ?_
      try simp only [Act.put, List.setIfInBounds_toArray, List.set_cons_zero, List.set_cons_succ]
      refine wpAnyH_ready (rs := [10]) (by kernel_rfl) (by simp) ?_
      refine AllReadyH.cons rfl (fun K hK => ?_) AllReadyH.nil
      rw [if_pos (by rfl)]
      simp only [List.getElem_toArray, List.getElem_cons_succ, List.getElem_cons_zero]
      go_wp2_with (go_at_call 15; refine (dead_any d l S wd Bd.p).mono ?_; rintro e w1 ⟨rfl, hw⟩; rw [hw]; clear hw)
      refine hK.out _ _ (Below.refl _ _) (fun hS => ?_)
      clear hK hS
      refine wpAnyH_ready (rs := [12]) (by kernel_rfl) (by simp) ?_
      refine AllReadyH.cons rfl (fun K hK => ?_) AllReadyH.nil
      rw [if_pos (by rfl)]
      simp only [List.getElem_toArray, List.getElem_cons_succ, List.getElem_cons_zero]
      go_wp2_with (go_at_call 27; refine (rdead_any r m T wd Bd.q).mono ?_; rintro e w1 ⟨rfl, hw⟩; rw [hw]; clear hw)
      refine hK.out _ _ (Below.refl _ _) (fun hS => ?_)
      clear hK hS
      refine anyH_take 13 109 (.bool true) rfl rfl (by kernel_rfl) (by kernel_rfl) (by kernel_rfl) (fun _ _ _ h => h) (Or.inl ⟨by rfl, by intro X hSw; go_simp⟩) (Below.refl _ _) ?_
      try simp only [Act.put, List.setIfInBounds_toArray, List.set_cons_zero, List.set_cons_succ]
      refine anyH_take 14 110 (.bool true) rfl rfl (by kernel_rfl) (by kernel_rfl) (by kernel_rfl) (fun _ _ _ h => h) (Or.inl ⟨by rfl, by intro X hSw; go_simp⟩) (Below.refl _ _) ?_
      try simp only [Act.put, List.setIfInBounds_toArray, List.set_cons_zero, List.set_cons_succ]
      refine anyH_take 15 111 (.bool true) rfl rfl (by kernel_rfl) (by kernel_rfl) (by kernel_rfl) (fun _ _ _ h => h) (Or.inl ⟨by rfl, by intro X hSw; go_simp⟩) (Below.refl _ _) ?_
      try simp only [Act.put, List.setIfInBounds_toArray, List.set_cons_zero, List.set_cons_succ]
      refine anyH_take 16 112 (.pointer (some ⟨d, 0, none⟩)) rfl rfl (by kernel_rfl) (by kernel_rfl) (by kernel_rfl) (fun _ _ _ h => h) (Or.inl ⟨by rfl, by intro X hSw; go_simp⟩) (Below.refl _ _) ?_
      try simp only [Act.put, List.setIfInBounds_toArray, List.set_cons_zero, List.set_cons_succ]
      refine anyH_take 18 114 (.pointer (some ⟨r, 0, none⟩)) rfl rfl (by kernel_rfl) (by kernel_rfl) (by kernel_rfl) (fun _ _ _ h => h) (Or.inl ⟨by rfl, by intro X hSw; go_simp⟩) (Below.refl _ _) ?_
      try simp only [Act.put, List.setIfInBounds_toArray, List.set_cons_zero, List.set_cons_succ]
      refine wpAnyH_ready (rs := [17]) (by kernel_rfl) (by simp) ?_
      refine AllReadyH.cons rfl (fun K hK => ?_) AllReadyH.nil
      rw [if_pos (by rfl)]
      simp only [List.getElem_toArray, List.getElem_cons_succ, List.getElem_cons_zero]
      go_wp2_with (go_at_call 16; refine (writes_any d l S wd Bd.p).mono ?_; rintro e w1 ⟨rfl, hw⟩; rw [hw]; clear hw)
      refine hK.out _ _ (Below.refl _ _) (fun hS => ?_)
      clear hK hS
      refine wpAnyH_ready (rs := [19]) (by kernel_rfl) (by simp) ?_
      refine AllReadyH.cons rfl (fun K hK => ?_) AllReadyH.nil
      rw [if_pos (by rfl)]
      simp only [List.getElem_toArray, List.getElem_cons_succ, List.getElem_cons_zero]
      go_wp2_with (go_at_call 28; refine (rwrites_any r m T wd Bd.q).mono ?_; rintro e w1 ⟨rfl, hw⟩; rw [hw]; clear hw)
      refine hK.out _ _ (Below.refl _ _) (fun hS => ?_)
      clear hK hS
      refine anyH_take 20 116 (.bool true) rfl rfl (by kernel_rfl) (by kernel_rfl) (by kernel_rfl) (fun _ _ _ h => h) (Or.inl ⟨by rfl, by intro X hSw; go_simp⟩) (Below.refl _ _) ?_
      try simp only [Act.put, List.setIfInBounds_toArray, List.set_cons_zero, List.set_cons_succ]
      refine anyH_take 21 117 (.bool true) rfl rfl (by kernel_rfl) (by kernel_rfl) (by kernel_rfl) (fun _ _ _ h => h) (Or.inl ⟨by rfl, by intro X hSw; go_simp⟩) (Below.refl _ _) ?_
      try simp only [Act.put, List.setIfInBounds_toArray, List.set_cons_zero, List.set_cons_succ]
      refine anyH_take 22 118 (.bool true) rfl rfl (by kernel_rfl) (by kernel_rfl) (by kernel_rfl) (fun _ _ _ h => h) (Or.inl ⟨by rfl, by intro X hSw; go_simp⟩) (Below.refl _ _) ?_
      try simp only [Act.put, List.setIfInBounds_toArray, List.set_cons_zero, List.set_cons_succ]
      refine anyH_take 23 119 (.pointer (some ⟨d, 0, none⟩)) rfl rfl (by kernel_rfl) (by kernel_rfl) (by kernel_rfl) (fun _ _ _ h => h) (Or.inl ⟨by rfl, by intro X hSw; go_simp⟩) (Below.refl _ _) ?_
      try simp only [Act.put, List.setIfInBounds_toArray, List.set_cons_zero, List.set_cons_succ]
      refine anyH_take 26 122 (.pointer (some ⟨r, 0, none⟩)) rfl rfl (by kernel_rfl) (by kernel_rfl) (by kernel_rfl) (fun _ _ _ h => h) (Or.inl ⟨by rfl, by intro X hSw; go_simp⟩) (Below.refl _ _) ?_
      try simp only [Act.put, List.setIfInBounds_toArray, List.set_cons_zero, List.set_cons_succ]
      refine wpAnyH_ready (rs := [24]) (by kernel_rfl) (by simp) ?_
      refine AllReadyH.cons rfl (fun K hK => ?_) AllReadyH.nil
      rw [if_pos (by rfl)]
      simp only [List.getElem_toArray, List.getElem_cons_succ, List.getElem_cons_zero]
      go_wp2_with (go_at_call 13; refine (image_any d l S wd Bd.p).mono ?_; rintro e w1 ⟨v1, rfl, O1, b1⟩; obtain ⟨a1, n1, c1, rfl, R1, hn1, _, _⟩ := O1.row Bd.p.ok.byt; clear hn1; have q1 := Bd.q.below b1)
      refine hK.out _ _ (b1) (fun hS => ?_)
      clear hK hS
      refine wpAnyH_narrow (fun X => Below w1.heap.size w1 X) (fun X hX => b1.trans (hX.mono b1.size)) _ _ _ _ ?_
      refine anyH_take 25 121 (.string (strOfNums S.bs)) rfl rfl (by kernel_rfl) (by kernel_rfl) (by kernel_rfl) (fun _ _ _ h => h) (Or.inl ⟨by rfl, by intro X hSw; have q := conv_row (R1.below hSw); go_simp⟩) (Below.refl _ _) ?_
      try simp only [Act.put, List.setIfInBounds_toArray, List.set_cons_zero, List.set_cons_succ]
      refine wpAnyH_ready (rs := [27]) (by kernel_rfl) (by simp) ?_
      refine AllReadyH.cons rfl (fun K hK => ?_) AllReadyH.nil
      rw [if_pos (by rfl)]
      simp only [List.getElem_toArray, List.getElem_cons_succ, List.getElem_cons_zero]
      go_wp2_with (go_at_call 14; refine (rimage_any r m T w1 q1).mono ?_; rintro e w2 ⟨v2, rfl, O2, b2⟩; rw [HBS.out] at O2; obtain ⟨a2, n2, c2, rfl, R2, hn2, _, _⟩ := O2.row Bd.p.ok.byt; clear hn2)
      refine hK.out _ _ (b2) (fun hS => ?_)
      clear hK hS
      refine wpAnyH_narrow (fun X => Below w2.heap.size w2 X) (fun X hX => b2.trans (hX.mono b2.size)) _ _ _ _ ?_
      refine anyH_take 28 124 (.string (strOfNums S.bs)) rfl rfl (by kernel_rfl) (by kernel_rfl) (by kernel_rfl) (fun _ _ _ h => h) (Or.inl ⟨by rfl, by intro X hSw; have q := conv_row (R2.below hSw); go_simp⟩) (Below.refl _ _) ?_
      try simp only [Act.put, List.setIfInBounds_toArray, List.set_cons_zero, List.set_cons_succ]
      refine anyH_take 29 125 (.bool true) rfl rfl (by kernel_rfl) (by kernel_rfl) (by kernel_rfl) (fun _ _ _ h => h) (Or.inl ⟨by rfl, by intro X hSw; go_simp⟩) (Below.refl _ _) ?_
      try simp only [Act.put, List.setIfInBounds_toArray, List.set_cons_zero, List.set_cons_succ]
      refine anyH_take 30 126 (.bool true) rfl rfl (by kernel_rfl) (by kernel_rfl) (by kernel_rfl) (fun _ _ _ h => h) (Or.inl ⟨by rfl, by intro X hSw; go_simp⟩) (Below.refl _ _) ?_
      try simp only [Act.put, List.setIfInBounds_toArray, List.set_cons_zero, List.set_cons_succ]
      refine anyH_take 31 6 (.bool true) rfl rfl (by kernel_rfl) (by kernel_rfl) (by kernel_rfl) (fun _ _ _ h => h) (Or.inl ⟨by rfl, by intro X hSw; go_simp⟩) (Below.refl _ _) ?_
      try simp only [Act.put, List.setIfInBounds_toArray, List.set_cons_zero, List.set_cons_succ]
      refine wpAnyH_done (by kernel_rfl) ?_ _
      go_wp2
      go_ret
      have b12 := b1.trans (b2.mono b1.size)
      exact ⟨rfl, S, T, Bd.below b12, od.trans (Only.of_below b12)⟩
end Go.Proofs.Ytoecgldpmmclgaa
