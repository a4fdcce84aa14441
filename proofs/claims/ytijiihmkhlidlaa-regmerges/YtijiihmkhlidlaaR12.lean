/-
  Package reg: the document's own answer for Most; what the law RegMost returns.
-/
import Derived.Test.YtijiihmkhlidlaaR11
import Derived.Test.YtijiihmkhlidlaaR5
import Derived.Test.YtijiihmkhlidlaaR6
namespace Go.Proofs.Ytijiihmkhlidlaa
open Go.ChangeShapes Go.WideShapes Go.ChangeAt Go.RowKit Go.Maps
set_option linter.unusedVariables false
set_option linter.unusedSimpArgs false

theorem exec_load23x {o : Oper} {ρ : Operand → Value} {x : Operand} (ho : o.op = .load 23 x) (g off : Nat) (q : RS) (hx : ρ x = .pointer (some ⟨g, off, none⟩)) (X : World) (hc : X.rangeAt g off q.l) : (execOp ρ o).run Try.prog X = .ok (.value q.r) X := by
  unfold execOp
  simp only [ho, hx, Instr.loadAt, Instr.sureAddr, Sem.run_bind, Sem.run_pure, Result.andThen_ok, run_loadVar_mid X g off 23 q.l _ hc Try.underlying23 rfl (by kernel_rfl)]
theorem wp_load23x {o : Oper} {A : Act} {W : World} {K : Go.Act → World → Prop} {Q : Exit → Go.Act → World → Prop} (x : Operand) (ho : o.op = .load 23 x) (g off : Nat) (q : RS) (hx : A.eval x = .pointer (some ⟨g, off, none⟩)) (hc : W.rangeAt g off q.l)
    (h : K (A.put o.dst q.r) W) : o.wp Try.prog A W K Q := by
  unfold Oper.wp
  rw [exec_load23x ho g off q hx W hc]
  exact h
theorem wpList_load23x {ops : Array Oper} {rest : List Oper} {o : Oper} {a : Act} {W : World} {Q : Exit → Act → World → Prop} (hgd : o.guard = none) (x : Operand) (ho : o.op = .load 23 x) (g off : Nat) (q : RS) (hx : a.eval x = .pointer (some ⟨g, off, none⟩)) (hc : W.rangeAt g off q.l)
    (h : wpList Try.prog ops Q rest (a.put o.dst q.r) W) : wpList Try.prog ops Q (o :: rest) a W := by
  refine wpList_plain hgd fun K hK => ?_
  refine wp_load23x x ho g off q hx hc ?_
  exact hK _ _ h
/-- What the loop of the document's Most holds. -/
structure DSt (w : World) (c2 c3 : Nat) (q : RS) (W : World) : Prop where
  below : Below w.heap.size w W
  two : Tri W c2 (.int .i64 0) (.int .i64 0) (.int .i64 0)
  three : Tri W c3 (.int .i64 q.v) (.int .i64 q.p) (.int .i64 q.f)
set_option maxRecDepth 100000 in
set_option maxHeartbeats 4000000 in
theorem rmost_any (a : Option Addr) (n cap : Nat) (l : List RS) (w : World) (hr : Rgs w a n l) : Calls Try.prog 21 #[.slice a n cap] w fun e w' => e = .returned (mof l).r ∧ Below w.heap.size w w' := by
  have HN : Hid (n ≤ 9223372036854775807) := hr.max
  have HL : Hid (l.length = n) := hr.size
  by_cases h0 : n = 0
  · have h0I : ((n : Int) == 0) = true := by simp [h0]
    have hv : mof l = RS.z := by unfold mof; rw [if_pos (by rw [HL.out]; exact h0)]
    rw [hv]
    clear h0 hv
    go_enter Try.func21, Try.ntmps21
    go_wp2
    exact bodyPost_ret (v := rg 0 0 0) (by simp [results, Try.results21, go_sem]) rfl ⟨rfl, by go_grown⟩
  · have h0I : ((n : Int) == 0) = false := by simp [h0]
    have h0J : (0 : Int) < (n : Int) := by omega
    obtain ⟨b, off, rfl, hb, hra0⟩ := hr.at 0 (by omega)
    obtain ⟨⟨r0, r1, r2⟩, hr0⟩ : ∃ r, l.getD 0 RS.z = r := ⟨_, rfl⟩
    rw [hr0] at hra0
    have hra1 := range_later hra0 hb ((Below.refl _ _).alloc (Nat.le_refl _) (.cells #[.int .i64 0, .int .i64 0, .int .i64 0] 23))
    have HM0 : Hid ((⟨r0, r1, r2⟩ : RS) = mo l (1 - 1)) := hr0.symm
    have HV : Hid (mof l = mo l (n - 1)) := by show _ = _; unfold mof; rw [if_neg (by rw [HL.out]; exact h0), HL.out]
    have HH : Hid (1 ≤ n) := by show 1 ≤ n; omega
    clear hr0 h0
    go_enter Try.func21, Try.ntmps21
    go_wp2_with ((with_reducible show wpList _ _ _ (Oper.mk _ (Op.load 23 (Operand.tmp 10)) _ _ _ _ :: _) _ _); refine wpList_load23x rfl _ rfl b (off + 0 * 3) ⟨r0, r1, r2⟩ (by simp; try rfl) hra1 ?_)
    clear hra1 hra0
    go_loopg [4] n (fun g v4 wr => ∃ (i : Nat) (q : RS), v4 = .int .i64 (i : Int) ∧ i + g = n + 1 ∧ (1 ≤ i ∧ i ≤ n) ∧ q = mo l (i - 1) ∧ DSt w w.heap.size (w.heap.size + 1) q wr)
    case atStart =>
      exact ⟨1, ⟨r0, r1, r2⟩, by first | rfl | go_num, by have := HH.out; omega, ⟨Nat.le_refl _, HH.out⟩, HM0.out, ⟨by go_grown, (Tri.new w _ _ _ 23).alloc _, (Tri.new (w.alloc (.cells #[.int .i64 0, .int .i64 0, .int .i64 0] 23)) _ _ _ 23).at (by simp)⟩⟩
    case round =>
      obtain ⟨i, ⟨qv, qp, qf⟩, rfl, hg, ⟨hi1, hin0⟩, hq, D⟩ := hrel
      obtain ⟨c0, c1, c2, d0, d1, d2, z1⟩ := id D.three
      by_cases hi : i < n
      · have hiI : (i : Int) < (n : Int) := by omega
        have hi0 : (0 : Int) ≤ (i : Int) := by omega
        obtain ⟨b', off', hbb, hb', hra⟩ := (hr.below D.below).at i hi
        cases hbb
        obtain ⟨⟨rv, rp, rf⟩, hri⟩ : ∃ r, l.getD i RS.z = r := ⟨_, rfl⟩
        rw [hri] at hra
        obtain ⟨⟨mv, mp, mf⟩, hm⟩ : ∃ m, mrg ⟨qv, qp, qf⟩ ⟨rv, rp, rf⟩ = m := ⟨_, rfl⟩
        have HM : Hid ((⟨mv, mp, mf⟩ : RS) = mo l (i + 1 - 1)) := by
          show _ = _
          obtain ⟨j, rfl⟩ : ∃ j, i = j + 1 := ⟨i - 1, by omega⟩
          show _ = mrg (mo l j) (l.getD (j + 1) RS.z)
          rw [hri, ← hm, hq]; rfl
        have K13 := fun w => rmerge_rs ⟨qv, qp, qf⟩ ⟨rv, rp, rf⟩ w
        simp only [hm] at K13
        have hin : IntKind.i64.wrap ((i : Int) + 1) = (i : Int) + 1 := by rw [IntKind.wrap_i64]; have := HN.out; omega
        clear hm hri hq HM0 HV
        go_wp2
        refine wp_region_any (by kernel_rfl) ?_
        change wpAny _ _ _ _ _ _ _ (World.drew _)
        refine any_take 1 19 (.slice (some ⟨b, off, none⟩) n cap) rfl rfl (by kernel_rfl) (by kernel_rfl) (by kernel_rfl) (fun _ _ _ h => h) (Or.inl ⟨by rfl, by intro w; go_simp⟩) ?_
        try simp only [Act.put, List.setIfInBounds_toArray, List.set_cons_zero, List.set_cons_succ]
        refine any_take 2 20 (.int .i64 (i : Int)) rfl rfl (by kernel_rfl) (by kernel_rfl) (by kernel_rfl) (fun _ _ _ h => h) (Or.inl ⟨by rfl, by intro w; go_simp⟩) ?_
        try simp only [Act.put, List.setIfInBounds_toArray, List.set_cons_zero, List.set_cons_succ]
        refine any_take 3 21 (.pointer (some ⟨b, off + i * 3, none⟩)) rfl rfl (by kernel_rfl) (by kernel_rfl) (by kernel_rfl) (fun _ _ _ h => h) (Or.inl ⟨by rfl, by intro w; go_simp⟩) ?_
        try simp only [Act.put, List.setIfInBounds_toArray, List.set_cons_zero, List.set_cons_succ]
        refine wpAny_ready (rs := [0, 4]) (by kernel_rfl) (by simp) ?_
        refine AllReady.cons rfl (fun K hK => ?_) (AllReady.cons rfl (fun K hK => ?_) AllReady.nil)
        · replace hK : Shut _ := hK
          go_simp
          go_wp2
          refine hK.out _ _ ?_
          clear hK
          try simp only [Act.put, List.setIfInBounds_toArray, List.set_cons_zero, List.set_cons_succ]
          refine wpAny_ready (rs := [4]) (by kernel_rfl) (by simp) ?_
          refine AllReady.cons rfl (fun K hK => ?_) AllReady.nil
          refine wp_load23x _ rfl b (off + i * 3) ⟨rv, rp, rf⟩ rfl hra ?_
          refine hK _ _ ?_
          clear hK
          try simp only [Act.put, List.setIfInBounds_toArray, List.set_cons_zero, List.set_cons_succ]
          refine wpAny_ready (rs := [5]) (by kernel_rfl) (by simp) ?_
          refine AllReady.cons rfl (fun K hK => ?_) AllReady.nil
          replace hK : Shut _ := hK
          go_simp
          go_wp2_with (go_at_call 13; refine (K13 _).mono ?_; clear K13; rintro e w5 ⟨rfl, b5⟩)
          refine hK.out _ _ ?_
          clear hK
          try simp only [Act.put, List.setIfInBounds_toArray, List.set_cons_zero, List.set_cons_succ]
          replace b5 : Below wr.heap.size wr w5 := (Below.refl _ _).drew.trans b5
          have hD5 : DSt w w.heap.size (w.heap.size + 1) ⟨qv, qp, qf⟩ w5 := ⟨D.below.trans (b5.mono D.below.size), D.two.below b5, D.three.below b5⟩
          obtain ⟨g0, g1, g2, k0, k1, k2, gz⟩ := id hD5.three
          refine wpAny_ready (rs := [6]) (by kernel_rfl) (by simp) ?_
          refine AllReady.cons rfl (fun K hK => ?_) AllReady.nil
          replace hK : Shut _ := hK
          go_simp
          go_wp2
          refine hK.out _ _ ?_
          clear hK
          try simp only [Act.put, List.setIfInBounds_toArray, List.set_cons_zero, List.set_cons_succ]
          refine wpAny_done (by kernel_rfl) ?_ _
          clear c0 c1 c2 d0 d1 d2 z1 g0 g1 g2 k0 k1 k2 gz hra
          go_wp2
          go_roundg (gk - 1)
          case measure => omega
          case rel => exact ⟨i + 1, ⟨mv, mp, mf⟩, by first | rfl | go_num, by omega, ⟨by omega, by omega⟩, HM.out, ⟨Below.put3 hD5.below (Nat.le_succ _) _ _ _, hD5.two.far (by omega) _ _ _, hD5.three.store _ _ _⟩⟩
        · refine wp_load23x _ rfl b (off + i * 3) ⟨rv, rp, rf⟩ rfl hra ?_
          refine hK _ _ ?_
          clear hK
          try simp only [Act.put, List.setIfInBounds_toArray, List.set_cons_zero, List.set_cons_succ]
          refine wpAny_ready (rs := [0]) (by kernel_rfl) (by simp) ?_
          refine AllReady.cons rfl (fun K hK => ?_) AllReady.nil
          replace hK : Shut _ := hK
          go_simp
          go_wp2
          refine hK.out _ _ ?_
          clear hK
          try simp only [Act.put, List.setIfInBounds_toArray, List.set_cons_zero, List.set_cons_succ]
          refine wpAny_ready (rs := [5]) (by kernel_rfl) (by simp) ?_
          refine AllReady.cons rfl (fun K hK => ?_) AllReady.nil
          replace hK : Shut _ := hK
          go_simp
          go_wp2_with (go_at_call 13; refine (K13 _).mono ?_; clear K13; rintro e w5 ⟨rfl, b5⟩)
          refine hK.out _ _ ?_
          clear hK
          try simp only [Act.put, List.setIfInBounds_toArray, List.set_cons_zero, List.set_cons_succ]
          replace b5 : Below wr.heap.size wr w5 := (Below.refl _ _).drew.trans b5
          have hD5 : DSt w w.heap.size (w.heap.size + 1) ⟨qv, qp, qf⟩ w5 := ⟨D.below.trans (b5.mono D.below.size), D.two.below b5, D.three.below b5⟩
          obtain ⟨g0, g1, g2, k0, k1, k2, gz⟩ := id hD5.three
          refine wpAny_ready (rs := [6]) (by kernel_rfl) (by simp) ?_
          refine AllReady.cons rfl (fun K hK => ?_) AllReady.nil
          replace hK : Shut _ := hK
          go_simp
          go_wp2
          refine hK.out _ _ ?_
          clear hK
          try simp only [Act.put, List.setIfInBounds_toArray, List.set_cons_zero, List.set_cons_succ]
          refine wpAny_done (by kernel_rfl) ?_ _
          clear c0 c1 c2 d0 d1 d2 z1 g0 g1 g2 k0 k1 k2 gz hra
          go_wp2
          go_roundg (gk - 1)
          case measure => omega
          case rel => exact ⟨i + 1, ⟨mv, mp, mf⟩, by first | rfl | go_num, by omega, ⟨by omega, by omega⟩, HM.out, ⟨Below.put3 hD5.below (Nat.le_succ _) _ _ _, hD5.two.far (by omega) _ _ _, hD5.three.store _ _ _⟩⟩
      · have hiI : ¬ (i : Int) < (n : Int) := by omega
        have HQ : Hid ((⟨qv, qp, qf⟩ : RS) = mof l) := by show _ = _; rw [HV.out, hq, show i = n by have := HH.out; omega]
        obtain ⟨a0, a1, a2, b0, b1, b2, z0⟩ := id D.two
        clear hq HV HM0 HL
        go_wp2
        exact bodyPost_ret (v := rg qv qp qf) (by simp [results, Try.results21, go_sem, a0, a1, a2, b0, b1, b2, z0]) rfl ⟨by rw [← HQ.out], Below.put3 D.below (Nat.le_refl _) _ _ _⟩
set_option maxRecDepth 100000 in
set_option maxHeartbeats 2000000 in
theorem most_walk (a : Option Addr) (n cap : Nat) (l : List RS) (w : World) (hr : Rgs w a n l) : Calls Try.prog 5 #[.slice a n cap] w fun e w' => e = .returned (.bool true) ∧ Below w.heap.size w w' := by
  have K1 := most_any a n cap l w hr
  have K2 := fun W (hb : Below w.heap.size w W) => rmost_any a n cap l W (hr.below hb)
  obtain ⟨⟨q0, q1, q2⟩, hq⟩ : ∃ q, mof l = q := ⟨_, rfl⟩
  rw [hq] at K1
  simp only [hq] at K2
  clear hq
  go_enter Try.func5, Try.ntmps5
  go_wp2_with (first
    | (go_at_call 20; refine K1.mono ?_; clear K1; rintro e w1 ⟨rfl, B1⟩)
    | (go_at_call 21; refine (K2 _ B1).mono ?_; clear K2; rintro e w2 ⟨rfl, B2⟩; replace B2 := B1.trans (B2.mono B1.size))
    | (go_at_call 17; refine (awake_any _).mono ?_; rintro e w3 ⟨rfl, B3⟩; replace B3 := B2.trans (B3.mono B2.size)))
  go_ret
  exact ⟨rfl, B3⟩
end Go.Proofs.Ytijiihmkhlidlaa
