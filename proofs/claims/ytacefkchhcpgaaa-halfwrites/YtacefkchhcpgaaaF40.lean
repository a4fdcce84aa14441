/-
  Lists of registers; the document's Most.
-/
import Derived.Test.YtacefkchhcpgaaaC6
import Derived.ChangeSame
import Derived.OpenShut
namespace Go.Proofs.Ytacefkchhcpgaaa
open Go.ChangeShapes Go.WideShapes Go.ChangeAt Go.RowKit Go.Deep
set_option linter.unusedVariables false
set_option linter.unusedSimpArgs false

theorem cn2 : Try.prog.cellsOf 2 = 1 := by kernel_rfl
theorem cn3 : Try.prog.cellsOf 3 = 1 := by kernel_rfl
theorem cn42 : Try.prog.cellsOf 42 = 3 := by kernel_rfl
/-- A register. -/
structure RS where
  v : Int
  p : Int
  f : Int
abbrev RS.l (q : RS) : List Value := [.int .i64 q.v, .int .i64 q.p, .int .i64 q.f]
abbrev RS.r (q : RS) : Value := rg q.v q.p q.f
theorem list3 {α : Type} {l : List α} (h : l.length = 3) : ∃ v0 v1 v2, l = [v0, v1, v2] := by
  match l, h with
  | [v0, v1, v2], _ => exact ⟨v0, v1, v2, rfl⟩
theorem open_regc {H : Type} {enc : TypeId × Value → H} {W : World} {fuel : Nat} {cs : List Value} {x : DataW H × List MemPlace} (hl : cs.length = 3)
    (hf : DataW.trod enc Try.prog W 0 (fun _ => true) true fuel 42 cs = some x) : ∃ q : RS, cs = q.l := by
  obtain ⟨v0, v1, v2, rfl⟩ := list3 hl
  obtain ⟨xs, k, hk, hxy, _, hxl, hg⟩ := DataW.trod_struct Try.underlying42 hf
  match xs, hxl with
  | [y0, y1, y2], _ =>
  have e0 := hg 0 _ rfl
  have e1 := hg 1 _ rfl
  have e2 := hg 2 _ rfl
  simp [cn2, cn3] at e0 e1 e2
  obtain ⟨x0, q0, _, w0⟩ := DataW.trod_int Try.underlying2 e0
  obtain ⟨x1, q1, _, w1⟩ := DataW.trod_int Try.underlying3 e1
  obtain ⟨x2, q2, _, w2⟩ := DataW.trod_int Try.underlying2 e2
  simp at q0 q1 q2
  subst q0 q1 q2
  exact ⟨⟨x0, x1, x2⟩, rfl⟩
set_option maxRecDepth 100000 in
theorem open_reg {H : Type} {enc : TypeId × Value → H} {W : World} {r : Reach} {b : Nat} {v : Value} {d : DataW H} {ps : List MemPlace} (hv : Value.okWide Try.prog W r b 42 v) (h : DataW.Trod enc Try.prog W 0 (fun _ => true) true 42 v d ps) :
    ∃ q : RS, v = q.r := by
  simp only [Value.okWide, Try.underlying42] at hv
  obtain ⟨cs, rfl, hsz, _⟩ := hv
  rw [cn42] at hsz
  obtain ⟨fuel, hf⟩ := h
  obtain ⟨q, hcs⟩ := open_regc (x := (d, ps)) (by simpa [Value.cells] using hsz) hf
  refine ⟨q, ?_⟩
  have : cs = (cs.toList).toArray := by simp
  rw [this, show cs.toList = _ from hcs]
theorem add_plain' (g o j : Nat) : (⟨g, o, none⟩ : Addr).add j = ⟨g, o + j, none⟩ := by unfold Addr.add; split <;> simp_all
/-- The registers that a slice leads to. -/
structure Rgs (W : World) (a : Option Addr) (n : Nat) (l : List RS) : Prop where
  size : l.length = n
  max : n ≤ 9223372036854775807
  mem : n = 0 ∨ ∃ b off, a = some ⟨b, off, none⟩ ∧ b < W.heap.size ∧ ∀ j (h : j < l.length), W.rangeAt b (off + j * 3) (l[j]'h).l
theorem open_regs {H : Type} {enc : TypeId × Value → H} {W : World} {a : Option Addr} {len cap : Nat} {d : DataW H} {ps : List MemPlace}
    (h : DataW.Trod enc Try.prog W 0 (fun _ => true) true 53 (.slice a len cap) d ps) :
    ∃ l : List RS, Rgs W a len l ∧ len ≤ cap := by
  obtain ⟨fuel, hf⟩ := h
  rcases open_slice Try.underlying53 hf with ⟨hcs, hx⟩ | ⟨x, l, c, m, n, D, Pl, hcs, hq1, hl, hm, hmm, hx, hel⟩
  · simp [Value.cells] at hcs
    obtain ⟨rfl, rfl, rfl⟩ := hcs
    exact ⟨[], ⟨rfl, by omega, .inl rfl⟩, Nat.le_refl _⟩
  · simp [Value.cells] at hcs
    obtain ⟨rfl, rfl, rfl⟩ := hcs
    have hmc : m = cap := by simpa using hmm
    subst hmc
    rw [cn42] at hel
    have each : ∀ i, i < m → ∃ q : RS, (∀ j v, q.l[j]? = some v → W.cell? ((x.add (i * 3)).add j) = some v) := by
      intro i hi
      obtain ⟨cs', h1, h2⟩ := hel i hi
      obtain ⟨_, hlen, hcell⟩ := World.cells?_some h1
      obtain ⟨q, hcs'⟩ := open_regc hlen h2
      refine ⟨q, fun j v hj => ?_⟩
      have hjl : j < 3 := (List.getElem?_eq_some_iff.1 hj).1
      have hc := hcell j hjl
      rw [hcs'] at hc
      rw [hc]
      exact hj
    haveI : Inhabited RS := ⟨⟨0, 0, 0⟩⟩
    obtain ⟨F, hF⟩ := choose_lt each
    refine ⟨(List.range len).map F, ⟨by simp, ?_, ?_⟩, hl⟩
    · have := hm
      unfold maxLen at this
      omega
    · by_cases h0 : len = 0
      · exact .inl h0
      · obtain ⟨b, off, spot⟩ := x
        have hc := (hF 0 (by omega)) 0 _ rfl
        have hspot : spot = none := by simpa [Addr.add] using World.cell?_spot hc
        subst hspot
        refine .inr ⟨b, off, rfl, World.block_lt_of_cell? _ _ hc, fun j hj => ?_⟩
        have hj' : j < len := by simpa using hj
        intro i v hv
        have := (hF j (by omega)) i v (by simpa using hv)
        rw [add_plain', add_plain'] at this
        exact this
def mrg (a b : RS) : RS := if newB b.v b.p a.v a.p = true then b else a
def RS.z : RS := ⟨0, 0, 0⟩
/-- What the first i + 1 of a list are merged to. -/
def mo (l : List RS) : Nat → RS
  | 0 => l.getD 0 RS.z
  | i + 1 => mrg (mo l i) (l.getD (i + 1) RS.z)
def mos (l : List RS) : List RS := (List.range l.length).map (mo l)
theorem mos_len (l : List RS) : (mos l).length = l.length := by simp [mos]
theorem mos_at {l : List RS} {i : Nat} (h : i < l.length) : (mos l)[i]? = some (mo l i) := by simp [mos, h]
theorem rmerge_rs (a b : RS) (w : World) : Calls Try.prog 60 #[a.r, b.r] w fun e w' => e = .returned (mrg a b).r ∧ Below w.heap.size w w' := by
  refine (rmerge_any a.v a.p a.f b.v b.p b.f w).mono ?_
  rintro e w' ⟨rfl, hb⟩
  refine ⟨?_, hb⟩
  unfold mrg
  cases newB b.v b.p a.v a.p <;> rfl
theorem Rgs.at {W : World} {a : Option Addr} {n : Nat} {l : List RS} (h : Rgs W a n l) (i : Nat) (hi : i < n) : ∃ b off, a = some ⟨b, off, none⟩ ∧ b < W.heap.size ∧ W.rangeAt b (off + i * 3) (l.getD i RS.z).l := by
  rcases h.mem with h0 | ⟨b, off, rfl, hb, hr⟩
  · omega
  · refine ⟨b, off, rfl, hb, ?_⟩
    have hl : i < l.length := by rw [h.size]; exact hi
    have := hr i hl
    rw [show l.getD i RS.z = l[i]'hl by simp [List.getD, hl]]
    exact this
theorem Rgs.below {w W : World} {a : Option Addr} {n : Nat} {l : List RS} (h : Rgs w a n l) (k : Below w.heap.size w W) : Rgs W a n l := by
  refine ⟨h.size, h.max, ?_⟩
  rcases h.mem with h0 | ⟨b, off, rfl, hb, hr⟩
  · exact .inl h0
  · exact .inr ⟨b, off, rfl, Nat.lt_of_lt_of_le hb k.size, fun j hj => range_later (hr j hj) hb k⟩
section
variable {F : Fence} {n : Nat} {ops : Array Oper} {rest : List Oper} {o : Oper} {a : Act} {W : World} {Q : Exit → Act → World → Prop}
end
/-- What a list is merged to. -/
def mof (l : List RS) : RS := if l.length = 0 then RS.z else mo l (l.length - 1)
theorem exec_load42q {o : Oper} {ρ : Operand → Value} {x : Operand} (ho : o.op = .load 42 x) (g off : Nat) (q : RS) (hx : ρ x = .pointer (some ⟨g, off, none⟩)) (X : World) (hc : X.rangeAt g off q.l) : (execOp ρ o).run Try.prog X = .ok (.value q.r) X := by
  unfold execOp
  simp only [ho, hx, Instr.loadAt, Instr.sureAddr, Sem.run_bind, Sem.run_pure, Result.andThen_ok, run_loadVar_mid X g off 42 q.l _ hc Try.underlying42 rfl (by kernel_rfl)]
theorem wp_load42q {o : Oper} {A : Act} {W : World} {K : Go.Act → World → Prop} {Q : Exit → Go.Act → World → Prop} (x : Operand) (ho : o.op = .load 42 x) (g off : Nat) (q : RS) (hx : A.eval x = .pointer (some ⟨g, off, none⟩)) (hc : W.rangeAt g off q.l)
    (h : K (A.put o.dst q.r) W) : o.wp Try.prog A W K Q := by
  unfold Oper.wp
  rw [exec_load42q ho g off q hx W hc]
  exact h
theorem wpList_load42q {ops : Array Oper} {rest : List Oper} {o : Oper} {a : Act} {W : World} {Q : Exit → Act → World → Prop} (hgd : o.guard = none) (x : Operand) (ho : o.op = .load 42 x) (g off : Nat) (q : RS) (hx : a.eval x = .pointer (some ⟨g, off, none⟩)) (hc : W.rangeAt g off q.l)
    (h : wpList Try.prog ops Q rest (a.put o.dst q.r) W) : wpList Try.prog ops Q (o :: rest) a W := by
  refine wpList_plain hgd fun K hK => ?_
  refine wp_load42q x ho g off q hx hc ?_
  exact hK _ _ h
/-- What the loop of the document's Most holds. -/
structure DSt (w : World) (c2 c3 : Nat) (q : RS) (W : World) : Prop where
  below : Below w.heap.size w W
  two : Tri W c2 (.int .i64 0) (.int .i64 0) (.int .i64 0)
  three : Tri W c3 (.int .i64 q.v) (.int .i64 q.p) (.int .i64 q.f)
set_option maxRecDepth 100000 in
set_option maxHeartbeats 4000000 in
theorem rmost_any (a : Option Addr) (n cap : Nat) (l : List RS) (w : World) (hr : Rgs w a n l) : Calls Try.prog 40 #[.slice a n cap] w fun e w' => e = .returned (mof l).r ∧ Below w.heap.size w w' := by
  have HN : Hid (n ≤ 9223372036854775807) := hr.max
  have HL : Hid (l.length = n) := hr.size
  by_cases h0 : n = 0
  · have h0I : ((n : Int) == 0) = true := by simp [h0]
    have hv : mof l = RS.z := by unfold mof; rw [if_pos (by rw [HL.out]; exact h0)]
    rw [hv]
    clear h0 hv
    go_enter Try.func40, Try.ntmps40
    go_wp2
    exact bodyPost_ret (v := rg 0 0 0) (by simp [results, Try.results40, go_sem]) rfl ⟨rfl, by go_grown⟩
  · have h0I : ((n : Int) == 0) = false := by simp [h0]
    have h0J : (0 : Int) < (n : Int) := by omega
    obtain ⟨b, off, rfl, hb, hra0⟩ := hr.at 0 (by omega)
    obtain ⟨⟨r0, r1, r2⟩, hr0⟩ : ∃ r, l.getD 0 RS.z = r := ⟨_, rfl⟩
    rw [hr0] at hra0
    have hra1 := range_later hra0 hb ((Below.refl _ _).alloc (Nat.le_refl _) (.cells #[.int .i64 0, .int .i64 0, .int .i64 0] 42))
    have HM0 : Hid ((⟨r0, r1, r2⟩ : RS) = mo l (1 - 1)) := hr0.symm
    have HV : Hid (mof l = mo l (n - 1)) := by show _ = _; unfold mof; rw [if_neg (by rw [HL.out]; exact h0), HL.out]
    have HH : Hid (1 ≤ n) := by show 1 ≤ n; omega
    clear hr0 h0
    go_enter Try.func40, Try.ntmps40
    go_wp2_with ((with_reducible show wpList _ _ _ (Oper.mk _ (Op.load 42 (Operand.tmp 10)) _ _ _ _ :: _) _ _); refine wpList_load42q rfl _ rfl b (off + 0 * 3) ⟨r0, r1, r2⟩ (by simp; try rfl) hra1 ?_)
    clear hra1 hra0
    go_loopg [4] n (fun g v4 wr => ∃ (i : Nat) (q : RS), v4 = .int .i64 (i : Int) ∧ i + g = n + 1 ∧ (1 ≤ i ∧ i ≤ n) ∧ q = mo l (i - 1) ∧ DSt w w.heap.size (w.heap.size + 1) q wr)
    case atStart =>
      exact ⟨1, ⟨r0, r1, r2⟩, by first | rfl | go_num, by have := HH.out; omega, ⟨Nat.le_refl _, HH.out⟩, HM0.out, ⟨by go_grown, (Tri.new w _ _ _ 42).alloc _, (Tri.new (w.alloc (.cells #[.int .i64 0, .int .i64 0, .int .i64 0] 42)) _ _ _ 42).at (by simp)⟩⟩
    case round =>
      obtain ⟨i, ⟨qv, qp, qf⟩, rfl, hg, ⟨hi1, hin0⟩, hq, D⟩ := hrel
      obtain ⟨c0, c1, c2, d0, d1, d2, z1⟩ := id D.three
      by_cases hi : i < n
      · have hiI : (i : Int) < (n : Int) := by omega
        have hi0 : (0 : Int) ≤ (i : Int) := by omega
        obtain ⟨b', off', hbb, hb', hra⟩ := (hr.below D.below).at i hi
        cases hbb
        obtain ⟨⟨rv, rp, rf⟩, hri⟩ : ∃ r, l.getD i RS.z = r := ⟨_, rfl⟩
        rw [hri] at hra
        obtain ⟨⟨mv, mp, mf⟩, hm⟩ : ∃ m, mrg ⟨qv, qp, qf⟩ ⟨rv, rp, rf⟩ = m := ⟨_, rfl⟩
        have HM : Hid ((⟨mv, mp, mf⟩ : RS) = mo l (i + 1 - 1)) := by
          show _ = _
          obtain ⟨j, rfl⟩ : ∃ j, i = j + 1 := ⟨i - 1, by omega⟩
          show _ = mrg (mo l j) (l.getD (j + 1) RS.z)
          rw [hri, ← hm, hq]; rfl
        have K13 := fun w => rmerge_rs ⟨qv, qp, qf⟩ ⟨rv, rp, rf⟩ w
        simp only [hm] at K13
        have hin : IntKind.i64.wrap ((i : Int) + 1) = (i : Int) + 1 := by rw [IntKind.wrap_i64]; have := HN.out; omega
        clear hm hri hq HM0 HV
        go_wp2
        refine wp_region_any (by kernel_rfl) ?_
        change wpAny _ _ _ _ _ _ _ (World.drew _)
        refine any_take 1 19 (.slice (some ⟨b, off, none⟩) n cap) rfl rfl (by kernel_rfl) (by kernel_rfl) (by kernel_rfl) (fun _ _ _ h => h) (Or.inl ⟨by rfl, by intro w; go_simp⟩) ?_
        try simp only [Act.put, List.setIfInBounds_toArray, List.set_cons_zero, List.set_cons_succ]
        refine any_take 2 20 (.int .i64 (i : Int)) rfl rfl (by kernel_rfl) (by kernel_rfl) (by kernel_rfl) (fun _ _ _ h => h) (Or.inl ⟨by rfl, by intro w; go_simp⟩) ?_
        try simp only [Act.put, List.setIfInBounds_toArray, List.set_cons_zero, List.set_cons_succ]
        refine any_take 3 21 (.pointer (some ⟨b, off + i * 3, none⟩)) rfl rfl (by kernel_rfl) (by kernel_rfl) (by kernel_rfl) (fun _ _ _ h => h) (Or.inl ⟨by rfl, by intro w; go_simp⟩) ?_
        try simp only [Act.put, List.setIfInBounds_toArray, List.set_cons_zero, List.set_cons_succ]
        refine wpAny_ready (rs := [0, 4]) (by kernel_rfl) (by simp) ?_
        refine AllReady.cons rfl (fun K hK => ?_) (AllReady.cons rfl (fun K hK => ?_) AllReady.nil)
        · replace hK : Shut _ := hK
          go_simp
          go_wp2
          refine hK.out _ _ ?_
          clear hK
          try simp only [Act.put, List.setIfInBounds_toArray, List.set_cons_zero, List.set_cons_succ]
          refine wpAny_ready (rs := [4]) (by kernel_rfl) (by simp) ?_
          refine AllReady.cons rfl (fun K hK => ?_) AllReady.nil
          refine wp_load42q _ rfl b (off + i * 3) ⟨rv, rp, rf⟩ rfl hra ?_
          refine hK _ _ ?_
          clear hK
          try simp only [Act.put, List.setIfInBounds_toArray, List.set_cons_zero, List.set_cons_succ]
          refine wpAny_ready (rs := [5]) (by kernel_rfl) (by simp) ?_
          refine AllReady.cons rfl (fun K hK => ?_) AllReady.nil
          replace hK : Shut _ := hK
          go_simp
          go_wp2_with (go_at_call 60; refine (K13 _).mono ?_; clear K13; rintro e w5 ⟨rfl, b5⟩)
          refine hK.out _ _ ?_
          clear hK
          try simp only [Act.put, List.setIfInBounds_toArray, List.set_cons_zero, List.set_cons_succ]
          replace b5 : Below wr.heap.size wr w5 := (Below.refl _ _).drew.trans b5
          have hD5 : DSt w w.heap.size (w.heap.size + 1) ⟨qv, qp, qf⟩ w5 := ⟨D.below.trans (b5.mono D.below.size), D.two.below b5, D.three.below b5⟩
          obtain ⟨g0, g1, g2, k0, k1, k2, gz⟩ := id hD5.three
          refine wpAny_ready (rs := [6]) (by kernel_rfl) (by simp) ?_
          refine AllReady.cons rfl (fun K hK => ?_) AllReady.nil
          replace hK : Shut _ := hK
          go_simp
          go_wp2
          refine hK.out _ _ ?_
          clear hK
          try simp only [Act.put, List.setIfInBounds_toArray, List.set_cons_zero, List.set_cons_succ]
          refine wpAny_done (by kernel_rfl) ?_ _
          clear c0 c1 c2 d0 d1 d2 z1 g0 g1 g2 k0 k1 k2 gz hra
          go_wp2
          go_roundg (gk - 1)
          case measure => omega
          case rel => exact ⟨i + 1, ⟨mv, mp, mf⟩, by first | rfl | go_num, by omega, ⟨by omega, by omega⟩, HM.out, ⟨Below.put3 hD5.below (Nat.le_succ _) _ _ _, hD5.two.far (by omega) _ _ _, hD5.three.store _ _ _⟩⟩
        · refine wp_load42q _ rfl b (off + i * 3) ⟨rv, rp, rf⟩ rfl hra ?_
          refine hK _ _ ?_
          clear hK
          try simp only [Act.put, List.setIfInBounds_toArray, List.set_cons_zero, List.set_cons_succ]
          refine wpAny_ready (rs := [0]) (by kernel_rfl) (by simp) ?_
          refine AllReady.cons rfl (fun K hK => ?_) AllReady.nil
          replace hK : Shut _ := hK
          go_simp
          go_wp2
          refine hK.out _ _ ?_
          clear hK
          try simp only [Act.put, List.setIfInBounds_toArray, List.set_cons_zero, List.set_cons_succ]
          refine wpAny_ready (rs := [5]) (by kernel_rfl) (by simp) ?_
          refine AllReady.cons rfl (fun K hK => ?_) AllReady.nil
          replace hK : Shut _ := hK
          go_simp
          go_wp2_with (go_at_call 60; refine (K13 _).mono ?_; clear K13; rintro e w5 ⟨rfl, b5⟩)
          refine hK.out _ _ ?_
          clear hK
          try simp only [Act.put, List.setIfInBounds_toArray, List.set_cons_zero, List.set_cons_succ]
          replace b5 : Below wr.heap.size wr w5 := (Below.refl _ _).drew.trans b5
          have hD5 : DSt w w.heap.size (w.heap.size + 1) ⟨qv, qp, qf⟩ w5 := ⟨D.below.trans (b5.mono D.below.size), D.two.below b5, D.three.below b5⟩
          obtain ⟨g0, g1, g2, k0, k1, k2, gz⟩ := id hD5.three
          refine wpAny_ready (rs := [6]) (by kernel_rfl) (by simp) ?_
          refine AllReady.cons rfl (fun K hK => ?_) AllReady.nil
          replace hK : Shut _ := hK
          go_simp
          go_wp2
          refine hK.out _ _ ?_
          clear hK
          try simp only [Act.put, List.setIfInBounds_toArray, List.set_cons_zero, List.set_cons_succ]
          refine wpAny_done (by kernel_rfl) ?_ _
          clear c0 c1 c2 d0 d1 d2 z1 g0 g1 g2 k0 k1 k2 gz hra
          go_wp2
          go_roundg (gk - 1)
          case measure => omega
          case rel => exact ⟨i + 1, ⟨mv, mp, mf⟩, by first | rfl | go_num, by omega, ⟨by omega, by omega⟩, HM.out, ⟨Below.put3 hD5.below (Nat.le_succ _) _ _ _, hD5.two.far (by omega) _ _ _, hD5.three.store _ _ _⟩⟩
      · have hiI : ¬ (i : Int) < (n : Int) := by omega
        have HQ : Hid ((⟨qv, qp, qf⟩ : RS) = mof l) := by show _ = _; rw [HV.out, hq, show i = n by have := HH.out; omega]
        obtain ⟨a0, a1, a2, b0, b1, b2, z0⟩ := id D.two
        clear hq HV HM0 HL
        go_wp2
        exact bodyPost_ret (v := rg qv qp qf) (by simp [results, Try.results40, go_sem, a0, a1, a2, b0, b1, b2, z0]) rfl ⟨by rw [← HQ.out], Below.put3 D.below (Nat.le_refl _) _ _ _⟩
end Go.Proofs.Ytacefkchhcpgaaa
