/-
  Package shake: packets in memory; Judge, the program's and the document's.
-/
import Derived.Test.YteoiogjaecpddaaSA
namespace Go.Proofs.Yteoiogjaecpddaa
open Go.ChangeShapes Go.WideShapes Go.ChangeAt Go.RowKit
set_option linter.unusedVariables false
set_option linter.unusedSimpArgs false

theorem field61 (x y z : Int) (w : World) : (Instr.field 61 (.agg #[.int .i64 x, .int .i64 y, .int .i64 z]) 1).run Try.prog w = .ok (.agg #[.int .i64 y, .int .i64 z]) w := by
  unfold Instr.field
  rw [Sem.run_bind, run_underlying Try.underlying61]
  go_simp
  rfl
theorem field33 (x y z u : Int) (w : World) : (Instr.field 33 (.agg #[.int .i64 x, .int .i64 y, .int .i64 z, .int .i64 u]) 3).run Try.prog w = .ok (.int .i64 u) w := by
  unfold Instr.field
  rw [Sem.run_bind, run_underlying Try.underlying33]
  go_simp
  rfl
theorem field33b (x y z u : Int) (w : World) : (Instr.field 33 (.agg #[.int .i64 x, .int .i64 y, .int .i64 z, .int .i64 u]) 1).run Try.prog w = .ok (.int .i64 y) w := by
  unfold Instr.field
  rw [Sem.run_bind, run_underlying Try.underlying33]
  go_simp
  rfl
theorem field33c (x y z u : Int) (w : World) : (Instr.field 33 (.agg #[.int .i64 x, .int .i64 y, .int .i64 z, .int .i64 u]) 2).run Try.prog w = .ok (.int .i64 z) w := by
  unfold Instr.field
  rw [Sem.run_bind, run_underlying Try.underlying33]
  go_simp
  rfl
attribute [local go_sem] field61 field33 field33b field33c
/-- A packet's cells. -/
structure PK where
  kind : Int
  frm : Int
  dst : Int
  boot : Int
  life : Int
  echo : Int
  elife : Int
  a : Option Addr
  n : Nat
  cap : Nat
def PK.cells (d : PK) : List Value := [.int .i64 d.kind, .int .i64 d.frm, .int .i64 d.dst, .int .i64 d.boot, .int .i64 d.life, .int .i64 d.echo, .int .i64 d.elife, .slice d.a d.n d.cap]
def PK.val (d : PK) : Value := .agg #[.int .i64 d.kind, .int .i64 d.frm, .int .i64 d.dst, .int .i64 d.boot, .int .i64 d.life, .int .i64 d.echo, .int .i64 d.elife, .slice d.a d.n d.cap]
theorem load_40 {w : World} {g : Nat} {d : PK} (h : w.heap[g]? = some (.cells d.cells.toArray 40 (0, 0))) : (loadVar 40 ⟨g, 0, none⟩).run Try.prog w = .ok d.val w :=
  run_loadVar_row (P := Try.prog) w g 40 40 _ (0, 0) _ h Try.underlying40 rfl (by show _ = some 8; kernel_rfl)
theorem range_rowP {W : World} {g : Nat} {d : PK} (h : W.heap[g]? = some (.cells d.cells.toArray 40 (0, 0))) : W.rangeAt g 0 d.cells := fun j v hv => by
  rw [Nat.zero_add]
  exact row_cell h j v (by simpa using hv)
section
variable {ops : Array Oper} {rest : List Oper} {o : Oper} {A : Act} {W : World} {Q : Exit → Act → World → Prop}
theorem exec_load40 {ρ : Operand → Value} {x : Operand} (ho : o.op = .load 40 x) (g : Nat) (d : PK) (hx : ρ x = .pointer (some ⟨g, 0, none⟩)) (hc : W.heap[g]? = some (.cells d.cells.toArray 40 (0, 0))) : (execOp ρ o).run Try.prog W = .ok (.value d.val) W := by
  simp only [execOp, ho, hx, Instr.loadAt, Instr.sureAddr, Sem.run_bind, Sem.run_pure, Result.andThen_ok, run_loadVar_mid W g 0 40 d.cells _ (range_rowP hc) Try.underlying40 rfl (by show _ = some 8; kernel_rfl)]
  rfl
theorem wpList_load40 (hw : Region.wanted o (yielded ops A.tmps) = true) (x : Operand) (ho : o.op = .load 40 x) (g : Nat) (d : PK) (hx : A.eval x = .pointer (some ⟨g, 0, none⟩)) (hc : W.heap[g]? = some (.cells d.cells.toArray 40 (0, 0)))
    (h : wpList Try.prog ops Q rest (A.put o.dst d.val) W) : wpList Try.prog ops Q (o :: rest) A W := by
  refine wpList_step (fun K hK => ?_)
  rw [if_pos hw]
  unfold Oper.wp
  rw [exec_load40 ho g d hx hc]
  exact hK _ _ h
theorem wpList_load40x (hw : Region.wanted o (yielded ops A.tmps) = true) (x : Operand) (ho : o.op = .load 40 x) (g : Nat) (kd fr ds bt lf ec el : Int) (ia : Option Addr) (im ic : Nat) (hx : A.eval x = .pointer (some ⟨g, 0, none⟩)) (hc : W.heap[g]? = some (.cells #[.int .i64 kd, .int .i64 fr, .int .i64 ds, .int .i64 bt, .int .i64 lf, .int .i64 ec, .int .i64 el, .slice ia im ic] 40 (0, 0)))
    (h : wpList Try.prog ops Q rest (A.put o.dst (.agg #[.int .i64 kd, .int .i64 fr, .int .i64 ds, .int .i64 bt, .int .i64 lf, .int .i64 ec, .int .i64 el, .slice ia im ic])) W) : wpList Try.prog ops Q (o :: rest) A W := wpList_load40 hw x ho g ⟨kd, fr, ds, bt, lf, ec, el, ia, im, ic⟩ hx hc h
end
theorem cel8 {W : World} {k : Nat} {a b c d e f g h : Value} {t : TypeId} (H : W.heap[k]? = some (.cells #[a, b, c, d, e, f, g, h] t (0, 0))) :
    W.cell? ⟨k, 0, none⟩ = some a ∧ W.cell? ⟨k, 1, none⟩ = some b ∧ W.cell? ⟨k, 2, none⟩ = some c ∧ W.cell? ⟨k, 3, none⟩ = some d ∧ W.cell? ⟨k, 4, none⟩ = some e ∧ W.cell? ⟨k, 5, none⟩ = some f ∧ W.cell? ⟨k, 6, none⟩ = some g ∧ W.cell? ⟨k, 7, none⟩ = some h :=
  ⟨row_cell H 0 _ rfl, row_cell H 1 _ rfl, row_cell H 2 _ rfl, row_cell H 3 _ rfl, row_cell H 4 _ rfl, row_cell H 5 _ rfl, row_cell H 6 _ rfl, row_cell H 7 _ rfl⟩
set_option maxHeartbeats 2000000 in
theorem sender_any (p : PK) (w : World) : Calls Try.prog 52 #[p.val] w fun e w' => e = .returned (.agg #[.int .i64 p.frm, .int .i64 p.boot, .int .i64 p.life]) ∧ Below w.heap.size w w' := by
  obtain ⟨kd, fr, ds, bt, lf, ec, el, ia, im, ic⟩ := p
  dsimp only [PK.val]
  go_enter Try.func52, Try.ntmps52
  go_wp2
  refine bodyPost_ret (results_row1 rfl _ _ (w.heap.size + 1) _ rfl (load_61 (heap_new (by simp)))) rfl ⟨rfl, ((Below.refl _ _).alloc (Nat.le_refl _) _).alloc (by simp) _⟩
def judV (s : SN) (boot : Int) (p : PK) : Int := if ltr s.boot s.life p.boot p.life = true then 1 else if p.kind ≠ 1 ∧ p.echo = boot ∧ p.elife = s.mine then 2 else if p.kind = 1 ∨ p.kind = 3 then 3 else 4
set_option maxRecDepth 100000 in
set_option maxHeartbeats 8000000 in
theorem judge_any (a : Option Addr) (n cap : Nat) (l : List SN) (boot : Int) (p : PK) (w : World) (hr : RdS w a n cap l) : Calls Try.prog 26 #[.slice a n cap, .int .i64 boot, p.val] w fun e w' => e = .returned (.int .i64 (judV (getL p.frm l) boot p)) ∧ Below w.heap.size w w' := by
  obtain ⟨kd, fr, ds, bt, lf, ec, el, ia, im, ic⟩ := p
  have K0 := fun W (h : Below w.heap.size w W) => get_any a n cap l fr W (hr.below h)
  obtain ⟨⟨s0, s1, s2, s3⟩, hs⟩ : ∃ s, getL fr l = s := ⟨_, rfl⟩
  have HS : Hid (getL fr l = ⟨s0, s1, s2, s3⟩) := hs
  rw [hs] at K0
  dsimp only [SN.val] at K0
  dsimp only [PK.val]
  have b0 : Below w.heap.size w (w.alloc (.cells #[.int .i64 kd, .int .i64 fr, .int .i64 ds, .int .i64 bt, .int .i64 lf, .int .i64 ec, .int .i64 el, .slice ia im ic] 40)) := (Below.refl _ _).alloc (Nat.le_refl _) _
  have T0 : (w.alloc (.cells #[.int .i64 kd, .int .i64 fr, .int .i64 ds, .int .i64 bt, .int .i64 lf, .int .i64 ec, .int .i64 el, .slice ia im ic] 40)).heap[w.heap.size]? = some (.cells #[.int .i64 kd, .int .i64 fr, .int .i64 ds, .int .i64 bt, .int .i64 lf, .int .i64 ec, .int .i64 el, .slice ia im ic] 40 (0, 0)) := heap_new rfl
  have K := K0 _ b0
  clear hs hr K0
  go_enter Try.func26, Try.ntmps26
  go_wp2_with (first
    | (go_at_call 19; refine K.mono ?_; rintro e w1 ⟨rfl, b1⟩)
    | fail)
  have T1 := (b1.block _ (row_lt T0)).trans T0
  have B1 := b0.trans (b1.mono b0.size)
  obtain ⟨W0, hW0⟩ : ∃ W0, w1.alloc (.cells #[.int .i64 s0, .int .i64 s1, .int .i64 s2, .int .i64 s3] 33) = W0 := ⟨_, rfl⟩
  have b2 : Below w1.heap.size w1 W0 := by rw [← hW0]; exact (Below.refl _ _).alloc (Nat.le_refl _) _
  have S1 : W0.heap[w1.heap.size]? = some (.cells #[.int .i64 s0, .int .i64 s1, .int .i64 s2, .int .i64 s3] 33 (0, 0)) := by rw [← hW0]; exact heap_new rfl
  have P1 := (b2.block _ (row_lt T1)).trans T1
  have B2 := B1.trans (b2.mono B1.size)
  rw [hW0]
  obtain ⟨qs, hqs⟩ : ∃ q : Nat, w1.heap.size = q := ⟨_, rfl⟩
  rw [hqs] at S1
  simp only [hqs]
  obtain ⟨qp, hqp⟩ : ∃ q : Nat, w.heap.size = q := ⟨_, rfl⟩
  rw [hqp] at P1
  simp only [hqp]
  have HB2 : Hid (Below w.heap.size w W0) := B2
  clear hW0 hqs hqp b2 B2 B1 T1 b1 T0 b0 K
  have ks : ∀ X, Below W0.heap.size W0 X → X.heap[qs]? = some (.cells #[.int .i64 s0, .int .i64 s1, .int .i64 s2, .int .i64 s3] 33 (0, 0)) := fun X h => (h.block _ (row_lt S1)).trans S1
  have kp : ∀ X, Below W0.heap.size W0 X → X.heap[qp]? = some (.cells #[.int .i64 kd, .int .i64 fr, .int .i64 ds, .int .i64 bt, .int .i64 lf, .int .i64 ec, .int .i64 el, .slice ia im ic] 40 (0, 0)) := fun X h => (h.block _ (row_lt P1)).trans P1
  go_cut [8, 9] (fun p8 p9 wx => ∃ c8 c9, p8 = .pointer (some ⟨c8, 0, none⟩) ∧ p9 = .pointer (some ⟨c9, 0, none⟩) ∧ Two wx c8 (.int .i64 boot) (.int .i64 s3) ∧ Two wx c9 (.int .i64 ec) (.int .i64 el) ∧ Below W0.heap.size W0 wx)
  case first =>
    refine wp_region_any (by kernel_rfl) ?_
    change wpAny _ _ _ _ _ _ _ (World.drew _)
    refine wpAny_narrow (fun W' => Below W0.heap.size W0 W') _ _ _ _ ?_
    refine anyH_take 0 14 (.int .i64 boot) rfl rfl (by kernel_rfl) (by kernel_rfl) (by kernel_rfl) (fun _ _ _ h => h) (Or.inl ⟨by rfl, by intro w hSw; go_simp⟩) ((Below.refl _ _).drew) ?_
    try simp only [Act.put, List.setIfInBounds_toArray, List.set_cons_zero, List.set_cons_succ]
    refine anyH_take 1 15 (.pointer (some ⟨qs, 3, none⟩)) rfl rfl (by kernel_rfl) (by kernel_rfl) (by kernel_rfl) (fun _ _ _ h => h) (Or.inl ⟨by rfl, by intro w hSw; go_simp⟩) ((Below.refl _ _).drew) ?_
    try simp only [Act.put, List.setIfInBounds_toArray, List.set_cons_zero, List.set_cons_succ]
    refine anyH_take 2 16 (.int .i64 s3) rfl rfl (by kernel_rfl) (by kernel_rfl) (by kernel_rfl) (fun _ _ _ h => h) (Or.inl ⟨by rfl, by intro w hSw; have s1 := row_cell (ks _ hSw) 3 _ rfl; go_simp⟩) ((Below.refl _ _).drew) ?_
    try simp only [Act.put, List.setIfInBounds_toArray, List.set_cons_zero, List.set_cons_succ]
    refine anyH_take 3 17 (.agg #[.int .i64 boot, .int .i64 s3]) rfl rfl (by kernel_rfl) (by kernel_rfl) (by kernel_rfl) (fun _ _ _ h => h) (Or.inl ⟨by rfl, by intro w hSw; go_simp⟩) ((Below.refl _ _).drew) ?_
    try simp only [Act.put, List.setIfInBounds_toArray, List.set_cons_zero, List.set_cons_succ]
    refine anyH_take 4 18 (.pointer (some ⟨qp, 5, none⟩)) rfl rfl (by kernel_rfl) (by kernel_rfl) (by kernel_rfl) (fun _ _ _ h => h) (Or.inl ⟨by rfl, by intro w hSw; go_simp⟩) ((Below.refl _ _).drew) ?_
    try simp only [Act.put, List.setIfInBounds_toArray, List.set_cons_zero, List.set_cons_succ]
    refine anyH_take 5 19 (.int .i64 ec) rfl rfl (by kernel_rfl) (by kernel_rfl) (by kernel_rfl) (fun _ _ _ h => h) (Or.inl ⟨by rfl, by intro w hSw; have s1 := row_cell (kp _ hSw) 5 _ rfl; go_simp⟩) ((Below.refl _ _).drew) ?_
    try simp only [Act.put, List.setIfInBounds_toArray, List.set_cons_zero, List.set_cons_succ]
    refine anyH_take 6 20 (.pointer (some ⟨qp, 6, none⟩)) rfl rfl (by kernel_rfl) (by kernel_rfl) (by kernel_rfl) (fun _ _ _ h => h) (Or.inl ⟨by rfl, by intro w hSw; go_simp⟩) ((Below.refl _ _).drew) ?_
    try simp only [Act.put, List.setIfInBounds_toArray, List.set_cons_zero, List.set_cons_succ]
    refine anyH_take 7 21 (.int .i64 el) rfl rfl (by kernel_rfl) (by kernel_rfl) (by kernel_rfl) (fun _ _ _ h => h) (Or.inl ⟨by rfl, by intro w hSw; have s1 := row_cell (kp _ hSw) 6 _ rfl; go_simp⟩) ((Below.refl _ _).drew) ?_
    try simp only [Act.put, List.setIfInBounds_toArray, List.set_cons_zero, List.set_cons_succ]
    refine anyH_take 8 22 (.agg #[.int .i64 ec, .int .i64 el]) rfl rfl (by kernel_rfl) (by kernel_rfl) (by kernel_rfl) (fun _ _ _ h => h) (Or.inl ⟨by rfl, by intro w hSw; go_simp⟩) ((Below.refl _ _).drew) ?_
    try simp only [Act.put, List.setIfInBounds_toArray, List.set_cons_zero, List.set_cons_succ]
    refine wpAnyH_ready (rs := [9, 10]) (by kernel_rfl) (by simp) ?_
    refine AllReadyH.cons rfl (fun K hK => ?_) (AllReadyH.cons rfl (fun K hK => ?_) AllReadyH.nil)
    · go_simp
      refine hK.out _ _ (by go_grown) (fun hS0 => ?_)
      clear hK
      try simp only [Act.put, List.setIfInBounds_toArray, List.set_cons_zero, List.set_cons_succ]
      refine wpAnyH_ready (rs := [10]) (by kernel_rfl) (by simp) ?_
      refine AllReadyH.cons rfl (fun K hK => ?_) AllReadyH.nil
      go_simp
      refine hK.out _ _ (by go_grown) (fun hS1 => ?_)
      clear hK
      try simp only [Act.put, List.setIfInBounds_toArray, List.set_cons_zero, List.set_cons_succ]
      refine wpAnyH_ready (rs := [11]) (by kernel_rfl) (by simp) ?_
      refine AllReadyH.cons rfl (fun K hK => ?_) AllReadyH.nil
      go_simp
      refine hK.out _ _ (by go_grown) (fun hS2 => ?_)
      clear hK
      try simp only [Act.put, List.setIfInBounds_toArray, List.set_cons_zero, List.set_cons_succ]
      refine wpAnyH_ready (rs := [12]) (by kernel_rfl) (by simp) ?_
      refine AllReadyH.cons rfl (fun K hK => ?_) AllReadyH.nil
      go_simp
      refine hK.out _ _ (by go_grown) (fun hS3 => ?_)
      clear hK
      try simp only [Act.put, List.setIfInBounds_toArray, List.set_cons_zero, List.set_cons_succ]
      refine wpAnyH_done (by kernel_rfl) ?_ _
      go_wp2_with (fail)
      go_meet
      first | exact ⟨_, _, rfl, rfl, (Two.new W0 _ _ 59).alloc _, (Two.new _ _ _ 59).at (by simp), by go_grown⟩ | exact ⟨_, _, rfl, rfl, (Two.new _ _ _ 59).at (by simp), (Two.new W0 _ _ 59).alloc _, by go_grown⟩
    · go_simp
      refine hK.out _ _ (by go_grown) (fun hS0 => ?_)
      clear hK
      try simp only [Act.put, List.setIfInBounds_toArray, List.set_cons_zero, List.set_cons_succ]
      refine wpAnyH_ready (rs := [9]) (by kernel_rfl) (by simp) ?_
      refine AllReadyH.cons rfl (fun K hK => ?_) AllReadyH.nil
      go_simp
      refine hK.out _ _ (by go_grown) (fun hS1 => ?_)
      clear hK
      try simp only [Act.put, List.setIfInBounds_toArray, List.set_cons_zero, List.set_cons_succ]
      refine wpAnyH_ready (rs := [11]) (by kernel_rfl) (by simp) ?_
      refine AllReadyH.cons rfl (fun K hK => ?_) AllReadyH.nil
      go_simp
      refine hK.out _ _ (by go_grown) (fun hS2 => ?_)
      clear hK
      try simp only [Act.put, List.setIfInBounds_toArray, List.set_cons_zero, List.set_cons_succ]
      refine wpAnyH_ready (rs := [12]) (by kernel_rfl) (by simp) ?_
      refine AllReadyH.cons rfl (fun K hK => ?_) AllReadyH.nil
      go_simp
      refine hK.out _ _ (by go_grown) (fun hS3 => ?_)
      clear hK
      try simp only [Act.put, List.setIfInBounds_toArray, List.set_cons_zero, List.set_cons_succ]
      refine wpAnyH_done (by kernel_rfl) ?_ _
      go_wp2_with (fail)
      go_meet
      first | exact ⟨_, _, rfl, rfl, (Two.new W0 _ _ 59).alloc _, (Two.new _ _ _ 59).at (by simp), by go_grown⟩ | exact ⟨_, _, rfl, rfl, (Two.new _ _ _ 59).at (by simp), (Two.new W0 _ _ 59).alloc _, by go_grown⟩
  case rest =>
    obtain ⟨c8, c9, rfl, rfl, C8, C9, Bx⟩ := hcut
    have kS : ∀ X, Below wc.heap.size wc X → X.heap[qs]? = some (.cells #[.int .i64 s0, .int .i64 s1, .int .i64 s2, .int .i64 s3] 33 (0, 0)) := fun X h => ks X (Bx.trans (h.mono Bx.size))
    have kP : ∀ X, Below wc.heap.size wc X → X.heap[qp]? = some (.cells #[.int .i64 kd, .int .i64 fr, .int .i64 ds, .int .i64 bt, .int .i64 lf, .int .i64 ec, .int .i64 el, .slice ia im ic] 40 (0, 0)) := fun X h => kp X (Bx.trans (h.mono Bx.size))
    have HB3 : Hid (Below w.heap.size w wc) := HB2.out.trans (Bx.mono HB2.out.size)
    clear S1 P1 ks kp Bx
    cases hl : ltr s1 s2 bt lf with
    | true =>
      have HV : Hid (judV (getL fr l) boot ⟨kd, fr, ds, bt, lf, ec, el, ia, im, ic⟩ = 1) := by show _ = _; unfold judV; rw [HS.out]; rw [if_pos hl]
      go_wp2_with (fail)
      refine wp_region_any (by kernel_rfl) ?_
      change wpAny _ _ _ _ _ _ _ (World.drew _)
      refine wpAny_narrow (fun W' => Below wc.heap.size wc W') _ _ _ _ ?_
      refine anyH_take 0 24 (.agg #[.int .i64 s0, .int .i64 s1, .int .i64 s2, .int .i64 s3]) rfl rfl (by kernel_rfl) (by kernel_rfl) (by kernel_rfl) (fun _ _ _ h => h) (Or.inl ⟨by rfl, fun X hSw => exec_load33 rfl qs 0 ⟨s0, s1, s2, s3⟩ rfl (range_rowS (d := ⟨s0, s1, s2, s3⟩) (kS X hSw))⟩) ((Below.refl _ _).drew) ?_
      try simp only [Act.put, List.setIfInBounds_toArray, List.set_cons_zero, List.set_cons_succ]
      refine anyH_take 3 27 (.agg #[.int .i64 kd, .int .i64 fr, .int .i64 ds, .int .i64 bt, .int .i64 lf, .int .i64 ec, .int .i64 el, .slice ia im ic]) rfl rfl (by kernel_rfl) (by kernel_rfl) (by kernel_rfl) (fun _ _ _ h => h) (Or.inl ⟨by rfl, fun X hSw => exec_load40 rfl qp ⟨kd, fr, ds, bt, lf, ec, el, ia, im, ic⟩ rfl (kP X hSw)⟩) ((Below.refl _ _).drew) ?_
      try simp only [Act.put, List.setIfInBounds_toArray, List.set_cons_zero, List.set_cons_succ]
      refine wpAnyH_ready (rs := [1]) (by kernel_rfl) (by simp) ?_
      refine AllReadyH.cons rfl (fun K hK => ?_) AllReadyH.nil
      go_simp
      go_wp2_with (go_at_call 51; refine (latest_any ⟨s0, s1, s2, s3⟩ _).mono ?_; rintro e w5 ⟨rfl, b5⟩)
      have B5 : Below wc.heap.size wc w5 := (Below.refl _ _).drew.trans b5
      refine hK.out _ _ B5 (fun hS1 => ?_)
      clear hK
      try simp only [Act.put, List.setIfInBounds_toArray, List.set_cons_zero, List.set_cons_succ]
      refine anyH_take 2 26 (.agg #[.int .i64 s1, .int .i64 s2]) rfl rfl (by kernel_rfl) (by kernel_rfl) (by kernel_rfl) (fun _ _ _ h => h) (Or.inl ⟨by rfl, by intro w hSw; go_simp⟩) (B5) ?_
      try simp only [Act.put, List.setIfInBounds_toArray, List.set_cons_zero, List.set_cons_succ]
      refine wpAnyH_ready (rs := [4]) (by kernel_rfl) (by simp) ?_
      refine AllReadyH.cons rfl (fun K hK => ?_) AllReadyH.nil
      go_simp
      go_wp2_with (go_at_call 52; refine (sender_any ⟨kd, fr, ds, bt, lf, ec, el, ia, im, ic⟩ _).mono ?_; rintro e w6 ⟨rfl, b6⟩)
      have B6 : Below wc.heap.size wc w6 := B5.trans (b6.mono B5.size)
      refine hK.out _ _ B6 (fun hS2 => ?_)
      clear hK
      try simp only [Act.put, List.setIfInBounds_toArray, List.set_cons_zero, List.set_cons_succ]
      refine anyH_take 5 29 (.agg #[.int .i64 bt, .int .i64 lf]) rfl rfl (by kernel_rfl) (by kernel_rfl) (by kernel_rfl) (fun _ _ _ h => h) (Or.inl ⟨by rfl, by intro w hSw; go_simp⟩) (B6) ?_
      try simp only [Act.put, List.setIfInBounds_toArray, List.set_cons_zero, List.set_cons_succ]
      refine wpAnyH_ready (rs := [6]) (by kernel_rfl) (by simp) ?_
      refine AllReadyH.cons rfl (fun K hK => ?_) AllReadyH.nil
      go_simp
      go_wp2_with (go_at_call 41; refine (plater_any s1 s2 bt lf _).mono ?_; rw [hl]; rintro e w7 ⟨rfl, b7⟩)
      have B7 : Below wc.heap.size wc w7 := B6.trans (b7.mono B6.size)
      refine hK.out _ _ B7 (fun hS3 => ?_)
      clear hK
      try simp only [Act.put, List.setIfInBounds_toArray, List.set_cons_zero, List.set_cons_succ]
      refine anyH_take 7 23 (.bool true) rfl rfl (by kernel_rfl) (by kernel_rfl) (by kernel_rfl) (fun _ _ _ h => h) (Or.inl ⟨by rfl, by intro w hSw; go_simp⟩) (B7) ?_
      try simp only [Act.put, List.setIfInBounds_toArray, List.set_cons_zero, List.set_cons_succ]
      refine wpAnyH_done (by kernel_rfl) ?_ _
      have D8 := Two.below C8 B7
      have D9 := Two.below C9 B7
      obtain ⟨u0, u1, u2, u3, u4⟩ := D8
      obtain ⟨v0, v1, v2, v3, v4⟩ := D9
      have ⟨k0, k1, k2, k3, k4, k5, k6, k7⟩ := cel8 (kP _ B7)
      have HB7 : Hid (Below w.heap.size w w7) := HB3.out.trans (B7.mono HB3.out.size)
      go_wp2
      go_ret
      exact ⟨by rw [HV.out]; rfl, HB7.out⟩
    | false =>
      go_wp2_with (fail)
      refine wp_region_any (by kernel_rfl) ?_
      change wpAny _ _ _ _ _ _ _ (World.drew _)
      refine wpAny_narrow (fun W' => Below wc.heap.size wc W') _ _ _ _ ?_
      refine anyH_take 0 24 (.agg #[.int .i64 s0, .int .i64 s1, .int .i64 s2, .int .i64 s3]) rfl rfl (by kernel_rfl) (by kernel_rfl) (by kernel_rfl) (fun _ _ _ h => h) (Or.inl ⟨by rfl, fun X hSw => exec_load33 rfl qs 0 ⟨s0, s1, s2, s3⟩ rfl (range_rowS (d := ⟨s0, s1, s2, s3⟩) (kS X hSw))⟩) ((Below.refl _ _).drew) ?_
      try simp only [Act.put, List.setIfInBounds_toArray, List.set_cons_zero, List.set_cons_succ]
      refine anyH_take 3 27 (.agg #[.int .i64 kd, .int .i64 fr, .int .i64 ds, .int .i64 bt, .int .i64 lf, .int .i64 ec, .int .i64 el, .slice ia im ic]) rfl rfl (by kernel_rfl) (by kernel_rfl) (by kernel_rfl) (fun _ _ _ h => h) (Or.inl ⟨by rfl, fun X hSw => exec_load40 rfl qp ⟨kd, fr, ds, bt, lf, ec, el, ia, im, ic⟩ rfl (kP X hSw)⟩) ((Below.refl _ _).drew) ?_
      try simp only [Act.put, List.setIfInBounds_toArray, List.set_cons_zero, List.set_cons_succ]
      refine wpAnyH_ready (rs := [1]) (by kernel_rfl) (by simp) ?_
      refine AllReadyH.cons rfl (fun K hK => ?_) AllReadyH.nil
      go_simp
      go_wp2_with (go_at_call 51; refine (latest_any ⟨s0, s1, s2, s3⟩ _).mono ?_; rintro e w5 ⟨rfl, b5⟩)
      have B5 : Below wc.heap.size wc w5 := (Below.refl _ _).drew.trans b5
      refine hK.out _ _ B5 (fun hS1 => ?_)
      clear hK
      try simp only [Act.put, List.setIfInBounds_toArray, List.set_cons_zero, List.set_cons_succ]
      refine anyH_take 2 26 (.agg #[.int .i64 s1, .int .i64 s2]) rfl rfl (by kernel_rfl) (by kernel_rfl) (by kernel_rfl) (fun _ _ _ h => h) (Or.inl ⟨by rfl, by intro w hSw; go_simp⟩) (B5) ?_
      try simp only [Act.put, List.setIfInBounds_toArray, List.set_cons_zero, List.set_cons_succ]
      refine wpAnyH_ready (rs := [4]) (by kernel_rfl) (by simp) ?_
      refine AllReadyH.cons rfl (fun K hK => ?_) AllReadyH.nil
      go_simp
      go_wp2_with (go_at_call 52; refine (sender_any ⟨kd, fr, ds, bt, lf, ec, el, ia, im, ic⟩ _).mono ?_; rintro e w6 ⟨rfl, b6⟩)
      have B6 : Below wc.heap.size wc w6 := B5.trans (b6.mono B5.size)
      refine hK.out _ _ B6 (fun hS2 => ?_)
      clear hK
      try simp only [Act.put, List.setIfInBounds_toArray, List.set_cons_zero, List.set_cons_succ]
      refine anyH_take 5 29 (.agg #[.int .i64 bt, .int .i64 lf]) rfl rfl (by kernel_rfl) (by kernel_rfl) (by kernel_rfl) (fun _ _ _ h => h) (Or.inl ⟨by rfl, by intro w hSw; go_simp⟩) (B6) ?_
      try simp only [Act.put, List.setIfInBounds_toArray, List.set_cons_zero, List.set_cons_succ]
      refine wpAnyH_ready (rs := [6]) (by kernel_rfl) (by simp) ?_
      refine AllReadyH.cons rfl (fun K hK => ?_) AllReadyH.nil
      go_simp
      go_wp2_with (go_at_call 41; refine (plater_any s1 s2 bt lf _).mono ?_; rw [hl]; rintro e w7 ⟨rfl, b7⟩)
      have B7 : Below wc.heap.size wc w7 := B6.trans (b7.mono B6.size)
      refine hK.out _ _ B7 (fun hS3 => ?_)
      clear hK
      try simp only [Act.put, List.setIfInBounds_toArray, List.set_cons_zero, List.set_cons_succ]
      refine anyH_take 7 23 (.bool false) rfl rfl (by kernel_rfl) (by kernel_rfl) (by kernel_rfl) (fun _ _ _ h => h) (Or.inl ⟨by rfl, by intro w hSw; go_simp⟩) (B7) ?_
      try simp only [Act.put, List.setIfInBounds_toArray, List.set_cons_zero, List.set_cons_succ]
      refine wpAnyH_done (by kernel_rfl) ?_ _
      have D8 := Two.below C8 B7
      have D9 := Two.below C9 B7
      obtain ⟨u0, u1, u2, u3, u4⟩ := D8
      obtain ⟨v0, v1, v2, v3, v4⟩ := D9
      have ⟨k0, k1, k2, k3, k4, k5, k6, k7⟩ := cel8 (kP _ B7)
      have HB7 : Hid (Below w.heap.size w w7) := HB3.out.trans (B7.mono HB3.out.size)
      clear C8 C9 kS kP
      by_cases hk : kd = 1
      case pos =>
        have HV : Hid (judV (getL fr l) boot ⟨kd, fr, ds, bt, lf, ec, el, ia, im, ic⟩ = 3) := by show _ = _; unfold judV; rw [HS.out]; rw [if_neg (by rw [hl]; decide), if_neg (fun h => h.1 hk), if_pos (.inl hk)]
        have hk1 : (kd != 1) = false := by simpa using hk
        have hk2 : (kd == 1) = true := by simpa using hk
        clear hk
        go_wp2
        go_ret
        exact ⟨by rw [HV.out]; rfl, HB7.out⟩
      case neg =>
        have hk1 : (kd != 1) = true := by simpa using hk
        have hk2 : (kd == 1) = false := by simpa using hk
        by_cases hm : ec = boot ∧ el = s3
        case pos =>
          have HV : Hid (judV (getL fr l) boot ⟨kd, fr, ds, bt, lf, ec, el, ia, im, ic⟩ = 2) := by show _ = _; unfold judV; rw [HS.out]; rw [if_neg (by rw [hl]; decide), if_pos ⟨hk, hm⟩]
          have hsm : same59 ec el boot s3 = true := decide_eq_true hm
          clear hk hm
          go_wp2_with ((with_reducible show wpList _ _ _ (Oper.mk _ (Op.binOp .eql 59 _ _ 59) _ _ _ _ :: _) _ _); refine wpList_eql59 (by rfl) rfl ec el boot s3 rfl rfl ?_; rw [hsm])
          go_ret
          exact ⟨by rw [HV.out]; rfl, HB7.out⟩
        case neg =>
          have hsm : same59 ec el boot s3 = false := decide_eq_false hm
          by_cases hk3 : kd = 3
          case pos =>
            have HV : Hid (judV (getL fr l) boot ⟨kd, fr, ds, bt, lf, ec, el, ia, im, ic⟩ = 3) := by show _ = _; unfold judV; rw [HS.out]; rw [if_neg (by rw [hl]; decide), if_neg (fun h => hm h.2), if_pos (.inr hk3)]
            have hk4 : (kd == 3) = true := by simpa using hk3
            clear hk hm hk3
            go_wp2_with ((with_reducible show wpList _ _ _ (Oper.mk _ (Op.binOp .eql 59 _ _ 59) _ _ _ _ :: _) _ _); refine wpList_eql59 (by rfl) rfl ec el boot s3 rfl rfl ?_; rw [hsm])
            go_ret
            exact ⟨by rw [HV.out]; rfl, HB7.out⟩
          case neg =>
            have HV : Hid (judV (getL fr l) boot ⟨kd, fr, ds, bt, lf, ec, el, ia, im, ic⟩ = 4) := by show _ = _; unfold judV; rw [HS.out]; rw [if_neg (by rw [hl]; decide), if_neg (fun h => hm h.2), if_neg (fun h => h.elim hk hk3)]
            have hk4 : (kd == 3) = false := by simpa using hk3
            clear hk hm hk3
            go_wp2_with ((with_reducible show wpList _ _ _ (Oper.mk _ (Op.binOp .eql 59 _ _ 59) _ _ _ _ :: _) _ _); refine wpList_eql59 (by rfl) rfl ec el boot s3 rfl rfl ?_; rw [hsm])
            go_ret
            exact ⟨by rw [HV.out]; rfl, HB7.out⟩
set_option maxRecDepth 100000 in
set_option maxHeartbeats 8000000 in
theorem rjudge_any (a : Option Addr) (n cap : Nat) (l : List SN) (boot : Int) (p : PK) (w : World) (hr : RdS w a n cap l) (hrise : l.Pairwise (fun x y => x.peer < y.peer)) : Calls Try.prog 27 #[.slice a n cap, .int .i64 boot, p.val] w fun e w' => e = .returned (.int .i64 (judV (getL p.frm l) boot p)) ∧ Below w.heap.size w w' := by
  obtain ⟨kd, fr, ds, bt, lf, ec, el, ia, im, ic⟩ := p
  have K0 := fun W (h : Below w.heap.size w W) => rget_any a n cap l fr W (hr.below h) hrise
  obtain ⟨⟨s0, s1, s2, s3⟩, hs⟩ : ∃ s, getL fr l = s := ⟨_, rfl⟩
  have HS : Hid (getL fr l = ⟨s0, s1, s2, s3⟩) := hs
  rw [hs] at K0
  dsimp only [SN.val] at K0
  dsimp only [PK.val]
  have b0 : Below w.heap.size w (w.alloc (.cells #[.int .i64 kd, .int .i64 fr, .int .i64 ds, .int .i64 bt, .int .i64 lf, .int .i64 ec, .int .i64 el, .slice ia im ic] 40)) := (Below.refl _ _).alloc (Nat.le_refl _) _
  have T0 : (w.alloc (.cells #[.int .i64 kd, .int .i64 fr, .int .i64 ds, .int .i64 bt, .int .i64 lf, .int .i64 ec, .int .i64 el, .slice ia im ic] 40)).heap[w.heap.size]? = some (.cells #[.int .i64 kd, .int .i64 fr, .int .i64 ds, .int .i64 bt, .int .i64 lf, .int .i64 ec, .int .i64 el, .slice ia im ic] 40 (0, 0)) := heap_new rfl
  have K := K0 _ b0
  clear hs hr K0 hrise
  cases hl : ltr s1 s2 bt lf with
  | true =>
    have HV : Hid (judV (getL fr l) boot ⟨kd, fr, ds, bt, lf, ec, el, ia, im, ic⟩ = 1) := by show _ = _; unfold judV; rw [HS.out]; rw [if_pos hl]
    go_enter Try.func27, Try.ntmps27
    go_wp2_with (first | (go_at_call 20; refine K.mono ?_; rintro e w1 ⟨rfl, b1⟩; have T1 := (b1.block _ (row_lt T0)).trans T0; have ⟨k0, k1, k2, k3, k4, k5, k6, k7⟩ := cel8 (heap_old (o := .cells #[.int .i64 s0, .int .i64 s1, .int .i64 s2, .int .i64 s3] 33) (row_lt T1) T1)) | (go_at_call 12; refine (rlater_any s1 s2 bt lf _).mono ?_; rw [hl]; rintro e w3 ⟨rfl, hw3⟩; rw [hw3]; clear hw3 w3))
    go_ret
    exact ⟨by rw [HV.out]; rfl, (b0.trans (b1.mono b0.size)).alloc (Nat.le_trans b0.size b1.size) _⟩
  | false =>
    by_cases hk : kd = 1
    case pos =>
      have HV : Hid (judV (getL fr l) boot ⟨kd, fr, ds, bt, lf, ec, el, ia, im, ic⟩ = 3) := by show _ = _; unfold judV; rw [HS.out]; rw [if_neg (by rw [hl]; decide), if_neg (fun h => h.1 hk), if_pos (.inl hk)]
      have hk1 : (kd != 1) = false := by simpa using hk
      have hk2 : (kd == 1) = true := by simpa using hk
      clear hk
      go_enter Try.func27, Try.ntmps27
      go_wp2_with (first | (go_at_call 20; refine K.mono ?_; rintro e w1 ⟨rfl, b1⟩; have T1 := (b1.block _ (row_lt T0)).trans T0; have ⟨k0, k1, k2, k3, k4, k5, k6, k7⟩ := cel8 (heap_old (o := .cells #[.int .i64 s0, .int .i64 s1, .int .i64 s2, .int .i64 s3] 33) (row_lt T1) T1)) | (go_at_call 12; refine (rlater_any s1 s2 bt lf _).mono ?_; rw [hl]; rintro e w3 ⟨rfl, hw3⟩; rw [hw3]; clear hw3 w3))
      go_ret
      exact ⟨by rw [HV.out]; rfl, (b0.trans (b1.mono b0.size)).alloc (Nat.le_trans b0.size b1.size) _⟩
    case neg =>
      have hk1 : (kd != 1) = true := by simpa using hk
      have hk2 : (kd == 1) = false := by simpa using hk
      by_cases hm1 : ec = boot
      case pos =>
        have hm1b : (ec == boot) = true := by simpa using hm1
        by_cases hm2 : el = s3
        case pos =>
          have HV : Hid (judV (getL fr l) boot ⟨kd, fr, ds, bt, lf, ec, el, ia, im, ic⟩ = 2) := by show _ = _; unfold judV; rw [HS.out]; rw [if_neg (by rw [hl]; decide), if_pos ⟨hk, hm1, hm2⟩]
          have hm2b : (el == s3) = true := by simpa using hm2
          clear hk hm1 hm2
          go_enter Try.func27, Try.ntmps27
          go_wp2_with (first | (go_at_call 20; refine K.mono ?_; rintro e w1 ⟨rfl, b1⟩; have T1 := (b1.block _ (row_lt T0)).trans T0; have ⟨k0, k1, k2, k3, k4, k5, k6, k7⟩ := cel8 (heap_old (o := .cells #[.int .i64 s0, .int .i64 s1, .int .i64 s2, .int .i64 s3] 33) (row_lt T1) T1)) | (go_at_call 12; refine (rlater_any s1 s2 bt lf _).mono ?_; rw [hl]; rintro e w3 ⟨rfl, hw3⟩; rw [hw3]; clear hw3 w3))
          go_ret
          exact ⟨by rw [HV.out]; rfl, (b0.trans (b1.mono b0.size)).alloc (Nat.le_trans b0.size b1.size) _⟩
        case neg =>
          have hm2b : (el == s3) = false := by simpa using hm2
          by_cases hk3 : kd = 3
          case pos =>
            have HV : Hid (judV (getL fr l) boot ⟨kd, fr, ds, bt, lf, ec, el, ia, im, ic⟩ = 3) := by show _ = _; unfold judV; rw [HS.out]; rw [if_neg (by rw [hl]; decide), if_neg (fun h => hm2 h.2.2), if_pos (.inr hk3)]
            have hk4 : (kd == 3) = true := by simpa using hk3
            clear hk hm1 hm2 hk3
            go_enter Try.func27, Try.ntmps27
            go_wp2_with (first | (go_at_call 20; refine K.mono ?_; rintro e w1 ⟨rfl, b1⟩; have T1 := (b1.block _ (row_lt T0)).trans T0; have ⟨k0, k1, k2, k3, k4, k5, k6, k7⟩ := cel8 (heap_old (o := .cells #[.int .i64 s0, .int .i64 s1, .int .i64 s2, .int .i64 s3] 33) (row_lt T1) T1)) | (go_at_call 12; refine (rlater_any s1 s2 bt lf _).mono ?_; rw [hl]; rintro e w3 ⟨rfl, hw3⟩; rw [hw3]; clear hw3 w3))
            go_ret
            exact ⟨by rw [HV.out]; rfl, (b0.trans (b1.mono b0.size)).alloc (Nat.le_trans b0.size b1.size) _⟩
          case neg =>
            have HV : Hid (judV (getL fr l) boot ⟨kd, fr, ds, bt, lf, ec, el, ia, im, ic⟩ = 4) := by show _ = _; unfold judV; rw [HS.out]; rw [if_neg (by rw [hl]; decide), if_neg (fun h => hm2 h.2.2), if_neg (fun h => h.elim hk hk3)]
            have hk4 : (kd == 3) = false := by simpa using hk3
            clear hk hm1 hm2 hk3
            go_enter Try.func27, Try.ntmps27
            go_wp2_with (first | (go_at_call 20; refine K.mono ?_; rintro e w1 ⟨rfl, b1⟩; have T1 := (b1.block _ (row_lt T0)).trans T0; have ⟨k0, k1, k2, k3, k4, k5, k6, k7⟩ := cel8 (heap_old (o := .cells #[.int .i64 s0, .int .i64 s1, .int .i64 s2, .int .i64 s3] 33) (row_lt T1) T1)) | (go_at_call 12; refine (rlater_any s1 s2 bt lf _).mono ?_; rw [hl]; rintro e w3 ⟨rfl, hw3⟩; rw [hw3]; clear hw3 w3))
            go_ret
            exact ⟨by rw [HV.out]; rfl, (b0.trans (b1.mono b0.size)).alloc (Nat.le_trans b0.size b1.size) _⟩
      case neg =>
        have hm1b : (ec == boot) = false := by simpa using hm1
        by_cases hk3 : kd = 3
        case pos =>
          have HV : Hid (judV (getL fr l) boot ⟨kd, fr, ds, bt, lf, ec, el, ia, im, ic⟩ = 3) := by show _ = _; unfold judV; rw [HS.out]; rw [if_neg (by rw [hl]; decide), if_neg (fun h => hm1 h.2.1), if_pos (.inr hk3)]
          have hk4 : (kd == 3) = true := by simpa using hk3
          clear hk hm1 hk3
          go_enter Try.func27, Try.ntmps27
          go_wp2_with (first | (go_at_call 20; refine K.mono ?_; rintro e w1 ⟨rfl, b1⟩; have T1 := (b1.block _ (row_lt T0)).trans T0; have ⟨k0, k1, k2, k3, k4, k5, k6, k7⟩ := cel8 (heap_old (o := .cells #[.int .i64 s0, .int .i64 s1, .int .i64 s2, .int .i64 s3] 33) (row_lt T1) T1)) | (go_at_call 12; refine (rlater_any s1 s2 bt lf _).mono ?_; rw [hl]; rintro e w3 ⟨rfl, hw3⟩; rw [hw3]; clear hw3 w3))
          go_ret
          exact ⟨by rw [HV.out]; rfl, (b0.trans (b1.mono b0.size)).alloc (Nat.le_trans b0.size b1.size) _⟩
        case neg =>
          have HV : Hid (judV (getL fr l) boot ⟨kd, fr, ds, bt, lf, ec, el, ia, im, ic⟩ = 4) := by show _ = _; unfold judV; rw [HS.out]; rw [if_neg (by rw [hl]; decide), if_neg (fun h => hm1 h.2.1), if_neg (fun h => h.elim hk hk3)]
          have hk4 : (kd == 3) = false := by simpa using hk3
          clear hk hm1 hk3
          go_enter Try.func27, Try.ntmps27
          go_wp2_with (first | (go_at_call 20; refine K.mono ?_; rintro e w1 ⟨rfl, b1⟩; have T1 := (b1.block _ (row_lt T0)).trans T0; have ⟨k0, k1, k2, k3, k4, k5, k6, k7⟩ := cel8 (heap_old (o := .cells #[.int .i64 s0, .int .i64 s1, .int .i64 s2, .int .i64 s3] 33) (row_lt T1) T1)) | (go_at_call 12; refine (rlater_any s1 s2 bt lf _).mono ?_; rw [hl]; rintro e w3 ⟨rfl, hw3⟩; rw [hw3]; clear hw3 w3))
          go_ret
          exact ⟨by rw [HV.out]; rfl, (b0.trans (b1.mono b0.size)).alloc (Nat.le_trans b0.size b1.size) _⟩
end Go.Proofs.Yteoiogjaecpddaa
