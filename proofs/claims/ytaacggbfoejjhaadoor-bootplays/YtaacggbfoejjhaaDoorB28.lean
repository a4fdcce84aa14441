/-
  The law BootPlays, walked.
-/
import Derived.Test.YtaacggbfoejjhaaDoorB27
namespace Go.Proofs.YtaacggbfoejjhaaDoor
open Go.ChangeShapes Go.WideShapes Go.ChangeAt Go.RowKit
open D
set_option linter.unusedVariables false
set_option linter.unusedSimpArgs false

theorem RowA.at {w : World} {a : Option Addr} {len cap : Nat} {l : List ActS} (R : RowA w a len cap l) {i : Nat} (hi : i < len) : ∃ b off, a = some ⟨b, off, none⟩ ∧ b < w.heap.size ∧ w.rangeAt b (off + i * 4) (l.getD i actsZ).cells := by
  rcases R.mem with h | ⟨b, off, e, hb, h⟩
  · omega
  · exact ⟨b, off, e, hb, h i hi⟩
theorem range_below {w W : World} {n b o : Nat} {cs : List Value} (h : w.rangeAt b o cs) (hb : b < n) (k : Below n w W) : W.rangeAt b o cs := fun j v hv => (World.cell?_of_block (a := ⟨b, o + j, none⟩) (k.block b hb)).trans (h j v hv)
/-- Two disks, made between w and w'. -/
structure Pair (w w' : World) (d l r m : Nat) : Prop where
  both : ∃ S T, Bth w' d l r m S T
  hd : w.heap.size ≤ d
  hl : w.heap.size ≤ l
  hr : w.heap.size ≤ r
  hm : w.heap.size ≤ m
  below : Below w.heap.size w w'
def Pairs (w : World) (e : Ending) (w' : World) : Prop := ∃ d r, e = .returned (.tuple #[.pointer (some ⟨d, 0, none⟩), .pointer (some ⟨r, 0, none⟩)]) ∧ ∃ l m, Pair w w' d l r m
theorem pair_mk {w w1 w2 : World} {d l r m : Nat} {S : DS} (hS : S.gone = false) (hS2 : S.stays = false) (Q : DkR w1 r m S) (hr : w.heap.size ≤ r) (hm : w.heap.size ≤ m) (b1 : Below w.heap.size w w1) (P : DkP w2 d l S) (hd : w1.heap.size ≤ d) (hl : w1.heap.size ≤ l) (b2 : Below w1.heap.size w1 w2) : Pair w w2 d l r m := by
  have h1 := row_lt Q.obj
  have h2 := row_lt Q.byt
  have h3 := b1.size
  exact ⟨⟨S, S, P, Q.below b2, Sim.refl0 hS hS2, by omega, by omega, by omega, by omega⟩, by omega, by omega, hr, hm, b1.trans (b2.mono b1.size)⟩
theorem pair_mk' {w w1 w2 : World} {d l r m : Nat} {S : DS} (hS : S.gone = false) (hS2 : S.stays = false) (P : DkP w1 d l S) (hd : w.heap.size ≤ d) (hl : w.heap.size ≤ l) (b1 : Below w.heap.size w w1) (Q : DkR w2 r m S) (hr : w1.heap.size ≤ r) (hm : w1.heap.size ≤ m) (b2 : Below w1.heap.size w1 w2) : Pair w w2 d l r m := by
  have h1 := row_lt P.obj
  have h2 := row_lt P.lst
  have h3 := b1.size
  exact ⟨⟨S, S, P.below b2, Q, Sim.refl0 hS hS2, by omega, by omega, by omega, by omega⟩, hd, hl, by omega, by omega, b1.trans (b2.mono b1.size)⟩
set_option maxRecDepth 10000 in
set_option maxHeartbeats 4000000 in
theorem disks_img (b off len cap n : Nat) (zs : List Int) (x : Int) (w : World) (R : Row .u8 w (some ⟨b, off, none⟩) len cap zs) (hn : len = 16 * n) (h1 : 1 ≤ n) (h2 : n ≤ 64) (hc : cap ≤ 9223372036854775807) :
    Calls Tryd.prog 7 #[.slice (some ⟨b, off, none⟩) len cap, .int .i64 x] w (Pairs w) := by
  unfold Pairs
  have K1 := rload_ok n b off len cap zs w R hn h1 h2
  have K2 := fun (W : World) (k : Below w.heap.size w W) => load_ok n b off len cap zs W (R.below k) hn h1 h2 hc
  clear hn
  go_enter Tryd.func7, Tryd.ntmps7
  go_wp2_with (first
    | (go_at_call 22; refine K1.mono ?_; rintro e w1 ⟨r, rfl, hr, m, hm, Q1, b1⟩)
    | (go_at_call 17; refine (K2 w1 b1).mono ?_; rintro e w2 ⟨d, rfl, hd, l, hl, P2, b2⟩))
  go_ret2
  exact ⟨d, r, rfl, l, m, pair_mk rfl rfl Q1 hr hm b1 P2 hd hl b2⟩
set_option maxRecDepth 10000 in
set_option maxHeartbeats 4000000 in
theorem disks_new (a : Option Addr) (len cap n : Nat) (w : World) (hf : fitL len = false) (hl0 : len ≤ 9223372036854775807) (h1 : 1 ≤ n) (h2 : n ≤ 64) :
    Calls Tryd.prog 7 #[.slice a len cap, .int .i64 (n : Int)] w (Pairs w) := by
  unfold Pairs
  have K1 := rload_no a len cap w hf hl0
  have K2 := new_ok n w h1 h2
  have K3 := fun (W : World) => rnew_ok n W h1 h2
  go_enter Tryd.func7, Tryd.ntmps7
  go_wp2_with (first
    | (go_at_call 22; refine K1.mono ?_; rintro e w1 ⟨rfl, hw⟩; rw [hw]; clear hw)
    | (go_at_call 18; refine K2.mono ?_; rintro e w2 ⟨d, rfl, hd, l, hl, P2, b2⟩)
    | (go_at_call 23; refine (K3 w2).mono ?_; rintro e w3 ⟨r, rfl, hr, m, hm, Q3, b3⟩))
  go_ret2
  exact ⟨d, r, rfl, l, m, pair_mk' rfl rfl P2 hd hl b2 Q3 hr hm b3⟩
set_option maxRecDepth 10000 in
set_option maxHeartbeats 4000000 in
theorem disks_nil (a : Option Addr) (len cap : Nat) (x : Int) (w : World) (hf : fitL len = false) (hl0 : len ≤ 9223372036854775807) (h : x < 1 ∨ 64 < x) :
    Calls Tryd.prog 7 #[.slice a len cap, .int .i64 x] w fun e w' => e = .returned (.tuple #[.pointer none, .pointer none]) ∧ w' = w := by
  have K1 := rload_no a len cap w hf hl0
  have K2 := new_no x w h
  have K3 := rnew_no x w h
  clear h
  go_enter Tryd.func7, Tryd.ntmps7
  go_wp2_with (first
    | (go_at_call 22; refine K1.mono ?_; rintro e w1 ⟨rfl, hw⟩; rw [hw]; clear hw)
    | (go_at_call 18; refine K2.mono ?_; rintro e w1 ⟨rfl, hw⟩; rw [hw]; clear hw)
    | (go_at_call 23; refine K3.mono ?_; rintro e w1 ⟨rfl, hw⟩; rw [hw]; clear hw))
  go_ret2
  exact ⟨rfl, rfl⟩
set_option maxRecDepth 10000 in
set_option maxHeartbeats 8000000 in
theorem plays_nil (a : Option Addr) (len cap : Nat) (x : Int) (v3 : Value) (w : World) (ht : Tb w) (K7 : Calls Tryd.prog 7 #[.slice a len cap, .int .i64 x] w fun e w' => e = .returned (.tuple #[.pointer none, .pointer none]) ∧ w' = w) :
    Calls Tryd.prog 3 #[.slice a len cap, .int .i64 x, v3] w fun e w' => e = .returned (.bool true) ∧ Below w.heap.size w w' := by
  go_enter Tryd.func3, Tryd.ntmps3
  go_wp2_with (first
    | (go_at_call 7; refine K7.mono ?_; rintro e w1 ⟨rfl, hw⟩; rw [hw]; clear hw)
    | (go_at_call 8; refine (slots_nil w).mono ?_; rintro e w1 ⟨rfl, b1⟩; have t1 := ht.below b1)
    | (go_at_call 9; refine (next_nil w1 t1).mono ?_; rintro e w2 ⟨rfl, b2⟩; have t2 := t1.below b2)
    | (go_at_call 10; refine (last_nil w2 t2).mono ?_; rintro e w3 ⟨rfl, b3⟩; have t3 := t2.below b3)
    | (go_at_call 11; refine (awake_any w3 t3).mono ?_; rintro e w4 ⟨rfl, b4⟩))
  go_ret
  have c2 := b1.trans (b2.mono b1.size)
  have c3 := c2.trans (b3.mono c2.size)
  exact ⟨rfl, c3.trans (b4.mono c3.size)⟩
theorem tb_drew {w : World} (h : Tb w) : Tb w.drew := S.Tab.drew h
theorem in4_far {w : World} {d l r m b : Nat} (h1 : w.heap.size ≤ d) (h2 : w.heap.size ≤ l) (h3 : w.heap.size ≤ r) (h4 : w.heap.size ≤ m) (hb : b < w.heap.size) : ¬ in4 d l r m b := by rintro (e | e | e | e) <;> omega
theorem below_in4 {w X Y : World} {d l r m : Nat} (b : Below w.heap.size w X) (o : Only (in4 d l r m) X Y) (h1 : w.heap.size ≤ d) (h2 : w.heap.size ≤ l) (h3 : w.heap.size ≤ r) (h4 : w.heap.size ≤ m) : Below w.heap.size w Y := b.trans (o.below b.size (by rintro q (e | e | e | e) <;> omega))
theorem ActOk.below {w W : World} {q : ActS} (h : ActOk w q) (b : Below w.heap.size w W) : ActOk W q := ⟨h.row.below b, h.max, h.nn, h.sc⟩
theorem load_act {ops : Array Oper} {rest : List Oper} {o : Oper} {a : Act} {w : World} {Q : Exit → Act → World → Prop} (hgd : o.guard = none) (x : Operand) (ho : o.op = .load 36 x) (g off : Nat) (q : ActS)
    (hx : a.eval x = .pointer (some ⟨g, off, none⟩)) (hc : w.rangeAt g off q.cells) (h : wpList Tryd.prog ops Q rest (a.put o.dst (act4 q.kd q.nn q.sc q.a q.n q.c)) w) : wpList Tryd.prog ops Q (o :: rest) a w :=
  wpList_load_mid hgd 36 x ho g off hx q.cells _ hc Tryd.underlying36 rfl (by show _ = some 4; kernel_rfl) h
set_option maxRecDepth 10000 in
set_option maxHeartbeats 16000000 in
theorem plays_walk (a : Option Addr) (len cap : Nat) (x : Int) (a2 : Option Addr) (len2 cap2 : Nat) (acts : List ActS) (w : World) (ht : Tb w) (RA : RowA w a2 len2 cap2 acts) (hl2 : len2 ≤ 9223372036854775807) (K7 : Calls Tryd.prog 7 #[.slice a len cap, .int .i64 x] w (Pairs w)) :
    Calls Tryd.prog 3 #[.slice a len cap, .int .i64 x, .slice a2 len2 cap2] w fun e w' => e = .returned (.bool true) ∧ Below w.heap.size w w' := by
  unfold Pairs at K7
  go_enter Tryd.func3, Tryd.ntmps3
  go_wp2_with (first
    | (go_at_call 7; refine K7.mono ?_; rintro e w0 ⟨d, r, rfl, l, m, ⟨⟨S0, T0, B0⟩, hd, hl, hr, hm, b0⟩⟩; have t0 := ht.below b0))
  go_loopg [16] len2 (fun g v16 wr => ∃ (i : Nat) (S T : DS), v16 = .int .i64 (i : Int) ∧ i + g = len2 ∧ Bth wr d l r m S T ∧ Tb wr ∧ Below w.heap.size w wr)
  case atStart => exact ⟨0, S0, T0, rfl, by omega, B0, t0, b0⟩
  case round =>
    obtain ⟨i, S, T, rfl, hg, Bi, ti, bi⟩ := hrel
    clear B0 t0 b0
    by_cases hc : i < len2
    · have hcI : (i : Int) < (len2 : Int) := by omega
      obtain ⟨ab, aoff, rfl, hab, hra⟩ := RA.at hc
      have hrw := range_below hra hab bi
      obtain ⟨q, hq⟩ : ∃ q, acts.getD i actsZ = q := ⟨_, rfl⟩
      have hqo : ActOk w q := by
        rw [← hq]
        rw [List.getD_eq_getElem?_getD, List.getElem?_eq_getElem (by rw [RA.size]; exact hc)]
        exact RA.ok _ (List.getElem_mem _)
      rw [hq] at hrw
      clear hq hra
      have KA := act_all d l r m S T wr Bi ti q (hqo.below bi) (fun b hb ho hn => by
        rcases hqo.row.mem with h0 | ⟨b', off', e, hb', _⟩
        · omega
        · obtain ⟨o, ho⟩ := ho
          rw [e] at ho
          cases ho
          exact in4_far hd hl hr hm hb')
      unfold bargs Did at KA
      go_wp2_with (first
        | ((with_reducible show wpList _ _ _ (Oper.mk _ (Op.load 36 _) _ _ _ _ :: _) _ _); refine load_act rfl _ rfl ab (aoff + i * 4) q rfl hrw ?_)
        | (go_at_call 12; refine KA.mono ?_; rintro e w1 ⟨rfl, ⟨S1, T1, B1⟩, o1⟩; have b1 := below_in4 bi o1 hd hl hr hm))
      have t1 : Tb w1 := ht.below b1
      go_roundg (gk - 1)
      case measure => omega
      case rel => exact ⟨i + 1, S1, T1, by first | rfl | go_num, by omega, B1, t1, b1⟩
    · have hcI : ¬ (i : Int) < (len2 : Int) := by omega
      have e : i = len2 := by omega
      subst e
      go_wp2
      refine wp_region_any (by kernel_rfl) ?_
      change wpAny _ _ _ _ _ _ _ (World.drew _)
      generalize hwd : World.drew _ = wd
      have Bd : Bth wd d l r m S T := by rw [← hwd]; exact ⟨Bi.p.of_blocks rfl rfl, Bi.q.of_blocks rfl rfl, Bi.sim, Bi.dr, Bi.dm, Bi.lr, Bi.lm⟩
      have bd : Below w.heap.size w wd := by rw [← hwd]; exact bi.drew
      have td : Tb wd := by rw [← hwd]; exact tb_drew ti
      clear hwd Bi bi ti
      have HBS : Hid (T.bs = S.bs) := Bd.sim.bs.symm
      refine wpAny_narrow (fun X => Below wd.heap.size wd X) _ _ _ _ ?_
      refine anyH_take 0 96 (.pointer (some ⟨d, 0, none⟩)) rfl rfl (by kernel_rfl) (by kernel_rfl) (by kernel_rfl) (fun _ _ _ h => h) (Or.inl ⟨by rfl, by intro X hSw; go_simp⟩) (Below.refl _ _) ?_
      try simp only [Act.put, List.setIfInBounds_toArray, List.set_cons_zero, List.set_cons_succ]
      refine anyH_take 3 99 (.pointer (some ⟨r, 0, none⟩)) rfl rfl (by kernel_rfl) (by kernel_rfl) (by kernel_rfl) (fun _ _ _ h => h) (Or.inl ⟨by rfl, by intro X hSw; go_simp⟩) (Below.refl _ _) ?_
      try simp only [Act.put, List.setIfInBounds_toArray, List.set_cons_zero, List.set_cons_succ]
      refine wpAnyH_ready (rs := [1]) (by kernel_rfl) (by simp) ?_
      refine AllReadyH.cons rfl (fun K hK => ?_) AllReadyH.nil
      rw [if_pos (by rfl)]
      simp only [List.getElem_toArray, List.getElem_cons_succ, List.getElem_cons_zero]
      go_wp2_with (go_at_call 13; refine (image_any d l S wd Bd.p).mono ?_; rintro e w1 ⟨v1, rfl, O1, b1⟩; obtain ⟨a1, n1, c1, rfl, R1, hn1, _, _⟩ := O1.row Bd.p.ok.byt; clear hn1 O1; have q1 := Bd.q.below b1; have t1 := td.below b1)
      refine hK.out _ _ (b1) (fun hS => ?_)
      clear hK hS
      refine wpAnyH_narrow (fun X => Below w1.heap.size w1 X) (fun X hX => b1.trans (hX.mono b1.size)) _ _ _ _ ?_
      refine anyH_take 2 98 (.string (strOfNums S.bs)) rfl rfl (by kernel_rfl) (by kernel_rfl) (by kernel_rfl) (fun _ _ _ h => h) (Or.inl ⟨by rfl, by intro X hSw; have q := conv_row (R1.below hSw); go_simp⟩) (Below.refl _ _) ?_
      try simp only [Act.put, List.setIfInBounds_toArray, List.set_cons_zero, List.set_cons_succ]
      refine wpAnyH_ready (rs := [4]) (by kernel_rfl) (by simp) ?_
      refine AllReadyH.cons rfl (fun K hK => ?_) AllReadyH.nil
      rw [if_pos (by rfl)]
      simp only [List.getElem_toArray, List.getElem_cons_succ, List.getElem_cons_zero]
      go_wp2_with (go_at_call 14; refine (rimage_any r m T w1 q1).mono ?_; rintro e w2 ⟨v2, rfl, O2, b2⟩; rw [HBS.out] at O2; obtain ⟨a2', n2, c2, rfl, R2, hn2, _, _⟩ := O2.row Bd.p.ok.byt; clear hn2 O2; have t2 := t1.below b2)
      refine hK.out _ _ (b2) (fun hS => ?_)
      clear hK hS
      refine wpAnyH_narrow (fun X => Below w2.heap.size w2 X) (fun X hX => b2.trans (hX.mono b2.size)) _ _ _ _ ?_
      refine anyH_take 5 101 (.string (strOfNums S.bs)) rfl rfl (by kernel_rfl) (by kernel_rfl) (by kernel_rfl) (fun _ _ _ h => h) (Or.inl ⟨by rfl, by intro X hSw; have q := conv_row (R2.below hSw); go_simp⟩) (Below.refl _ _) ?_
      try simp only [Act.put, List.setIfInBounds_toArray, List.set_cons_zero, List.set_cons_succ]
      refine anyH_take 6 102 (.bool true) rfl rfl (by kernel_rfl) (by kernel_rfl) (by kernel_rfl) (fun _ _ _ h => h) (Or.inl ⟨by rfl, fun X hSw => exec_eqs rfl rfl rfl⟩) (Below.refl _ _) ?_
      try simp only [Act.put, List.setIfInBounds_toArray, List.set_cons_zero, List.set_cons_succ]
      refine anyH_take 7 103 (.bool true) rfl rfl (by kernel_rfl) (by kernel_rfl) (by kernel_rfl) (fun _ _ _ h => h) (Or.inl ⟨by rfl, by intro X hSw; go_simp⟩) (Below.refl _ _) ?_
      try simp only [Act.put, List.setIfInBounds_toArray, List.set_cons_zero, List.set_cons_succ]
      refine wpAnyH_ready (rs := [8]) (by kernel_rfl) (by simp) ?_
      refine AllReadyH.cons rfl (fun K hK => ?_) AllReadyH.nil
      rw [if_pos (by rfl)]
      simp only [List.getElem_toArray, List.getElem_cons_succ, List.getElem_cons_zero]
      go_wp2_with (go_at_call 11; refine (awake_any w2 t2).mono ?_; rintro e w3 ⟨rfl, b3⟩)
      refine hK.out _ _ (b3) (fun hS => ?_)
      clear hK hS
      refine wpAnyH_narrow (fun X => Below w3.heap.size w3 X) (fun X hX => b3.trans (hX.mono b3.size)) _ _ _ _ ?_
      refine anyH_take 9 105 (.bool true) rfl rfl (by kernel_rfl) (by kernel_rfl) (by kernel_rfl) (fun _ _ _ h => h) (Or.inl ⟨by rfl, by intro X hSw; go_simp⟩) (Below.refl _ _) ?_
      try simp only [Act.put, List.setIfInBounds_toArray, List.set_cons_zero, List.set_cons_succ]
      refine anyH_take 10 6 (.bool true) rfl rfl (by kernel_rfl) (by kernel_rfl) (by kernel_rfl) (fun _ _ _ h => h) (Or.inl ⟨by rfl, by intro X hSw; go_simp⟩) (Below.refl _ _) ?_
      try simp only [Act.put, List.setIfInBounds_toArray, List.set_cons_zero, List.set_cons_succ]
      refine wpAnyH_done (by kernel_rfl) ?_ _
      go_wp2
      go_ret
      have c1' := bd.trans (b1.mono bd.size)
      have c2' := c1'.trans (b2.mono c1'.size)
      exact ⟨rfl, c2'.trans (b3.mono c2'.size)⟩
theorem plays_law (a : Option Addr) (len cap : Nat) (zs : List Int) (x : Int) (a2 : Option Addr) (len2 cap2 : Nat) (acts : List ActS) (w : World) (ht : Tb w) (R : Row .u8 w a len cap zs) (hc : cap ≤ 9223372036854775807) (RA : RowA w a2 len2 cap2 acts) (hl2 : len2 ≤ 9223372036854775807) :
    Calls Tryd.prog 3 #[.slice a len cap, .int .i64 x, .slice a2 len2 cap2] w fun e w' => e = .returned (.bool true) ∧ Below w.heap.size w w' := by
  have hle := R.le
  cases hf : fitL len with
  | true =>
    obtain ⟨n, hn, h1, h2⟩ := fitL_yes hf
    rcases R.mem with h | ⟨b, off, rfl, _, _⟩
    · omega
    · exact plays_walk _ len cap x a2 len2 cap2 acts w ht RA hl2 (disks_img b off len cap n zs x w R hn h1 h2 hc)
  | false =>
    by_cases hx : 1 ≤ x ∧ x ≤ 64
    · obtain ⟨n, rfl⟩ : ∃ n : Nat, x = (n : Int) := ⟨x.toNat, by omega⟩
      exact plays_walk a len cap _ a2 len2 cap2 acts w ht RA hl2 (disks_new a len cap n w hf (by omega) (by omega) (by omega))
    · exact plays_nil a len cap x _ w ht (disks_nil a len cap x w hf (by omega) (by omega))
end Go.Proofs.YtaacggbfoejjhaaDoor
