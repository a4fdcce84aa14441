/-
  The law DiskLoads, walked.
-/
import Derived.Test.YtoecgldpmmclgaaBal
import Derived.Test.YtoecgldpmmclgaaSz
namespace Go.Proofs.Ytoecgldpmmclgaa
open Go.ChangeShapes Go.WideShapes Go.ChangeAt Go.RowKit
set_option linter.unusedVariables false
set_option linter.unusedSimpArgs false

theorem open_rowW {H : Type} {enc : TypeId × Value → H} {W : World} {a : Option Addr} {len cap : Nat} {d : DataW H} {ps : List MemPlace} (h : DataW.Trod enc Try.prog W 0 (fun _ => true) true 28 (.slice a len cap) d ps) (hB : ∀ k ∈ d.weights Try.prog 28, k ≤ reachBytes) : ∃ zs, Row .u8 W a len cap zs ∧ cap ≤ maxLen ∧ cap ≤ reachBytes := by
  obtain ⟨fuel, hf⟩ := h
  obtain ⟨a', len', cap', zs, e, R, hm, hw⟩ := open_bytesW (x := (d, ps)) (v := .slice a len cap) hf
  cases e
  exact ⟨zs, R, hm, hw _ hB⟩
theorem Plays.setNew {w W : World} {d l r m g : Nat} (P : Plays w d l r m W) (hg : w.heap.size ≤ g) (hne : ∀ q, in4 d l r m q → q ≠ g) (i : Nat) (v : Value) : Plays w d l r m (W.setCell ⟨g, i, none⟩ v) := by
  obtain ⟨S, T, B⟩ := P.bth
  exact ⟨⟨S, T, B.only (C := at1 g) ((Only.refl _ _).set _ _) (fun q hq e => hne q hq e)⟩, P.below.setCell (p := ⟨g, i, none⟩) hg _, P.hd, P.hl, P.hr, P.hm⟩
set_option maxRecDepth 100000 in
set_option maxHeartbeats 8000000 in
theorem loads_no (a0 : Option Addr) (len0 cap0 : Nat) (zs : List Int) (a : Option Addr) (len cap : Nat) (w : World) (R0 : Row .u8 w a0 len0 cap0 zs) (hlen0 : len0 ≤ 140737488351232) (hno : fitL len0 = false) :
    Calls Try.prog 4 #[.slice a0 len0 cap0, .slice a len cap] w fun e w' => e = .returned (.bool true) ∧ Below w.heap.size w w' := by
  have hzb := R0.byte
  have HZ : Hid (zs.length = len0) := R0.size
  have hfit : ([] : List Int).length + len0 ≤ 140737488355328 := by simp; omega
  have K11 := fun a1 c1 W => load_no a1 len0 c1 W hno (by omega)
  have K12 := fun W => rload_no a0 len0 cap0 W hno (by omega)
  clear hno
  go_enter Try.func4, Try.ntmps4
  go_wp2_with (first
    | ((with_reducible show wpList _ _ _ (Oper.mk _ (Op.call { callee := Callee.builtin Builtin.append, args := _, argTypes := _ }) _ _ _ _ :: _) _ _); refine wpList_append_row _ rfl _ _ rfl w.heap.size (.slice none 0 0) [] rfl (Own.nil _ _) a0 len0 cap0 zs rfl R0 (Nat.le_refl _) hfit ?_; intro v1 w1 O1 b1; rw [List.nil_append] at O1; obtain ⟨a1, n1, c1, rfl, R1, hn1, hcm1, hm1⟩ := O1.row hzb; obtain rfl : n1 = len0 := (by rw [hn1]; exact HZ.out); clear hn1; have Ri := R0.below b1; have cv1 := conv_row R1; have cv2 := conv_row Ri)
    | (go_at_call 11; refine (K11 _ _ _).mono ?_; rintro e w2 ⟨rfl, hw⟩; rw [hw]; clear hw)
    | (go_at_call 12; refine (K12 _).mono ?_; rintro e w2 ⟨rfl, hw⟩; rw [hw]; clear hw)
    | (go_at_call 9; refine (awake_any _).mono ?_; rintro e w3 ⟨rfl, b3⟩))
  go_ret
  exact ⟨rfl, b1.trans (b3.mono b1.size)⟩
set_option maxRecDepth 100000 in
set_option maxHeartbeats 8000000 in
theorem loads_ok (a0 : Option Addr) (len0 cap0 : Nat) (zs : List Int) (a : Option Addr) (len cap : Nat) (qs : List ActS) (w : World) (R0 : Row .u8 w a0 len0 cap0 zs) (RA : RowA w a len cap qs) (hcs : ∀ q ∈ qs, q.c ≤ 140737488351232) (hl : len ≤ 9223372036854775807) (n : Nat) (hn : len0 = 16 * n) (h1 : 1 ≤ n) (h2 : n ≤ 64) :
    Calls Try.prog 4 #[.slice a0 len0 cap0, .slice a len cap] w fun e w' => e = .returned (.bool true) ∧ Below w.heap.size w w' := by
  have hzb := R0.byte
  have HZ : Hid (zs.length = len0) := R0.size
  have HN : Hid (len0 = 16 * n) := hn
  have HSZ : Hid (qs.length = len) := RA.size
  have hfit : ([] : List Int).length + len0 ≤ 140737488355328 := by simp; omega
  have hpos : 0 < len0 := by omega
  have hlen0 : len0 ≤ 1024 := by omega
  obtain ⟨bi, oi, rfl, hbi⟩ : ∃ bi oi, a0 = some ⟨bi, oi, none⟩ ∧ bi < w.heap.size := by
    rcases R0.mem with h | ⟨b, o, e, hb, _⟩
    · omega
    · exact ⟨b, o, e, hb⟩
  clear hn
  go_enter Try.func4, Try.ntmps4
  go_wp2_with (first
    | ((with_reducible show wpList _ _ _ (Oper.mk _ (Op.call { callee := Callee.builtin Builtin.append, args := _, argTypes := _ }) _ _ _ _ :: _) _ _); refine wpList_append_row _ rfl _ _ rfl w.heap.size (.slice none 0 0) [] rfl (Own.nil _ _) (some ⟨bi, oi, none⟩) len0 cap0 zs rfl R0 (Nat.le_refl _) hfit ?_; intro v1 w1 O1 b1; rw [List.nil_append] at O1; obtain ⟨a1, n1, c1, rfl, R1, hn1, hcm1, hm1⟩ := O1.row hzb; obtain rfl : n1 = len0 := (by rw [hn1]; exact HZ.out); clear hn1; have Ri := R0.below b1; obtain ⟨g1, o1, rfl, hg1⟩ : ∃ g1 o1, a1 = some ⟨g1, o1, none⟩ ∧ g1 < w1.heap.size := (by rcases R1.mem with h | ⟨b, o, e, hb, _⟩; (omega); exact ⟨b, o, e, hb⟩); obtain ⟨hgw, ho1, _⟩ := hm1 g1 o1 rfl; subst ho1)
    | (go_at_call 11; refine (load_ok n g1 0 n1 c1 zs _ R1 HN.out h1 h2 hcm1).mono ?_; rintro e w2 ⟨d, rfl, hd, l, hl', D2, b2⟩; have Rj := Ri.below b2; have R2 := R1.below b2)
    | (go_at_call 12; refine (rload_ok n bi oi n1 cap0 zs _ Rj HN.out h1 h2).mono ?_; rintro e w3 ⟨r, rfl, hr, m, hm, D3, b3⟩; have cv1 := conv_row (R2.below b3); have cv2 := conv_row (Rj.below b3); have z1 := b1.size; have z2 := b2.size; have z3 := b3.size))
  have P3 : Plays w d l r m w3 := ⟨⟨imgS n zs, imgS n zs, D2.below b3, D3, Sim.refl0 rfl rfl, by have := row_lt D2.obj; omega, by have := row_lt D2.obj; omega, by have := row_lt D2.lst; omega, by have := row_lt D2.lst; omega⟩, b1.trans ((b2.trans (b3.mono z2)).mono z1), by omega, by omega, by omega, by omega⟩
  have hne : ∀ q, in4 d l r m q → q ≠ g1 := by rintro q (e | e | e | e) <;> omega
  have HO : Hid (∃ cs, w3.heap[g1]? = some (.cells cs 5 (0, 0)) ∧ n1 ≤ cs.size) := by
    obtain ⟨cs, e1, e2, _⟩ := own_obj O1
    exact ⟨cs, (b3.block _ (by omega)).trans ((b2.block _ hg1).trans e1), e2⟩
  have hle1 := R1.le
  clear D2 D3 O1 R1 R2 Ri Rj cv1 cv2 hm1
  go_loopg [36] n1 (fun g v36 wr => ∃ k : Nat, v36 = .int .i64 (k : Int) ∧ k + g = n1 ∧ Hid (Plays w d l r m wr) ∧ Hid (∃ cs, wr.heap[g1]? = some (.cells cs 5 (0, 0)) ∧ n1 ≤ cs.size))
  case atStart => exact ⟨0, rfl, by omega, P3, HO⟩
  case round =>
    obtain ⟨k, rfl, hkg, HPk, HCk⟩ := hrel
    by_cases hk : k < n1
    · have hkI : (k : Int) < (n1 : Int) := by omega
      obtain ⟨cs, hcs', hcn⟩ := HCk.out
      have ck := row_cell hcs' k _ (Array.getElem?_eq_getElem (show k < cs.size by omega))
      have fk := row_free hcs' k
      obtain ⟨ov, hov⟩ : ∃ ov, cs[k] = ov := ⟨_, rfl⟩
      rw [hov] at ck
      clear hov
      go_wp2
      go_roundg (gk - 1)
      case measure => omega
      case rel => exact ⟨k + 1, by go_num, by omega, HPk.out.setNew hgw hne _ _, ⟨_, set_row hcs' k _, by simpa using hcn⟩⟩
    · obtain rfl : k = n1 := by omega
      have P4 := HPk.out
      go_wp2
      go_loopg [45] len (fun g v45 wr => ∃ i : Nat, v45 = .int .i64 (i : Int) ∧ i + g = len ∧ Hid (Plays w d l r m wr))
      case atStart => exact ⟨0, rfl, by omega, P4⟩
      case round =>
        obtain ⟨i, rfl, hig, HP⟩ := hrel
        have P := HP.out
        by_cases hi : i < len
        · have hiI : (i : Int) < (len : Int) := by omega
          obtain ⟨b, off, rfl, hbz, hcell⟩ := (RA.below P.below).mem.resolve_left (by omega)
          have hq0 := hcell i hi
          have hmem := getD_mem qs i actsZ (by rw [HSZ.out]; exact hi)
          have O0 := RA.ok _ hmem
          have C0 := hcs _ hmem
          obtain ⟨q, hqq⟩ : ∃ q, qs.getD i actsZ = q := ⟨_, rfl⟩
          rw [hqq] at hq0 O0 C0
          clear hcell hmem hqq
          obtain ⟨S, T, B⟩ := P.bth
          have Bw : Below wr.heap.size wr (wr.alloc (actC q.kd q.nn q.a q.n q.c)) := (Below.refl _ _).alloc (Nat.le_refl _) _
          have P1 := P.later Bw
          have K := both_all d l r m S T q _ (B.below Bw) ((O0.below P.below).below Bw) C0 (P.act O0)
          go_wp2_with (first
            | ((with_reducible show wpList _ _ _ (Oper.mk _ (Op.load 30 _) _ _ _ _ :: _) _ _); refine wpList_load30 rfl _ rfl b (off + i * 3) q rfl hq0 ?_)
            | (go_at_call 10; refine K.mono ?_; rintro e w5 ⟨rfl, N5⟩; have P5 := P1.next N5))
          go_roundg (gk - 1)
          case measure => omega
          case rel => exact ⟨i + 1, by go_num, by omega, P5⟩
        · obtain rfl : i = len := by omega
          obtain ⟨S, T, B⟩ := P.bth
          have hSb := B.p.ok.byt
          have HSn : Hid (S.bs.length = 16 * S.n) := B.p.ok.len
          have HLo : Hid (1 ≤ S.n ∧ S.n ≤ 64) := ⟨B.p.ok.lo, B.p.ok.hi⟩
          have HBS : Hid (T.bs = S.bs) := B.sim.bs.symm
          go_wp2_with (first
            | (go_at_call 13; refine (image_any d l S _ B.p).mono ?_; rintro e w5 ⟨v5, rfl, O5, b5⟩; obtain ⟨a5, n5, c5, rfl, R5, hn5, hcm5, hm5⟩ := O5.row hSb; obtain ⟨g5, o5, rfl⟩ : ∃ g5 o5, a5 = some ⟨g5, o5, none⟩ := (by have q1 := HSn.out; have q2 := HLo.out; rcases R5.mem with h | ⟨b, o, e, hb, _⟩; (omega); exact ⟨b, o, e⟩); have ho5 := (hm5 g5 o5 rfl).2.1; subst ho5; clear hm5; have HN5 : Hid (n5 = 16 * S.n) := (by show n5 = 16 * S.n; have q1 := HSn.out; omega); clear hn5)
            | (go_at_call 11; refine (load_ok S.n g5 0 n5 c5 S.bs _ R5 HN5.out HLo.out.1 HLo.out.2 hcm5).mono ?_; rintro e w6 ⟨dc, rfl, hdc, lc, hlc, C6, b6⟩; have b56 := b5.trans (b6.mono b5.size); have Q6 := B.q.below b56; have P6 := P.later b56))
          clear O5 R5
          refine wp_region_any (by kernel_rfl) ?_
          change wpAny _ _ _ _ _ _ _ (World.drew _)
          generalize hwd : World.drew _ = wd
          have Cd := C6.of_blocks (W' := wd) (by rw [← hwd]; rfl) (by rw [← hwd]; rfl)
          have Qd := Q6.of_blocks (W' := wd) (by rw [← hwd]; rfl) (by rw [← hwd]; rfl)
          have Pd : Plays w d l r m wd := by rw [← hwd]; exact P6.later ((Below.refl _ _).drew)
          clear hwd C6 Q6 P6
          have i2 : (imgS S.n S.bs).gone = false := rfl
          have i3 : (imgS S.n S.bs).done = 0 := rfl
          refine wpAny_narrow (fun X => Below wd.heap.size wd X) _ _ _ _ ?_
          refine anyH_take 0 58 (.pointer (some ⟨dc, 0, none⟩)) rfl rfl (by kernel_rfl) (by kernel_rfl) (by kernel_rfl) (fun _ _ _ h => h) (Or.inl ⟨by rfl, by intro X hSw; go_simp⟩) (Below.refl _ _) ?_
          try simp only [Act.put, List.setIfInBounds_toArray, List.set_cons_zero, List.set_cons_succ]
          refine anyH_take 1 59 (.bool true) rfl rfl (by kernel_rfl) (by kernel_rfl) (by kernel_rfl) (fun _ _ _ h => h) (Or.inl ⟨by rfl, by intro X hSw; go_simp⟩) (Below.refl _ _) ?_
          try simp only [Act.put, List.setIfInBounds_toArray, List.set_cons_zero, List.set_cons_succ]
          refine anyH_take 2 60 (.bool true) rfl rfl (by kernel_rfl) (by kernel_rfl) (by kernel_rfl) (fun _ _ _ h => h) (Or.inl ⟨by rfl, by intro X hSw; go_simp⟩) (Below.refl _ _) ?_
          try simp only [Act.put, List.setIfInBounds_toArray, List.set_cons_zero, List.set_cons_succ]
          refine anyH_take 3 61 (.pointer (some ⟨dc, 0, none⟩)) rfl rfl (by kernel_rfl) (by kernel_rfl) (by kernel_rfl) (fun _ _ _ h => h) (Or.inl ⟨by rfl, by intro X hSw; go_simp⟩) (Below.refl _ _) ?_
          try simp only [Act.put, List.setIfInBounds_toArray, List.set_cons_zero, List.set_cons_succ]
          refine anyH_take 6 64 (.pointer (some ⟨r, 0, none⟩)) rfl rfl (by kernel_rfl) (by kernel_rfl) (by kernel_rfl) (fun _ _ _ h => h) (Or.inl ⟨by rfl, by intro X hSw; go_simp⟩) (Below.refl _ _) ?_
          try simp only [Act.put, List.setIfInBounds_toArray, List.set_cons_zero, List.set_cons_succ]
          refine wpAnyH_ready (rs := [4]) (by kernel_rfl) (by simp) ?_
          refine AllReadyH.cons rfl (fun K hK => ?_) AllReadyH.nil
          rw [if_pos (by rfl)]
          simp only [List.getElem_toArray, List.getElem_cons_succ, List.getElem_cons_zero]
          go_wp2_with (go_at_call 13; refine (image_any dc lc (imgS S.n S.bs) wd Cd).mono ?_; rintro e w1 ⟨v1, rfl, O1, b1⟩; replace O1 : Own wd.heap.size w1 v1 S.bs := O1; obtain ⟨a1, n1, c1, rfl, R1, hn1, _, _⟩ := O1.row hSb; clear hn1; have q1 := Qd.below b1; have C1 := Cd.below b1)
          refine hK.out _ _ (b1) (fun hS => ?_)
          clear hK hS
          refine wpAnyH_narrow (fun X => Below w1.heap.size w1 X) (fun X hX => b1.trans (hX.mono b1.size)) _ _ _ _ ?_
          refine anyH_take 5 63 (.string (strOfNums S.bs)) rfl rfl (by kernel_rfl) (by kernel_rfl) (by kernel_rfl) (fun _ _ _ h => h) (Or.inl ⟨by rfl, by intro X hSw; have q := conv_row (R1.below hSw); go_simp⟩) (Below.refl _ _) ?_
          try simp only [Act.put, List.setIfInBounds_toArray, List.set_cons_zero, List.set_cons_succ]
          refine wpAnyH_ready (rs := [7]) (by kernel_rfl) (by simp) ?_
          refine AllReadyH.cons rfl (fun K hK => ?_) AllReadyH.nil
          rw [if_pos (by rfl)]
          simp only [List.getElem_toArray, List.getElem_cons_succ, List.getElem_cons_zero]
          go_wp2_with (go_at_call 14; refine (rimage_any r m T w1 q1).mono ?_; rintro e w2 ⟨v2, rfl, O2, b2⟩; rw [HBS.out] at O2; obtain ⟨a2, n2, c2, rfl, R2, hn2, _, _⟩ := O2.row hSb; clear hn2; have C2 := C1.below b2)
          refine hK.out _ _ (b2) (fun hS => ?_)
          clear hK hS
          refine wpAnyH_narrow (fun X => Below w2.heap.size w2 X) (fun X hX => b2.trans (hX.mono b2.size)) _ _ _ _ ?_
          refine anyH_take 8 66 (.string (strOfNums S.bs)) rfl rfl (by kernel_rfl) (by kernel_rfl) (by kernel_rfl) (fun _ _ _ h => h) (Or.inl ⟨by rfl, by intro X hSw; have q := conv_row (R2.below hSw); go_simp⟩) (Below.refl _ _) ?_
          try simp only [Act.put, List.setIfInBounds_toArray, List.set_cons_zero, List.set_cons_succ]
          refine anyH_take 9 67 (.bool true) rfl rfl (by kernel_rfl) (by kernel_rfl) (by kernel_rfl) (fun _ _ _ h => h) (Or.inl ⟨by rfl, by intro X hSw; go_simp⟩) (Below.refl _ _) ?_
          try simp only [Act.put, List.setIfInBounds_toArray, List.set_cons_zero, List.set_cons_succ]
          refine anyH_take 10 68 (.bool true) rfl rfl (by kernel_rfl) (by kernel_rfl) (by kernel_rfl) (fun _ _ _ h => h) (Or.inl ⟨by rfl, by intro X hSw; go_simp⟩) (Below.refl _ _) ?_
          try simp only [Act.put, List.setIfInBounds_toArray, List.set_cons_zero, List.set_cons_succ]
          refine anyH_take 11 69 (.bool true) rfl rfl (by kernel_rfl) (by kernel_rfl) (by kernel_rfl) (fun _ _ _ h => h) (Or.inl ⟨by rfl, by intro X hSw; go_simp⟩) (Below.refl _ _) ?_
          try simp only [Act.put, List.setIfInBounds_toArray, List.set_cons_zero, List.set_cons_succ]
          refine anyH_take 12 70 (.pointer (some ⟨dc, 0, none⟩)) rfl rfl (by kernel_rfl) (by kernel_rfl) (by kernel_rfl) (fun _ _ _ h => h) (Or.inl ⟨by rfl, by intro X hSw; go_simp⟩) (Below.refl _ _) ?_
          try simp only [Act.put, List.setIfInBounds_toArray, List.set_cons_zero, List.set_cons_succ]
          refine wpAnyH_ready (rs := [13]) (by kernel_rfl) (by simp) ?_
          refine AllReadyH.cons rfl (fun K hK => ?_) AllReadyH.nil
          rw [if_pos (by rfl)]
          simp only [List.getElem_toArray, List.getElem_cons_succ, List.getElem_cons_zero]
          go_wp2_with (go_at_call 15; refine (dead_any dc lc (imgS S.n S.bs) w2 C2).mono ?_; rintro e w9 ⟨rfl, hw⟩; rw [hw]; clear hw)
          refine hK.out _ _ (Below.refl _ _) (fun hS => ?_)
          clear hK hS
          refine anyH_take 14 72 (.bool true) rfl rfl (by kernel_rfl) (by kernel_rfl) (by kernel_rfl) (fun _ _ _ h => h) (Or.inl ⟨by rfl, by intro X hSw; go_simp⟩) (Below.refl _ _) ?_
          try simp only [Act.put, List.setIfInBounds_toArray, List.set_cons_zero, List.set_cons_succ]
          refine anyH_take 15 73 (.bool true) rfl rfl (by kernel_rfl) (by kernel_rfl) (by kernel_rfl) (fun _ _ _ h => h) (Or.inl ⟨by rfl, by intro X hSw; go_simp⟩) (Below.refl _ _) ?_
          try simp only [Act.put, List.setIfInBounds_toArray, List.set_cons_zero, List.set_cons_succ]
          refine anyH_take 16 74 (.bool true) rfl rfl (by kernel_rfl) (by kernel_rfl) (by kernel_rfl) (fun _ _ _ h => h) (Or.inl ⟨by rfl, by intro X hSw; go_simp⟩) (Below.refl _ _) ?_
          try simp only [Act.put, List.setIfInBounds_toArray, List.set_cons_zero, List.set_cons_succ]
          refine anyH_take 17 75 (.pointer (some ⟨dc, 0, none⟩)) rfl rfl (by kernel_rfl) (by kernel_rfl) (by kernel_rfl) (fun _ _ _ h => h) (Or.inl ⟨by rfl, by intro X hSw; go_simp⟩) (Below.refl _ _) ?_
          try simp only [Act.put, List.setIfInBounds_toArray, List.set_cons_zero, List.set_cons_succ]
          refine wpAnyH_ready (rs := [18]) (by kernel_rfl) (by simp) ?_
          refine AllReadyH.cons rfl (fun K hK => ?_) AllReadyH.nil
          rw [if_pos (by rfl)]
          simp only [List.getElem_toArray, List.getElem_cons_succ, List.getElem_cons_zero]
          go_wp2_with (go_at_call 16; refine (writes_any dc lc (imgS S.n S.bs) w2 C2).mono ?_; rintro e w9 ⟨rfl, hw⟩; rw [hw]; clear hw)
          refine hK.out _ _ (Below.refl _ _) (fun hS => ?_)
          clear hK hS
          refine anyH_take 19 77 (.bool true) rfl rfl (by kernel_rfl) (by kernel_rfl) (by kernel_rfl) (fun _ _ _ h => h) (Or.inl ⟨by rfl, by intro X hSw; go_simp⟩) (Below.refl _ _) ?_
          try simp only [Act.put, List.setIfInBounds_toArray, List.set_cons_zero, List.set_cons_succ]
          refine anyH_take 20 78 (.bool true) rfl rfl (by kernel_rfl) (by kernel_rfl) (by kernel_rfl) (fun _ _ _ h => h) (Or.inl ⟨by rfl, by intro X hSw; go_simp⟩) (Below.refl _ _) ?_
          try simp only [Act.put, List.setIfInBounds_toArray, List.set_cons_zero, List.set_cons_succ]
          refine anyH_take 21 79 (.bool true) rfl rfl (by kernel_rfl) (by kernel_rfl) (by kernel_rfl) (fun _ _ _ h => h) (Or.inl ⟨by rfl, by intro X hSw; go_simp⟩) (Below.refl _ _) ?_
          try simp only [Act.put, List.setIfInBounds_toArray, List.set_cons_zero, List.set_cons_succ]
          refine wpAnyH_ready (rs := [22]) (by kernel_rfl) (by simp) ?_
          refine AllReadyH.cons rfl (fun K hK => ?_) AllReadyH.nil
          rw [if_pos (by rfl)]
          simp only [List.getElem_toArray, List.getElem_cons_succ, List.getElem_cons_zero]
          go_wp2_with (go_at_call 9; refine (awake_any w2).mono ?_; rintro e w3 ⟨rfl, b3⟩)
          refine hK.out _ _ (b3) (fun hS => ?_)
          clear hK hS
          refine anyH_take 23 81 (.bool true) rfl rfl (by kernel_rfl) (by kernel_rfl) (by kernel_rfl) (fun _ _ _ h => h) (Or.inl ⟨by rfl, by intro X hSw; go_simp⟩) (b3) ?_
          try simp only [Act.put, List.setIfInBounds_toArray, List.set_cons_zero, List.set_cons_succ]
          refine anyH_take 24 4 (.bool true) rfl rfl (by kernel_rfl) (by kernel_rfl) (by kernel_rfl) (fun _ _ _ h => h) (Or.inl ⟨by rfl, by intro X hSw; go_simp⟩) (b3) ?_
          try simp only [Act.put, List.setIfInBounds_toArray, List.set_cons_zero, List.set_cons_succ]
          refine wpAnyH_done (by kernel_rfl) ?_ _
          go_wp2
          go_ret
          exact ⟨rfl, (((Pd.later b1).later b2).later b3).below⟩
theorem loads_walk (a0 : Option Addr) (len0 cap0 : Nat) (zs : List Int) (a : Option Addr) (len cap : Nat) (qs : List ActS) (w : World) (R0 : Row .u8 w a0 len0 cap0 zs) (hlen0 : len0 ≤ 140737488351232) (RA : RowA w a len cap qs) (hcs : ∀ q ∈ qs, q.c ≤ 140737488351232) (hl : len ≤ 9223372036854775807) :
    Calls Try.prog 4 #[.slice a0 len0 cap0, .slice a len cap] w fun e w' => e = .returned (.bool true) ∧ Below w.heap.size w w' := by
  cases h : fitL len0 with
  | false => exact loads_no a0 len0 cap0 zs a len cap w R0 hlen0 h
  | true =>
    obtain ⟨n, hn, h1, h2⟩ := fitL_yes h
    exact loads_ok a0 len0 cap0 zs a len cap qs w R0 RA hcs hl n hn h1 h2
end Go.Proofs.Ytoecgldpmmclgaa
