/-
  The law DiskCuts, walked.
-/
import Derived.Test.YtoecgldpmmclgaaCu0
namespace Go.Proofs.Ytoecgldpmmclgaa
open Go.ChangeShapes Go.WideShapes Go.ChangeAt Go.RowKit
set_option linter.unusedVariables false
set_option linter.unusedSimpArgs false

theorem str_cut (bs : List Int) : (strOfNums bs).extract 0 16 = strOfNums (sec bs 0) := by
  rw [sec0]
  apply ByteArray.ext
  simp [strOfNums, ByteArray.data_extract]
abbrev z16 : Obj := .cells #[.int .u8 0, .int .u8 0, .int .u8 0, .int .u8 0, .int .u8 0, .int .u8 0, .int .u8 0, .int .u8 0, .int .u8 0, .int .u8 0, .int .u8 0, .int .u8 0, .int .u8 0, .int .u8 0, .int .u8 0, .int .u8 0] 41
theorem copy16 {wr : World} {ax : Option Addr} {nx cx : Nat} {xs : List Int} (Rx : Row .u8 wr ax nx cx xs) : ∃ v W5, (Builtin.copy_ #[28, 28] 3 #[.slice (some ⟨wr.heap.size, 0, none⟩) 16 16, .slice ax nx cx]).run Try.prog (wr.alloc z16) = .ok v W5 ∧
    W5.heap[wr.heap.size]? = some (.cells ((lay16 xs).map bv).toArray 41 (0, 0)) ∧ Below wr.heap.size wr W5 := by
  have B0 : Below wr.heap.size wr (wr.alloc z16) := (Below.refl _ _).alloc (Nat.le_refl _) _
  have hg : (wr.alloc z16).heap[wr.heap.size]? = some (.cells ((List.replicate 16 (0 : Int)).map bv).toArray 41 (0, 0)) := World.alloc_heap_new wr z16
  have hz := Rx.size
  have hs : (Try.prog.info? 5).map (·.size) = some 1 := by kernel_rfl
  by_cases h0 : nx = 0
  · have e : xs = [] := List.eq_nil_of_length_eq_zero (by omega)
    subst e
    refine ⟨_, _, run_copy_none (P := Try.prog) (wr.alloc z16) 28 28 3 5 _ ax 16 16 nx cx Try.underlying28 hs (by rw [h0]; rfl), ?_, B0⟩
    rw [hg]
    rfl
  · obtain ⟨ad, rfl⟩ : ∃ ad, ax = some ad := by
      cases ax with
      | none => have := Rx.nil rfl; omega
      | some ad => exact ⟨ad, rfl⟩
    have hc := (Rx.below B0).cells
    have hlen : ((xs.take 16).map bv).length = Nat.min nx 16 := by rw [List.length_map, List.length_take, hz]; exact Nat.min_comm _ _
    have hle : ((xs.take 16).map bv).length ≤ 16 := by rw [List.length_map, List.length_take]; exact Nat.min_le_left _ _
    have hr := run_copy_row (P := Try.prog) (wr.alloc z16) 28 28 3 5 wr.heap.size 0 16 16 ad nx cx ((List.replicate 16 (0 : Int)).map bv).toArray 41 ((xs.take 16).map bv) Try.underlying28 hs hg hlen
      (fun j v hv => hc j v (by
        rw [List.getElem?_map] at hv ⊢
        have hj : j < 16 := by
          rcases Nat.lt_or_ge j 16 with h | h
          · exact h
          · rw [List.getElem?_eq_none (by rw [List.length_take]; omega)] at hv; simp at hv
        rw [List.getElem?_take, if_pos hj] at hv
        exact hv)) (by simp only [Nat.zero_add]; simpa using hle) (bv_one _)
    refine ⟨_, _, hr, ?_, below_setRow B0 (Nat.le_refl _) _⟩
    have e : (((List.replicate 16 (0 : Int)).map bv).toArray.toList.take 0 ++ (xs.take 16).map bv ++ ((List.replicate 16 (0 : Int)).map bv).toArray.toList.drop (0 + ((xs.take 16).map bv).length)).toArray = ((lay16 xs).map bv).toArray := by simp [lay16, splice]
    rw [e]
    exact setRow_heap _ _ _ _ _ _ hg
set_option maxRecDepth 100000 in
set_option maxHeartbeats 8000000 in
theorem cuts_walk (x0 x1 : Int) (a : Option Addr) (len cap : Nat) (bs : List (List Int)) (w : World) (RB : RowB w a len cap bs) (hl : len ≤ 9223372036854775807) (hcap : cap ≤ 9223372036854775807) :
    Calls Try.prog 5 #[.int .i64 x0, .int .i64 x1, .slice a len cap] w fun e w' => e = .returned (.bool true) ∧ Below w.heap.size w w' := by
  have HSZ : Hid (bs.length = len) := RB.size
  obtain ⟨sc, hsc, hs1, hs2⟩ : ∃ sc : Nat, 1 + wrap64 ((IntKind.u64.wrap x0).tmod 64) = (sc : Int) ∧ 1 ≤ sc ∧ sc ≤ 64 := by
    have h1 : 0 ≤ IntKind.u64.wrap x0 := by rw [IntKind.wrap_u64]; omega
    rw [Int.tmod_eq_emod_of_nonneg h1]
    refine ⟨(1 + wrap64 (IntKind.u64.wrap x0 % 64)).toNat, ?_, ?_, ?_⟩ <;> unfold wrap64 <;> omega
  obtain ⟨N, hN, hN8⟩ : ∃ N : Nat, wrap64 ((IntKind.u64.wrap x1).tmod 9) = (N : Int) ∧ N ≤ 8 := by
    have h1 : 0 ≤ IntKind.u64.wrap x1 := by rw [IntKind.wrap_u64]; omega
    rw [Int.tmod_eq_emod_of_nonneg h1]
    refine ⟨(wrap64 (IntKind.u64.wrap x1 % 9)).toNat, ?_, ?_⟩ <;> unfold wrap64 <;> omega
  have K7 := new_ok sc w hs1 hs2
  go_enter Try.func5, Try.ntmps5
  go_wp2_with (first
    | (go_at_call 7; refine K7.mono ?_; rintro e w1 ⟨d, rfl, hd, l, hl', D1, b1⟩; clear K7)
    | (go_at_call 17; refine (cut_any d l (newS sc) N _ D1 (by omega)).mono ?_; rintro e w2 ⟨rfl, D2, o2⟩; have B2 := b1.trans (o2.below b1.size (fun q hq => (by have e' : q = d := hq; omega))); have C2 := cst_0 N sc)
    | (go_at_call 13; refine (image_any d l _ _ D2).mono ?_; rintro e w3 ⟨v3, rfl, O3, b3⟩; obtain ⟨a3, n3, c3, rfl, R3, hn3, _, hm3⟩ := O3.row D2.ok.byt; clear hn3 hm3; have cv := conv_row R3; have D3 := D2.below b3; have B3 := B2.trans (b3.mono B2.size)))
  clear D1 D2 R3 O3 cv o2 b1
  go_loopg [8, 37] len (fun g v8 v37 wr => ∃ (i : Nat) (S : DS), v37 = .int .i64 (i : Int) ∧ v8 = .string (strOfNums S.bs) ∧ i + g = len ∧ Hid (DkP wr d l S) ∧ Hid (Below w.heap.size w wr) ∧ Hid (Cst N sc i S))
  case atStart => exact ⟨0, _, rfl, rfl, by omega, D3, B3, C2⟩
  case round =>
    obtain ⟨i, S, rfl, rfl, hg, HD, HB, HC⟩ := hrel
    have B0 := HB.out
    have D0 := HD.out
    by_cases hi : i < len
    · have hiI : (i : Int) < (len : Int) := by omega
      have hmod : i % sc < sc := Nat.mod_lt _ (by omega)
      have hm1 : Int.tmod (i : Int) (sc : Int) = ((i % sc : Nat) : Int) := by rw [Int.tmod_eq_emod_of_nonneg (by omega)]; omega
      have hscz : ¬ ((sc : Int) = 0) := by omega
      have hscz2 : ¬ sc = 0 := by omega
      obtain ⟨b, off, rfl, hbz, hcell⟩ := (RB.below B0).mem.resolve_left (by omega)
      obtain ⟨ax, nx, cx, cl, Rx⟩ := hcell i hi
      obtain ⟨xs, hxs⟩ : ∃ xs, bs.getD i [] = xs := ⟨_, rfl⟩
      rw [hxs] at Rx
      clear hcell hxs
      have hdz := row_lt D0.obj
      have hlz := row_lt D0.lst
      obtain ⟨v5, W5, hcp, hh5, b5⟩ := copy16 Rx
      have R5 := row_of hh5 (lay16_byt Rx.byte) 16 16 (lay16_len xs).symm (Nat.le_refl _)
      have D5 := D0.below b5
      clear hh5
      by_cases hiN : i < N
      · obtain ⟨hC, hK1, hG⟩ := HC.out.yes hiN hN8 (i % sc) hmod (lay16 xs)
        have hiI2 : (i : Int) < (N : Int) := by omega
        obtain ⟨S', hS'⟩ : ∃ S', wrS S ((i % sc : Nat) : Int) 16 (lay16 xs) = S' := ⟨_, rfl⟩
        rw [hS'] at hK1 hG
        have KW := fun W D R1 h => write_all d l S ((i % sc : Nat) : Int) (some ⟨wr.heap.size, 0, none⟩) 16 16 (lay16 xs) W D R1 h
        rw [hC, hS'] at KW
        clear hS' hC
        go_wp2
        refine wp_region_any (by kernel_rfl) ?_
        change wpAny _ _ _ _ _ _ _ (World.drew _)
        obtain ⟨wd, hwd⟩ : ∃ wd, World.drew W5 = wd := ⟨_, rfl⟩
        have Dd := D5.of_blocks (W' := wd) (by rw [← hwd]; rfl) (by rw [← hwd]; rfl)
        have Rd : Row .u8 wd (some ⟨wr.heap.size, 0, none⟩) 16 16 (lay16 xs) := by rw [← hwd]; exact R5.drew
        have Bd : Below wr.heap.size wr wd := by rw [← hwd]; exact b5.drew
        rw [hwd]
        clear hwd
        refine wpAny_narrow (fun X => Only (at2 d l) wd X) _ _ _ _ ?_
        refine anyH_take 0 45 (.pointer (some ⟨d, 0, none⟩)) rfl rfl (by kernel_rfl) (by kernel_rfl) (by kernel_rfl) (fun _ _ _ h => h) (Or.inl ⟨by rfl, by intro X hSw; go_simp⟩) (Only.refl _ _) ?_
        try simp only [Act.put, List.setIfInBounds_toArray, List.set_cons_zero, List.set_cons_succ]
        refine anyH_take 1 46 (.int .i64 (i : Int)) rfl rfl (by kernel_rfl) (by kernel_rfl) (by kernel_rfl) (fun _ _ _ h => h) (Or.inl ⟨by rfl, by intro X hSw; go_simp⟩) (Only.refl _ _) ?_
        try simp only [Act.put, List.setIfInBounds_toArray, List.set_cons_zero, List.set_cons_succ]
        refine anyH_take 2 47 (.int .i64 (sc : Int)) rfl rfl (by kernel_rfl) (by kernel_rfl) (by kernel_rfl) (fun _ _ _ h => h) (Or.inl ⟨by rfl, by intro X hSw; go_simp⟩) (Only.refl _ _) ?_
        try simp only [Act.put, List.setIfInBounds_toArray, List.set_cons_zero, List.set_cons_succ]
        refine anyH_take 3 48 (.int .i64 ((i % sc : Nat) : Int)) rfl rfl (by kernel_rfl) (by kernel_rfl) (by kernel_rfl) (fun _ _ _ h => h) (Or.inl ⟨by rfl, by intro X hSw; go_simp⟩) (Only.refl _ _) ?_
        try simp only [Act.put, List.setIfInBounds_toArray, List.set_cons_zero, List.set_cons_succ]
        refine anyH_take 4 49 (.slice (some ⟨wr.heap.size, 0, none⟩) 16 16) rfl rfl (by kernel_rfl) (by kernel_rfl) (by kernel_rfl) (fun _ _ _ h => h) (Or.inl ⟨by rfl, by intro X hSw; go_simp⟩) (Only.refl _ _) ?_
        try simp only [Act.put, List.setIfInBounds_toArray, List.set_cons_zero, List.set_cons_succ]
        refine wpAnyH_ready (rs := [5]) (by kernel_rfl) (by simp) ?_
        refine AllReadyH.cons rfl (fun K hK => ?_) AllReadyH.nil
        rw [if_pos (by rfl)]
        simp only [List.getElem_toArray, List.getElem_cons_succ, List.getElem_cons_zero]
        go_wp2_with (go_at_call 18; refine (KW wd Dd Rd (fun b o e => (by cases e; omega))).mono ?_; rintro e w6 ⟨rfl, D6, o6⟩)
        refine hK.out _ _ o6 (fun hS => ?_)
        clear hK hS
        refine anyH_take 6 12 (.int .i64 0) rfl rfl (by kernel_rfl) (by kernel_rfl) (by kernel_rfl) (fun _ _ _ h => h) (Or.inl ⟨by rfl, by intro X hSw; go_simp⟩) (o6) ?_
        try simp only [Act.put, List.setIfInBounds_toArray, List.set_cons_zero, List.set_cons_succ]
        refine wpAnyH_done (by kernel_rfl) ?_ _
        have B6 := B0.trans ((Bd.mono (Nat.le_refl _)).mono B0.size) |>.trans (o6.below (Nat.le_trans B0.size Bd.size) (fun q hq => (by rcases hq with e' | e' <;> omega)))
        have KD := dead_any d l S' w6 D6
        rw [hG] at KD
        go_wp2_with (first
            | (go_at_call 15; refine KD.mono ?_; rintro e w7 ⟨rfl, hw⟩; rw [hw]; clear hw)
            | (go_at_call 13; refine (image_any d l S' _ D6).mono ?_; rintro e w7 ⟨v7, rfl, O7, b7⟩; obtain ⟨a7, n7, c7, rfl, R7, hn7, _, hm7⟩ := O7.row D6.ok.byt; clear hn7 hm7; have cv7 := conv_row R7; have D7 := D6.below b7; have B7 := B6.trans (b7.mono B6.size)))
        go_roundg (gk - 1)
        case measure => omega
        case rel => exact ⟨i + 1, S', by go_num, rfl, by omega, D7, B7, hK1⟩
      · obtain ⟨hC, hK1, hG, hBS⟩ := HC.out.no hiN (i % sc) hmod (lay16 xs)
        have hiI2 : ¬ (i : Int) < (N : Int) := by omega
        obtain ⟨S', hS'⟩ : ∃ S', wrS S ((i % sc : Nat) : Int) 16 (lay16 xs) = S' := ⟨_, rfl⟩
        rw [hS'] at hK1 hG hBS
        have KW := fun W D R1 h => write_all d l S ((i % sc : Nat) : Int) (some ⟨wr.heap.size, 0, none⟩) 16 16 (lay16 xs) W D R1 h
        rw [hC, hS'] at KW
        clear hS' hC
        go_wp2
        refine wp_region_any (by kernel_rfl) ?_
        change wpAny _ _ _ _ _ _ _ (World.drew _)
        obtain ⟨wd, hwd⟩ : ∃ wd, World.drew W5 = wd := ⟨_, rfl⟩
        have Dd := D5.of_blocks (W' := wd) (by rw [← hwd]; rfl) (by rw [← hwd]; rfl)
        have Rd : Row .u8 wd (some ⟨wr.heap.size, 0, none⟩) 16 16 (lay16 xs) := by rw [← hwd]; exact R5.drew
        have Bd : Below wr.heap.size wr wd := by rw [← hwd]; exact b5.drew
        rw [hwd]
        clear hwd
        refine wpAny_narrow (fun X => Only (at2 d l) wd X) _ _ _ _ ?_
        refine anyH_take 0 45 (.pointer (some ⟨d, 0, none⟩)) rfl rfl (by kernel_rfl) (by kernel_rfl) (by kernel_rfl) (fun _ _ _ h => h) (Or.inl ⟨by rfl, by intro X hSw; go_simp⟩) (Only.refl _ _) ?_
        try simp only [Act.put, List.setIfInBounds_toArray, List.set_cons_zero, List.set_cons_succ]
        refine anyH_take 1 46 (.int .i64 (i : Int)) rfl rfl (by kernel_rfl) (by kernel_rfl) (by kernel_rfl) (fun _ _ _ h => h) (Or.inl ⟨by rfl, by intro X hSw; go_simp⟩) (Only.refl _ _) ?_
        try simp only [Act.put, List.setIfInBounds_toArray, List.set_cons_zero, List.set_cons_succ]
        refine anyH_take 2 47 (.int .i64 (sc : Int)) rfl rfl (by kernel_rfl) (by kernel_rfl) (by kernel_rfl) (fun _ _ _ h => h) (Or.inl ⟨by rfl, by intro X hSw; go_simp⟩) (Only.refl _ _) ?_
        try simp only [Act.put, List.setIfInBounds_toArray, List.set_cons_zero, List.set_cons_succ]
        refine anyH_take 3 48 (.int .i64 ((i % sc : Nat) : Int)) rfl rfl (by kernel_rfl) (by kernel_rfl) (by kernel_rfl) (fun _ _ _ h => h) (Or.inl ⟨by rfl, by intro X hSw; go_simp⟩) (Only.refl _ _) ?_
        try simp only [Act.put, List.setIfInBounds_toArray, List.set_cons_zero, List.set_cons_succ]
        refine anyH_take 4 49 (.slice (some ⟨wr.heap.size, 0, none⟩) 16 16) rfl rfl (by kernel_rfl) (by kernel_rfl) (by kernel_rfl) (fun _ _ _ h => h) (Or.inl ⟨by rfl, by intro X hSw; go_simp⟩) (Only.refl _ _) ?_
        try simp only [Act.put, List.setIfInBounds_toArray, List.set_cons_zero, List.set_cons_succ]
        refine wpAnyH_ready (rs := [5]) (by kernel_rfl) (by simp) ?_
        refine AllReadyH.cons rfl (fun K hK => ?_) AllReadyH.nil
        rw [if_pos (by rfl)]
        simp only [List.getElem_toArray, List.getElem_cons_succ, List.getElem_cons_zero]
        go_wp2_with (go_at_call 18; refine (KW wd Dd Rd (fun b o e => (by cases e; omega))).mono ?_; rintro e w6 ⟨rfl, D6, o6⟩)
        refine hK.out _ _ o6 (fun hS => ?_)
        clear hK hS
        refine anyH_take 6 12 (.int .i64 32) rfl rfl (by kernel_rfl) (by kernel_rfl) (by kernel_rfl) (fun _ _ _ h => h) (Or.inl ⟨by rfl, by intro X hSw; go_simp⟩) (o6) ?_
        try simp only [Act.put, List.setIfInBounds_toArray, List.set_cons_zero, List.set_cons_succ]
        refine wpAnyH_done (by kernel_rfl) ?_ _
        have B6 := B0.trans ((Bd.mono (Nat.le_refl _)).mono B0.size) |>.trans (o6.below (Nat.le_trans B0.size Bd.size) (fun q hq => (by rcases hq with e' | e' <;> omega)))
        have KD := dead_any d l S' w6 D6
        rw [hG] at KD
        go_wp2_with (first
            | (go_at_call 15; refine KD.mono ?_; rintro e w7 ⟨rfl, hw⟩; rw [hw]; clear hw)
            | (go_at_call 13; refine (image_any d l S' _ D6).mono ?_; rintro e w7 ⟨v7, rfl, O7, b7⟩; rw [hBS] at O7; obtain ⟨a7, n7, c7, rfl, R7, hn7, _, hm7⟩ := O7.row D0.ok.byt; clear hn7 hm7; have cv7 := conv_row R7; have D7 := D6.below b7; have B7 := B6.trans (b7.mono B6.size)))
        go_roundg (gk - 1)
        case measure => omega
        case rel => exact ⟨i + 1, S', by go_num, by rw [hBS], by omega, D7, B7, hK1⟩
    · obtain rfl : i = len := by omega
      have hdn := HC.out.done
      have HSN : Hid (S.n = sc) := HC.out.n
      have on1 : S.on.gone = false := rfl
      have on2 : S.on.done = S.done := rfl
      have on3 : S.on.bs = S.bs := rfl
      by_cases hlN : i ≤ N
      · rw [if_pos (by omega)] at hdn
        have hlI : (i : Int) ≤ (N : Int) := by omega
        go_wp2_with (first
          | (go_at_call 19; refine (on_any d l S _ D0).mono ?_; rintro e w4 ⟨rfl, D4, o4⟩; have B4 := B0.trans (o4.below B0.size (fun q hq => (by have e' : q = d := hq; omega))))
          | (go_at_call 15; refine (dead_any d l S.on _ D4).mono ?_; rw [on1]; rintro e w5 ⟨rfl, hw⟩; rw [hw]; clear hw)
          | (go_at_call 13; refine (image_any d l S.on _ D4).mono ?_; rintro e w6 ⟨v6, rfl, O6, b6⟩; rw [on3] at O6; obtain ⟨a6, n6, c6, rfl, R6, hn6, _, hm6⟩ := O6.row D0.ok.byt; clear hn6 hm6; have cv6 := conv_row R6; have D6 := D4.below b6; have B6 := B4.trans (b6.mono B4.size))
          | (go_at_call 16; refine (writes_any d l S.on _ D6).mono ?_; rw [on2, hdn]; rintro e w7 ⟨rfl, hw⟩; rw [hw]; clear hw)
          | (go_at_call 9; refine (awake_any _).mono ?_; rintro e w8 ⟨rfl, b8⟩))
        all_goals (go_ret; exact ⟨rfl, B6.trans (b8.mono B6.size)⟩)
      · rw [if_neg (by omega)] at hdn
        have hlI : ¬ (i : Int) ≤ (N : Int) := by omega
        have hlI2 : (N : Int) ≤ (i : Int) := by omega
        have hpos : 0 < S.on.n := by show 0 < S.n; rw [HSN.out]; omega
        have hwc : wrC S.on 0 16 = 0 := by
          have hst := HC.out.stays
          have hin : inS S.on 0 = true := by unfold inS; simp; omega
          have hlf : S.on.left = -1 := by simp only [DS.on]; rw [hst]; rfl
          unfold wrC
          rw [on1, hin, hlf]
          rfl
        have hcut := str_cut S.bs
        have hsz16 : 16 ≤ (strOfNums S.bs).size := by rw [strOfNums_size, D0.ok.len, HSN.out]; omega
        have hszI : ¬ ((strOfNums S.bs).size : Int) < 16 := by omega
        have hszI2 : (16 : Int) ≤ ((strOfNums S.bs).size : Int) := by omega
        have hsb := sec_byt D0.ok 0
        have hsl := sec_len D0.ok hpos
        have hmk : ∀ W : World, (Instr.makeSlice 28 (.int .i64 16) (.int .i64 16)).run Try.prog W = .ok (.slice (some ⟨W.heap.size, 0, none⟩) 16 16) (W.alloc (.cells ((List.replicate 16 (0 : Int)).map bv).toArray 5)) := fun W => make28 16 (by omega) W
        have hzr : Byt (List.replicate 16 (0 : Int)) := by intro c hc; have := List.eq_of_mem_replicate hc; omega
        obtain ⟨Z, hZ⟩ : ∃ Z, ((List.replicate 16 (0 : Int)).map bv).toArray = Z := ⟨_, rfl⟩
        rw [hZ] at hmk
        have KW := fun W b D R1 h => write_all d l S.on 0 (some b) 16 16 (List.replicate 16 0) W D R1 h
        rw [hwc] at KW
        go_wp2_with (first
          | (go_at_call 19; refine (on_any d l S _ D0).mono ?_; rintro e w4 ⟨rfl, D4, o4⟩; have B4 := B0.trans (o4.below B0.size (fun q hq => (by have e' : q = d := hq; omega))))
          | (go_at_call 15; refine (dead_any d l S.on _ D4).mono ?_; rw [on1]; rintro e w5 ⟨rfl, hw⟩; rw [hw]; clear hw)
          | (go_at_call 13; refine (image_any d l S.on _ D4).mono ?_; rintro e w6 ⟨v6, rfl, O6, b6⟩; rw [on3] at O6; obtain ⟨a6, n6, c6, rfl, R6, hn6, _, hm6⟩ := O6.row D0.ok.byt; clear hn6 hm6; have cv6 := conv_row R6; have D6 := D4.below b6; have B6 := B4.trans (b6.mono B4.size))
          | (go_at_call 16; refine (writes_any d l S.on _ D6).mono ?_; rw [on2, hdn]; rintro e w7 ⟨rfl, hw⟩; rw [hw]; clear hw)
          | (go_at_call 20; refine (read_ok d l S.on 0 _ D6 on1 hpos).mono ?_; rintro e w8 ⟨g8, rfl, hg8, hh8, b8⟩; have hh9 : w8.heap[g8]? = some (.cells ((sec S.bs 0).map bv).toArray 58 (0, 0)) := hh8; clear hh8; have D8 := D6.below b8; have B8 := B6.trans (b8.mono B6.size)))
        clear O6 R6 cv6
        have hdz := row_lt D8.obj
        have hlz := row_lt D8.lst
        have hd6 := row_lt D6.obj
        have hl6 := row_lt D6.lst
        refine wp_region_any (by kernel_rfl) ?_
        change wpAny _ _ _ _ _ _ _ (World.drew _)
        obtain ⟨wd, hwd⟩ : ∃ wd, World.drew w8 = wd := ⟨_, rfl⟩
        have Dd := D8.of_blocks (W' := wd) (by rw [← hwd]; rfl) (by rw [← hwd]; rfl)
        have hhd : wd.heap[g8]? = some (.cells ((sec S.bs 0).map bv).toArray 58 (0, 0)) := by rw [← hwd]; exact hh9
        have Bd : Below w.heap.size w wd := by rw [← hwd]; exact B8.drew
        rw [hwd]
        clear hwd D8 hh9 B8
        have hg8d : g8 ≠ d := by omega
        have hg8l : g8 ≠ l := by omega
        have XC : ∀ X, Only (at2 d l) wd X → (convert 28 9 (.slice (some ⟨g8, 0, none⟩) 16 16)).run Try.prog X = .ok (.string (strOfNums (sec S.bs 0))) X := fun X hX => conv_row (row_of ((hX.block g8 (row_lt hhd) (by rintro (e | e); exact hg8d e; exact hg8l e)).trans hhd) hsb 16 16 hsl.symm (Nat.le_refl _))
        refine wpAny_narrow (fun X => Only (at2 d l) wd X) _ _ _ _ ?_
        refine anyH_take 0 114 (.int .i64 0) rfl rfl (by kernel_rfl) (by kernel_rfl) (by kernel_rfl) (fun _ _ _ h => h) (Or.inl ⟨by rfl, by intro X hSw; go_simp⟩) (Only.refl _ _) ?_
        try simp only [Act.put, List.setIfInBounds_toArray, List.set_cons_zero, List.set_cons_succ]
        refine anyH_take 1 115 (.bool true) rfl rfl (by kernel_rfl) (by kernel_rfl) (by kernel_rfl) (fun _ _ _ h => h) (Or.inl ⟨by rfl, by intro X hSw; go_simp⟩) (Only.refl _ _) ?_
        try simp only [Act.put, List.setIfInBounds_toArray, List.set_cons_zero, List.set_cons_succ]
        refine anyH_take 2 116 (.bool true) rfl rfl (by kernel_rfl) (by kernel_rfl) (by kernel_rfl) (fun _ _ _ h => h) (Or.inl ⟨by rfl, by intro X hSw; go_simp⟩) (Only.refl _ _) ?_
        try simp only [Act.put, List.setIfInBounds_toArray, List.set_cons_zero, List.set_cons_succ]
        refine anyH_take 3 117 (.slice (some ⟨g8, 0, none⟩) 16 16) rfl rfl (by kernel_rfl) (by kernel_rfl) (by kernel_rfl) (fun _ _ _ h => h) (Or.inl ⟨by rfl, by intro X hSw; go_simp⟩) (Only.refl _ _) ?_
        try simp only [Act.put, List.setIfInBounds_toArray, List.set_cons_zero, List.set_cons_succ]
        refine anyH_take 4 118 (.string (strOfNums (sec S.bs 0))) rfl rfl (by kernel_rfl) (by kernel_rfl) (by kernel_rfl) (fun _ _ _ h => h) (Or.inl ⟨by rfl, by intro X hSw; have q := XC X hSw; go_simp⟩) (Only.refl _ _) ?_
        try simp only [Act.put, List.setIfInBounds_toArray, List.set_cons_zero, List.set_cons_succ]
        refine anyH_take 5 119 (.string (strOfNums S.bs)) rfl rfl (by kernel_rfl) (by kernel_rfl) (by kernel_rfl) (fun _ _ _ h => h) (Or.inl ⟨by rfl, by intro X hSw; go_simp⟩) (Only.refl _ _) ?_
        try simp only [Act.put, List.setIfInBounds_toArray, List.set_cons_zero, List.set_cons_succ]
        refine anyH_take 6 120 (.string (strOfNums (sec S.bs 0))) rfl rfl (by kernel_rfl) (by kernel_rfl) (by kernel_rfl) (fun _ _ _ h => h) (Or.inl ⟨by rfl, by intro X hSw; go_simp⟩) (Only.refl _ _) ?_
        try simp only [Act.put, List.setIfInBounds_toArray, List.set_cons_zero, List.set_cons_succ]
        refine anyH_take 7 121 (.bool true) rfl rfl (by kernel_rfl) (by kernel_rfl) (by kernel_rfl) (fun _ _ _ h => h) (Or.inl ⟨by rfl, by intro X hSw; go_simp⟩) (Only.refl _ _) ?_
        try simp only [Act.put, List.setIfInBounds_toArray, List.set_cons_zero, List.set_cons_succ]
        refine anyH_take 8 122 (.bool true) rfl rfl (by kernel_rfl) (by kernel_rfl) (by kernel_rfl) (fun _ _ _ h => h) (Or.inl ⟨by rfl, by intro X hSw; go_simp⟩) (Only.refl _ _) ?_
        try simp only [Act.put, List.setIfInBounds_toArray, List.set_cons_zero, List.set_cons_succ]
        refine anyH_take 9 123 (.bool true) rfl rfl (by kernel_rfl) (by kernel_rfl) (by kernel_rfl) (fun _ _ _ h => h) (Or.inl ⟨by rfl, by intro X hSw; go_simp⟩) (Only.refl _ _) ?_
        try simp only [Act.put, List.setIfInBounds_toArray, List.set_cons_zero, List.set_cons_succ]
        refine anyH_take 10 124 (.pointer (some ⟨d, 0, none⟩)) rfl rfl (by kernel_rfl) (by kernel_rfl) (by kernel_rfl) (fun _ _ _ h => h) (Or.inl ⟨by rfl, by intro X hSw; go_simp⟩) (Only.refl _ _) ?_
        try simp only [Act.put, List.setIfInBounds_toArray, List.set_cons_zero, List.set_cons_succ]
        refine wpAnyH_ready (rs := [11]) (by kernel_rfl) (by simp) ?_
        refine AllReadyH.cons rfl (fun K hK => ?_) AllReadyH.nil
        rw [if_pos (by rfl)]
        simp only [List.getElem_toArray, List.getElem_cons_succ, List.getElem_cons_zero]
        go_wp2
        have oz : Only (at2 d l) wd (wd.alloc (.cells Z 5)) := (Only.refl _ _).alloc _
        refine hK.out _ _ oz (fun hS => ?_)
        clear hK hS
        have Rz : Row .u8 (wd.alloc (.cells Z 5)) (some ⟨wd.heap.size, 0, none⟩) 16 16 (List.replicate 16 0) := by rw [← hZ]; exact row_of (World.alloc_heap_new _ _) hzr 16 16 rfl (Nat.le_refl _)
        have Dz := Dd.below ((Below.refl _ _).alloc (Nat.le_refl _) (.cells Z 5))
        have hdd := row_lt Dd.obj
        have hld := row_lt Dd.lst
        have Bz : Below w.heap.size w (wd.alloc (.cells Z 5)) := Bd.alloc Bd.size _
        obtain ⟨wz, hwz⟩ : ∃ wz, wd.alloc (.cells Z 5) = wz := ⟨_, rfl⟩
        rw [hwz] at Rz Dz oz Bz ⊢
        clear hwz hZ
        refine wpAnyH_ready (rs := [12]) (by kernel_rfl) (by simp) ?_
        refine AllReadyH.cons rfl (fun K hK => ?_) AllReadyH.nil
        rw [if_pos (by rfl)]
        simp only [List.getElem_toArray, List.getElem_cons_succ, List.getElem_cons_zero]
        go_wp2_with (go_at_call 18; refine (KW wz _ Dz Rz (fun b o e => (by cases e; omega))).mono ?_; rintro e w9 ⟨rfl, D9, o9⟩)
        refine hK.out _ _ (oz.trans o9) (fun hS => ?_)
        clear hK hS
        have o29 := oz.trans o9
        have B9 := Bz.trans (o9.below Bz.size (fun q hq => (by rcases hq with e' | e' <;> omega)))
        refine anyH_take 13 127 (.bool true) rfl rfl (by kernel_rfl) (by kernel_rfl) (by kernel_rfl) (fun _ _ _ h => h) (Or.inl ⟨by rfl, by intro X hSw; go_simp⟩) (o29) ?_
        try simp only [Act.put, List.setIfInBounds_toArray, List.set_cons_zero, List.set_cons_succ]
        refine anyH_take 14 128 (.bool true) rfl rfl (by kernel_rfl) (by kernel_rfl) (by kernel_rfl) (fun _ _ _ h => h) (Or.inl ⟨by rfl, by intro X hSw; go_simp⟩) (o29) ?_
        try simp only [Act.put, List.setIfInBounds_toArray, List.set_cons_zero, List.set_cons_succ]
        refine anyH_take 15 129 (.bool true) rfl rfl (by kernel_rfl) (by kernel_rfl) (by kernel_rfl) (fun _ _ _ h => h) (Or.inl ⟨by rfl, by intro X hSw; go_simp⟩) (o29) ?_
        try simp only [Act.put, List.setIfInBounds_toArray, List.set_cons_zero, List.set_cons_succ]
        refine wpAnyH_ready (rs := [16]) (by kernel_rfl) (by simp) ?_
        refine AllReadyH.cons rfl (fun K hK => ?_) AllReadyH.nil
        rw [if_pos (by rfl)]
        simp only [List.getElem_toArray, List.getElem_cons_succ, List.getElem_cons_zero]
        go_wp2_with (go_at_call 9; refine (awake_any w9).mono ?_; rintro e w10 ⟨rfl, b10⟩)
        refine hK.out _ _ (o29.trans (Only.of_below b10)) (fun hS => ?_)
        clear hK hS
        have o30 := o29.trans (Only.of_below (C := at2 d l) b10)
        refine anyH_take 17 131 (.bool true) rfl rfl (by kernel_rfl) (by kernel_rfl) (by kernel_rfl) (fun _ _ _ h => h) (Or.inl ⟨by rfl, by intro X hSw; go_simp⟩) (o30) ?_
        try simp only [Act.put, List.setIfInBounds_toArray, List.set_cons_zero, List.set_cons_succ]
        refine anyH_take 18 6 (.bool true) rfl rfl (by kernel_rfl) (by kernel_rfl) (by kernel_rfl) (fun _ _ _ h => h) (Or.inl ⟨by rfl, by intro X hSw; go_simp⟩) (o30) ?_
        try simp only [Act.put, List.setIfInBounds_toArray, List.set_cons_zero, List.set_cons_succ]
        refine wpAnyH_done (by kernel_rfl) ?_ _
        go_wp2
        go_ret
        exact ⟨rfl, B9.trans (b10.mono B9.size)⟩
end Go.Proofs.Ytoecgldpmmclgaa
