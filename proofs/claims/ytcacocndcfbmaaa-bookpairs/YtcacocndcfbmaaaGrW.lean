/-
  The document's Write.
-/
import Derived.Test.YtcacocndcfbmaaaH17
namespace Go.Proofs.Ytcacocndcfbmaaa
open Go.ChangeShapes Go.WideShapes Go.ChangeAt Go.RowKit Go.Maps Go.Shelf
set_option linter.unusedVariables false
set_option linter.unusedSimpArgs false
attribute [local go_sem] Oper.semAt_some

set_option maxRecDepth 100000 in
set_option maxHeartbeats 8000000 in
theorem rwrite_hz (x : HS) (a : Option Addr) (c : Nat) (name : ByteArray) (v p f : Int) (w : World) (R : RdO w x a c) (hn : x.ls.length + 1 ≤ 65536) (hz : zeroB v p f = true) (hh : hitN name x.ls = true) (hkl : posN name x.ls < x.ls.length) :
    Calls Try.prog 21 #[(x.on a c).val, .string name, rg v p f] w fun e w' => ∃ a' c', e = .returned ((x.wr name v p f).on a' c').val ∧ Own w.heap.size w' (x.wr name v p f) a' c' ∧ Below w.heap.size w w' := by
  have C0 : Bx w [.cells (x.on a c).cells.toArray 43, .cells #[.int .i64 v, .int .i64 p, .int .i64 f] 50, .cells z6 43] _ := (((Bx.nil w).add rfl (.cells (x.on a c).cells.toArray 43)).add (by simp) (.cells #[.int .i64 v, .int .i64 p, .int .i64 f] 50)).add (by simp) (.cells z6 43)
  have HOW := wr_doc name v p f x.ls
  have hlt : ∀ j, j < posN name x.ls → ltN (x.ls.getD j LS.z).name name = true := fun j hj => lt_of_pos (lt := fun y : LS => ltN y.name name) LS.z (l := x.ls) hj
  have hpl : posN name x.ls ≤ x.ls.length := pos_le _ _
  have hat : ltN (x.ls.getD (posN name x.ls) LS.z).name name = false := at_pos (lt := fun y : LS => ltN y.name name) LS.z (l := x.ls) hkl
  have heq := (hit_iff hh).2
  rw [hh, hz] at HOW
  obtain ⟨k, hk⟩ : ∃ k : Nat, posN name x.ls = k := ⟨_, rfl⟩
  rw [hk] at HOW hlt hpl hkl hat heq
  have HLT : Hid (∀ j, j < k → ltN (x.ls.getD j LS.z).name name = true) := hlt
  have HPL : Hid (k ≤ x.ls.length) := hpl
  have HKL : Hid (k < x.ls.length) := hkl
  have HK8 : Hid (x.ls.length + 1 ≤ 65536) := hn
  have HWR : Hid (wrL name v p f x.ls = x.ls.take k ++ x.ls.drop (k + 1)) := HOW
  have hzz : sameB v p f 0 0 0 = true := hz
  have HAT : Hid (ltN (x.ls.getD k LS.z).name name = false) := hat
  have HEQK : Hid (eqN (x.ls.getD k LS.z).name name = true) := heq
  clear hat heq
  clear HOW hlt hpl hkl hn hk hh hz
  rw [show (x.on a c).val = .agg #[.int .i64 x.peer, .int .i64 x.boot, .int .i64 x.life, .slice a x.ls.length c, .bool x.pend, .int .i64 x.miss] from rfl]
  go_enter Try.func21, Try.ntmps21
  go_wp2_with (first
    | ((with_reducible show wpList _ _ _ (Oper.mk _ (Op.load 43 _) _ _ _ _ :: _) _ _); refine wpList_load24 rfl _ rfl w.heap.size 0 (x.on a c) rfl (range_rowH (C0.at0 _ rfl)) ?_)
    | (go_at_call 33; refine (one_any x a c _ (RdL.below R C0.below)).mono ?_; rintro e w1 ⟨a1, c1, rfl, O1, b1⟩; dsimp only [HS.on, HR.val]; have T1 := Wt.start (C0.later b1)))
  clear O1 b1 C0
  obtain ⟨qb, hqb⟩ : ∃ qb : Nat, w1.heap.size = qb := ⟨_, rfl⟩
  rw [hqb] at T1
  simp only [hqb]
  clear hqb
  go_loopg [8] k (fun gk v8 wr => ∃ (i : Nat) (L : Value) (es : List LS), v8 = .int .i64 (i : Int) ∧ i + gk = k ∧ es = x.ls.take i ∧ Wt w x a c v p f qb L es wr)
  case atStart => exact ⟨0, _, [], by first | rfl | go_num, by omega, rfl, T1⟩
  case round =>
    obtain ⟨i, L, es, rfl, hgk, hes, T⟩ := hrel
    obtain ⟨aL, cL, rfl, _, _⟩ := own_lstL T.row rfl
    have HES : Hid (es = x.ls.take i) := hes
    have HEL : Hid (es.length ≤ x.ls.length) := by show _ ≤ _; rw [hes, List.length_take]; omega
    have c03 : wr.cell? ⟨w.heap.size, 3, none⟩ = some (.slice a x.ls.length c) := row_cell T.t0 3 _ rfl
    have cq3 : wr.cell? ⟨qb, 3, none⟩ = some (.slice aL es.length cL) := row_cell T.tq 3 _ rfl
    have fq3 : wr.frozen? ⟨qb, 3, none⟩ = false := row_free T.tq 3
    clear hes
    by_cases hi : i < k
    case pos =>
      have HI : Hid (i < x.ls.length) := by have := HPL.out; show _ < _; omega
      have HIK : Hid (i < k) := hi
      have hiI : (i : Int) < (x.ls.length : Int) := by have := HI.out; omega
      have hwr : IntKind.i64.wrap ((i : Int) + 1) = (i : Int) + 1 := by rw [IntKind.wrap_i64]; have := HK8.out; have := HI.out; omega
      obtain ⟨g, off, rfl, hg, hd, hri0⟩ := RdL.at R i HI.out
      have hri := range_later hri0 hg T.below
      have hl := HLT.out i hi
      obtain ⟨d, hgi⟩ : ∃ d, x.ls.getD i LS.z = d := ⟨_, rfl⟩
      have HDD : Hid (x.ls.getD i LS.z = d) := hgi
      rw [hgi] at hri hl
      clear hgi hri0 hd
      have hnm := LS.name_cell hri
      have hl2 : Op.bytesLess d.name.toList name.toList = true := hl
      have kc3 : ∀ X, Below (w.heap.size + 1) wr X → X.cell? ⟨w.heap.size, 3, none⟩ = some (.slice (some ⟨g, off, none⟩) x.ls.length c) := fun X b => (b.cell (p := ⟨w.heap.size, 3, none⟩) (Nat.lt_succ_self _)).trans c03
      have krow : ∀ X, Below (w.heap.size + 1) wr X → X.rangeAt g (off + i * 4) d.cells := fun X b j u hj => (b.cell (p := ⟨g, off + i * 4 + j, none⟩) (Nat.lt_succ_of_lt hg)).trans (hri j u hj)
      have T5 := T.later (((Below.refl _ _).alloc (Nat.le_refl _) (.cells #[.string d.name, .int .i64 d.v, .int .i64 d.p, .int .i64 d.f] 62)).drew)
      have X8 : (wr.alloc (.cells #[.string d.name, .int .i64 d.v, .int .i64 d.p, .int .i64 d.f] 62)).drew.heap[wr.heap.size]? = some (.cells d.cells.toArray 62 (0, 0)) := heap_new rfl
      clear hl hi
      go_wp2_with (fail)
      refine wp_region_any (by kernel_rfl) ?_
      change wpAny _ _ _ _ _ _ _ (World.drew _)
      refine wpAny_narrow (fun W' => Below (w.heap.size + 1) wr W') _ _ _ _ ?_
      refine anyH_take 0 28 (.pointer (some ⟨qb, 3, none⟩)) rfl rfl (by kernel_rfl) (by kernel_rfl) (by kernel_rfl) (fun _ _ _ h => h) (Or.inl ⟨by rfl, by intro w hSw; go_simp⟩) ((Below.refl _ _).drew) ?_
      try simp only [Act.put, List.setIfInBounds_toArray, List.set_cons_zero, List.set_cons_succ]
      refine anyH_take 2 30 (.pointer (some ⟨w.heap.size, 3, none⟩)) rfl rfl (by kernel_rfl) (by kernel_rfl) (by kernel_rfl) (fun _ _ _ h => h) (Or.inl ⟨by rfl, by intro w hSw; go_simp⟩) ((Below.refl _ _).drew) ?_
      try simp only [Act.put, List.setIfInBounds_toArray, List.set_cons_zero, List.set_cons_succ]
      refine anyH_take 3 31 (.slice (some ⟨g, off, none⟩) x.ls.length c) rfl rfl (by kernel_rfl) (by kernel_rfl) (by kernel_rfl) (fun _ _ _ h => h) (Or.inl ⟨by rfl, by intro w hSw; have s1 := kc3 _ hSw; go_simp⟩) ((Below.refl _ _).drew) ?_
      try simp only [Act.put, List.setIfInBounds_toArray, List.set_cons_zero, List.set_cons_succ]
      refine anyH_take 4 32 (.int .i64 (i : Int)) rfl rfl (by kernel_rfl) (by kernel_rfl) (by kernel_rfl) (fun _ _ _ h => h) (Or.inl ⟨by rfl, by intro w hSw; go_simp⟩) ((Below.refl _ _).drew) ?_
      try simp only [Act.put, List.setIfInBounds_toArray, List.set_cons_zero, List.set_cons_succ]
      refine anyH_take 5 33 (.pointer (some ⟨g, off + i * 4, none⟩)) rfl rfl (by kernel_rfl) (by kernel_rfl) (by kernel_rfl) (fun _ _ _ h => h) (Or.inl ⟨by rfl, by intro w hSw; go_simp⟩) ((Below.refl _ _).drew) ?_
      try simp only [Act.put, List.setIfInBounds_toArray, List.set_cons_zero, List.set_cons_succ]
      refine anyH_take 6 34 (d.val) rfl rfl (by kernel_rfl) (by kernel_rfl) (by kernel_rfl) (fun _ _ _ h => h) (Or.inl ⟨by rfl, fun X hSw => exec_load44 rfl g (off + i * 4) d rfl (krow X hSw)⟩) ((Below.refl _ _).drew) ?_
      try simp only [Act.put, List.setIfInBounds_toArray, List.set_cons_zero, List.set_cons_succ]
      refine wpAnyH_ready (rs := [1, 7]) (by kernel_rfl) (by simp) ?_
      refine AllReadyH.cons rfl (fun K hK => ?_) (AllReadyH.cons rfl (fun K hK => ?_) AllReadyH.nil)
      · go_simp
        go_wp2_with (fail)
        refine hK.out _ _ ((Below.refl _ _).drew) (fun hS => ?_)
        clear hK
        try simp only [Act.put, List.setIfInBounds_toArray, List.set_cons_zero, List.set_cons_succ]
        refine wpAnyH_ready (rs := [7]) (by kernel_rfl) (by simp) ?_
        refine AllReadyH.cons rfl (fun K hK => ?_) AllReadyH.nil
        dsimp only [LS.val]
        go_simp
        go_wp2_with (fail)
        refine hK.out _ _ (((Below.refl _ _).alloc (Nat.succ_le_of_lt (row_lt T.t0)) _).drew) (fun hS => ?_)
        clear hK
        try simp only [Act.put, List.setIfInBounds_toArray, List.set_cons_zero, List.set_cons_succ]
        obtain ⟨W5, hW5⟩ : ∃ W5, (wr.alloc (.cells #[.string d.name, .int .i64 d.v, .int .i64 d.p, .int .i64 d.f] 62)).drew = W5 := ⟨_, rfl⟩
        rw [hW5] at T5 X8 hS ⊢
        clear hW5
        have hS5 := hS
        refine wpAnyH_ready (rs := [8]) (by kernel_rfl) (by simp) ?_
        refine AllReadyH.cons rfl (fun K hK => ?_) AllReadyH.nil
        refine wp_more_lstL (base := qb + 1) (v := (.slice aL es.length cL)) (k := es.length) (es := es) (ds := [d]) (ad := ⟨wr.heap.size, 0, none⟩) _ _ rfl rfl rfl T5.row rfl (fun j u hj => by rw [add_plain, Nat.zero_add]; exact row_cell X8 j u (by simpa [csL, LS.cells] using hj)) (by have := HEL.out; have := HK8.out; omega) (Nat.succ_le_of_lt (row_lt T5.tq)) ?_
        intro v8 w8 O8 g8 b8
        obtain ⟨a8, c8, rfl, _, _⟩ := own_lstL O8 (by simp)
        have T8 := T5.grown (es' := es ++ [d]) b8 (by rw [List.length_append]; exact O8)
        have b9 : Below (w.heap.size + 1) wr w8 := hS5.trans (b8.mono (by have := T.hq; omega))
        refine hK.out _ _ (b9) (fun hS => ?_)
        clear hK
        try simp only [Act.put, List.setIfInBounds_toArray, List.set_cons_zero, List.set_cons_succ]
        have cq8 : w8.cell? ⟨qb, 3, none⟩ = some (.slice aL es.length cL) := (b8.cell (p := ⟨qb, 3, none⟩) (Nat.lt_succ_self _)).trans (row_cell T5.tq 3 _ rfl)
        have fq8 : w8.frozen? ⟨qb, 3, none⟩ = false := row_free ((b8.block _ (Nat.lt_succ_self _)).trans T5.tq) 3
        refine anyH_take 9 37 (.pointer (some ⟨qb, 3, none⟩)) rfl rfl (by kernel_rfl) (by kernel_rfl) (by kernel_rfl) (fun _ _ _ h => h) (Or.inl ⟨by rfl, by intro w hSw; go_simp⟩) (hS) ?_
        try simp only [Act.put, List.setIfInBounds_toArray, List.set_cons_zero, List.set_cons_succ]
        refine wpAnyH_ready (rs := [10]) (by kernel_rfl) (by simp) ?_
        refine AllReadyH.cons rfl (fun K hK => ?_) AllReadyH.nil
        go_simp
        go_wp2_with (fail)
        refine hK.out _ _ (b9.setCell (p := ⟨qb, 3, none⟩) (by show w.heap.size + 1 ≤ qb; have := T.hq; omega) _) (fun hS => ?_)
        clear hK
        try simp only [Act.put, List.setIfInBounds_toArray, List.set_cons_zero, List.set_cons_succ]
        refine wpAnyH_done (by kernel_rfl) ?_ _
        have HEQ : Hid (es ++ [d] = x.ls.take (i + 1)) := by show _ = _; rw [HES.out, ← HDD.out]; exact (take_next (HI.out)).symm
        clear kc3 krow c03 cq3 fq3 hnm hl2 hiI hri cq8 fq8
        go_wp2
        go_roundg (gk - 1)
        case measure => have := HIK.out; omega
        case rel => exact ⟨i + 1, _, _, by first | rfl | go_num, by have := HIK.out; omega, HEQ.out, T8⟩
      · dsimp only [LS.val]
        go_simp
        go_wp2_with (fail)
        refine hK.out _ _ (((Below.refl _ _).alloc (Nat.succ_le_of_lt (row_lt T.t0)) _).drew) (fun hS => ?_)
        clear hK
        try simp only [Act.put, List.setIfInBounds_toArray, List.set_cons_zero, List.set_cons_succ]
        obtain ⟨W5, hW5⟩ : ∃ W5, (wr.alloc (.cells #[.string d.name, .int .i64 d.v, .int .i64 d.p, .int .i64 d.f] 62)).drew = W5 := ⟨_, rfl⟩
        rw [hW5] at T5 X8 hS ⊢
        clear hW5
        have hS5 := hS
        refine wpAnyH_ready (rs := [1]) (by kernel_rfl) (by simp) ?_
        refine AllReadyH.cons rfl (fun K hK => ?_) AllReadyH.nil
        have cq4 : W5.cell? ⟨qb, 3, none⟩ = some (.slice aL es.length cL) := row_cell (T5.tq) 3 _ rfl
        go_simp
        go_wp2_with (fail)
        refine hK.out _ _ (hS5) (fun hS => ?_)
        clear hK
        try simp only [Act.put, List.setIfInBounds_toArray, List.set_cons_zero, List.set_cons_succ]
        refine wpAnyH_ready (rs := [8]) (by kernel_rfl) (by simp) ?_
        refine AllReadyH.cons rfl (fun K hK => ?_) AllReadyH.nil
        refine wp_more_lstL (base := qb + 1) (v := (.slice aL es.length cL)) (k := es.length) (es := es) (ds := [d]) (ad := ⟨wr.heap.size, 0, none⟩) _ _ rfl rfl rfl T5.row rfl (fun j u hj => by rw [add_plain, Nat.zero_add]; exact row_cell X8 j u (by simpa [csL, LS.cells] using hj)) (by have := HEL.out; have := HK8.out; omega) (Nat.succ_le_of_lt (row_lt T5.tq)) ?_
        intro v8 w8 O8 g8 b8
        obtain ⟨a8, c8, rfl, _, _⟩ := own_lstL O8 (by simp)
        have T8 := T5.grown (es' := es ++ [d]) b8 (by rw [List.length_append]; exact O8)
        have b9 : Below (w.heap.size + 1) wr w8 := hS5.trans (b8.mono (by have := T.hq; omega))
        refine hK.out _ _ (b9) (fun hS => ?_)
        clear hK
        try simp only [Act.put, List.setIfInBounds_toArray, List.set_cons_zero, List.set_cons_succ]
        have cq8 : w8.cell? ⟨qb, 3, none⟩ = some (.slice aL es.length cL) := (b8.cell (p := ⟨qb, 3, none⟩) (Nat.lt_succ_self _)).trans (row_cell T5.tq 3 _ rfl)
        have fq8 : w8.frozen? ⟨qb, 3, none⟩ = false := row_free ((b8.block _ (Nat.lt_succ_self _)).trans T5.tq) 3
        refine anyH_take 9 37 (.pointer (some ⟨qb, 3, none⟩)) rfl rfl (by kernel_rfl) (by kernel_rfl) (by kernel_rfl) (fun _ _ _ h => h) (Or.inl ⟨by rfl, by intro w hSw; go_simp⟩) (hS) ?_
        try simp only [Act.put, List.setIfInBounds_toArray, List.set_cons_zero, List.set_cons_succ]
        refine wpAnyH_ready (rs := [10]) (by kernel_rfl) (by simp) ?_
        refine AllReadyH.cons rfl (fun K hK => ?_) AllReadyH.nil
        go_simp
        go_wp2_with (fail)
        refine hK.out _ _ (b9.setCell (p := ⟨qb, 3, none⟩) (by show w.heap.size + 1 ≤ qb; have := T.hq; omega) _) (fun hS => ?_)
        clear hK
        try simp only [Act.put, List.setIfInBounds_toArray, List.set_cons_zero, List.set_cons_succ]
        refine wpAnyH_done (by kernel_rfl) ?_ _
        have HEQ : Hid (es ++ [d] = x.ls.take (i + 1)) := by show _ = _; rw [HES.out, ← HDD.out]; exact (take_next (HI.out)).symm
        clear kc3 krow c03 cq3 fq3 hnm hl2 hiI hri cq8 fq8
        go_wp2
        go_roundg (gk - 1)
        case measure => have := HIK.out; omega
        case rel => exact ⟨i + 1, _, _, by first | rfl | go_num, by have := HIK.out; omega, HEQ.out, T8⟩
    case neg =>
      have hik : i = k := by omega
      subst hik
      clear hi hgk
      have hiI : (i : Int) < (x.ls.length : Int) := by have := HKL.out; omega
      have hwr : IntKind.i64.wrap ((i : Int) + 1) = ((i + 1 : Nat) : Int) := by rw [IntKind.wrap_i64]; have := HK8.out; have := HKL.out; omega
      obtain ⟨g, off, rfl, hg, hd, hri0⟩ := RdL.at R i HKL.out
      have hri := range_later hri0 hg T.below
      have hl := HAT.out
      have he := HEQK.out
      obtain ⟨d, hgi⟩ : ∃ d, x.ls.getD i LS.z = d := ⟨_, rfl⟩
      rw [hgi] at hri hl he
      clear hgi hri0 hd
      have hnm := LS.name_cell hri
      have hl2 : Op.bytesLess d.name.toList name.toList = false := hl
      have he2 : (d.name.toList == name.toList) = true := he
      clear hl he
      go_wp2_with (first
        | ((with_reducible show wpList _ _ _ (Oper.mk _ (Op.load 50 _) _ _ _ _ :: _) _ _); refine wpList_yieldg (by rfl) _ (exec_load42 rfl (w.heap.size + 1) v p f rfl T.t1) ?_)
        | ((with_reducible show wpList _ _ _ (Oper.mk _ (Op.binOp .neq 50 _ _ 50) _ _ _ _ :: _) _ _); refine wpList_yieldg (by rfl) _ (exec_neq42 rfl v p f 0 0 0 rfl rfl _) ?_; rw [hzz])
        | fail)
      have T8 := T
      obtain ⟨wt, hwt⟩ : ∃ wt, wr = wt := ⟨_, rfl⟩
      rw [hwt] at T8 ⊢
      clear hwt T c03 cq3 fq3 hnm hl2 he2 hri
      have c03 : wt.cell? ⟨w.heap.size, 3, none⟩ = some (.slice (some ⟨g, off, none⟩) x.ls.length c) := row_cell T8.t0 3 _ rfl
      have cq3 : wt.cell? ⟨qb, 3, none⟩ = some (.slice aL es.length cL) := row_cell T8.tq 3 _ rfl
      have kc3 : ∀ X, Below (w.heap.size + 1) wt X → X.cell? ⟨w.heap.size, 3, none⟩ = some (.slice (some ⟨g, off, none⟩) x.ls.length c) := fun X b => (b.cell (p := ⟨w.heap.size, 3, none⟩) (Nat.lt_succ_self _)).trans c03
      obtain ⟨a9, h9⟩ : ∃ a9, (if c = (i + 1) then (some ⟨g, off, none⟩) else ((some ⟨g, off, none⟩) : Option Addr).map (·.add ((i + 1) * 4))) = a9 := ⟨_, rfl⟩
      have R9 := RdL.from (RdL.below R T8.below) (i + 1) (by have := HPL.out; have := HKL.out; omega)
      rw [h9] at R9
      have H9 : Hid ((if c = (i + 1) then (some ⟨g, off, none⟩) else ((some ⟨g, off, none⟩) : Option Addr).map (·.add ((i + 1) * 4))) = a9) := h9
      have HK9 : Hid ((i + 1) ≤ x.ls.length) := by have := HPL.out; have := HKL.out; show _ ≤ _; omega
      clear h9
      refine wp_region_any (by kernel_rfl) ?_
      change wpAny _ _ _ _ _ _ _ (World.drew _)
      refine wpAny_narrow (fun W' => Below (w.heap.size + 1) wt W') _ _ _ _ ?_
      refine anyH_take 0 84 (.pointer (some ⟨qb, 3, none⟩)) rfl rfl (by kernel_rfl) (by kernel_rfl) (by kernel_rfl) (fun _ _ _ h => h) (Or.inl ⟨by rfl, by intro w hSw; go_simp⟩) ((Below.refl _ _).drew) ?_
      try simp only [Act.put, List.setIfInBounds_toArray, List.set_cons_zero, List.set_cons_succ]
      refine anyH_take 2 86 (.pointer (some ⟨w.heap.size, 3, none⟩)) rfl rfl (by kernel_rfl) (by kernel_rfl) (by kernel_rfl) (fun _ _ _ h => h) (Or.inl ⟨by rfl, by intro w hSw; go_simp⟩) ((Below.refl _ _).drew) ?_
      try simp only [Act.put, List.setIfInBounds_toArray, List.set_cons_zero, List.set_cons_succ]
      refine anyH_take 3 87 (.slice (some ⟨g, off, none⟩) x.ls.length c) rfl rfl (by kernel_rfl) (by kernel_rfl) (by kernel_rfl) (fun _ _ _ h => h) (Or.inl ⟨by rfl, by intro w hSw; have s1 := kc3 _ hSw; go_simp⟩) ((Below.refl _ _).drew) ?_
      try simp only [Act.put, List.setIfInBounds_toArray, List.set_cons_zero, List.set_cons_succ]
      refine anyH_take 4 88 (.int .i64 (((i + 1) : Nat) : Int)) rfl rfl (by kernel_rfl) (by kernel_rfl) (by kernel_rfl) (fun _ _ _ h => h) (Or.inl ⟨by rfl, by intro w hSw; go_simp⟩) ((Below.refl _ _).drew) ?_
      try simp only [Act.put, List.setIfInBounds_toArray, List.set_cons_zero, List.set_cons_succ]
      refine anyH_take 5 89 (.slice a9 (x.ls.length - (i + 1)) (c - (i + 1))) rfl rfl (by kernel_rfl) (by kernel_rfl) (by kernel_rfl) (fun _ _ _ h => h) (Or.inl ⟨by rfl, fun X hSw => (by rw [← H9.out]; exact exec_fromL rfl rfl rfl HK9.out)⟩) ((Below.refl _ _).drew) ?_
      try simp only [Act.put, List.setIfInBounds_toArray, List.set_cons_zero, List.set_cons_succ]
      refine wpAnyH_ready (rs := [1]) (by kernel_rfl) (by simp) ?_
      refine AllReadyH.cons rfl (fun K hK => ?_) AllReadyH.nil
      go_simp
      go_wp2_with (fail)
      refine hK.out _ _ ((Below.refl _ _).drew) (fun hS => ?_)
      clear hK
      try simp only [Act.put, List.setIfInBounds_toArray, List.set_cons_zero, List.set_cons_succ]
      refine wpAnyH_ready (rs := [6]) (by kernel_rfl) (by simp) ?_
      refine AllReadyH.cons rfl (fun K hK => ?_) AllReadyH.nil
      refine wp_grow_lstL (base := qb + 1) (v := (.slice aL es.length cL)) (k := es.length) (es := es) (ds := x.ls.drop (i + 1)) _ _ rfl rfl rfl (T8.later (Below.refl _ _).drew).row (R9.below (Below.refl _ _).drew) (by have := HEL.out; have := HK8.out; have := HK9.out; omega) (Nat.succ_le_of_lt (row_lt T8.tq)) ?_
      intro v10 w10 O10 g10 b10
      obtain ⟨aZ, cZ, rfl, _, NZ⟩ := own_lstL O10 (by rw [List.length_append, List.length_drop])
      obtain ⟨nZ, hnZ⟩ : ∃ n : Nat, es.length + (x.ls.length - (i + 1)) = n := ⟨_, rfl⟩
      rw [hnZ] at O10 ⊢
      have T10 := (T8.later (Below.refl _ _).drew).grown (es' := es ++ x.ls.drop (i + 1)) b10 (by rw [List.length_append, List.length_drop, hnZ]; exact O10)
      have b9 : Below (w.heap.size + 1) wt w10 := ((Below.refl _ _).drew).trans (b10.mono (by have := T8.hq; omega))
      refine hK.out _ _ (b9) (fun hS => ?_)
      clear hK
      try simp only [Act.put, List.setIfInBounds_toArray, List.set_cons_zero, List.set_cons_succ]
      have cq8 : w10.cell? ⟨qb, 3, none⟩ = some (.slice aL es.length cL) := (b10.cell (p := ⟨qb, 3, none⟩) (Nat.lt_succ_self _)).trans (row_cell T8.tq 3 _ rfl)
      have fq8 : w10.frozen? ⟨qb, 3, none⟩ = false := row_free ((b10.block _ (Nat.lt_succ_self _)).trans T8.tq) 3
      refine anyH_take 7 91 (.pointer (some ⟨qb, 3, none⟩)) rfl rfl (by kernel_rfl) (by kernel_rfl) (by kernel_rfl) (fun _ _ _ h => h) (Or.inl ⟨by rfl, by intro w hSw; go_simp⟩) (hS) ?_
      try simp only [Act.put, List.setIfInBounds_toArray, List.set_cons_zero, List.set_cons_succ]
      refine wpAnyH_ready (rs := [8]) (by kernel_rfl) (by simp) ?_
      refine AllReadyH.cons rfl (fun K hK => ?_) AllReadyH.nil
      go_simp
      go_wp2_with (fail)
      refine hK.out _ _ (b9.setCell (p := ⟨qb, 3, none⟩) (by show w.heap.size + 1 ≤ qb; have := T8.hq; omega) _) (fun hS => ?_)
      clear hK
      try simp only [Act.put, List.setIfInBounds_toArray, List.set_cons_zero, List.set_cons_succ]
      refine wpAnyH_done (by kernel_rfl) ?_ _
      obtain ⟨wz, hwz⟩ : ∃ wz, w10.setCell ⟨qb, 3, none⟩ (.slice aZ nZ cZ) = wz := ⟨_, rfl⟩
      rw [hwz] at T10 ⊢
      clear hwz cq8 fq8 c03 cq3 kc3
      obtain ⟨aY, cY, eY, LZ, NY⟩ := own_lstL T10.row rfl
      clear hnZ
      cases eY
      have hls : es ++ x.ls.drop (i + 1) = wrL name v p f x.ls := by
        rw [HWR.out, HES.out]
      have QZ := T10.tq
      have hqZ := T10.hq
      go_wp2_with (first
        | ((with_reducible show wpList _ _ _ (Oper.mk _ (Op.load 43 _) _ _ _ _ :: _) _ _); refine wpList_load24 rfl _ rfl qb 0 ⟨x.peer, x.boot, x.life, aZ, (es ++ x.ls.drop (i + 1)).length, cZ, x.pend, x.miss⟩ rfl (range_rowH QZ) ?_)
        | ((with_reducible show wpList _ _ _ (Oper.mk _ (Op.store 43 _ _) _ _ _ _ :: _) _ _); refine wpList_store24row rfl _ _ rfl ⟨x.peer, x.boot, x.life, aZ, (es ++ x.ls.drop (i + 1)).length, cZ, x.pend, x.miss⟩ T10.t2 rfl rfl rfl ?_))
      refine bodyPost_ret (results_row1 rfl _ _ (w.heap.size + 2) _ rfl (load_24 (d := ⟨x.peer, x.boot, x.life, aZ, (es ++ x.ls.drop (i + 1)).length, cZ, x.pend, x.miss⟩) (setRow_heap _ _ _ _ _ _ T10.t2))) rfl ⟨aZ, cZ, ?_, ⟨?_, fun g off e => by have := NZ g off e; omega⟩, below_row T10.below (by omega) _⟩
      · rw [hls]; rfl
      · show LstL _ aZ (wrL name v p f x.ls).length cZ (wrL name v p f x.ls)
        rw [← hls]
        exact LZ.of_block fun g off e => setRow_other _ _ _ _ (by have := NZ g off e; omega)

set_option maxRecDepth 100000 in
set_option maxHeartbeats 8000000 in
theorem rwrite_hn (x : HS) (a : Option Addr) (c : Nat) (name : ByteArray) (v p f : Int) (w : World) (R : RdO w x a c) (hn : x.ls.length + 1 ≤ 65536) (hz : zeroB v p f = false) (hh : hitN name x.ls = true) (hkl : posN name x.ls < x.ls.length) :
    Calls Try.prog 21 #[(x.on a c).val, .string name, rg v p f] w fun e w' => ∃ a' c', e = .returned ((x.wr name v p f).on a' c').val ∧ Own w.heap.size w' (x.wr name v p f) a' c' ∧ Below w.heap.size w w' := by
  have C0 : Bx w [.cells (x.on a c).cells.toArray 43, .cells #[.int .i64 v, .int .i64 p, .int .i64 f] 50, .cells z6 43] _ := (((Bx.nil w).add rfl (.cells (x.on a c).cells.toArray 43)).add (by simp) (.cells #[.int .i64 v, .int .i64 p, .int .i64 f] 50)).add (by simp) (.cells z6 43)
  have HOW := wr_doc name v p f x.ls
  have hlt : ∀ j, j < posN name x.ls → ltN (x.ls.getD j LS.z).name name = true := fun j hj => lt_of_pos (lt := fun y : LS => ltN y.name name) LS.z (l := x.ls) hj
  have hpl : posN name x.ls ≤ x.ls.length := pos_le _ _
  have hat : ltN (x.ls.getD (posN name x.ls) LS.z).name name = false := at_pos (lt := fun y : LS => ltN y.name name) LS.z (l := x.ls) hkl
  have heq := (hit_iff hh).2
  rw [hh, hz] at HOW
  obtain ⟨k, hk⟩ : ∃ k : Nat, posN name x.ls = k := ⟨_, rfl⟩
  rw [hk] at HOW hlt hpl hkl hat heq
  have HLT : Hid (∀ j, j < k → ltN (x.ls.getD j LS.z).name name = true) := hlt
  have HPL : Hid (k ≤ x.ls.length) := hpl
  have HKL : Hid (k < x.ls.length) := hkl
  have HK8 : Hid (x.ls.length + 1 ≤ 65536) := hn
  have HWR : Hid (wrL name v p f x.ls = x.ls.take k ++ [⟨name, v, p, f⟩] ++ x.ls.drop (k + 1)) := HOW
  have hzz : sameB v p f 0 0 0 = false := hz
  have HAT : Hid (ltN (x.ls.getD k LS.z).name name = false) := hat
  have HEQK : Hid (eqN (x.ls.getD k LS.z).name name = true) := heq
  clear hat heq
  clear HOW hlt hpl hkl hn hk hh hz
  rw [show (x.on a c).val = .agg #[.int .i64 x.peer, .int .i64 x.boot, .int .i64 x.life, .slice a x.ls.length c, .bool x.pend, .int .i64 x.miss] from rfl]
  go_enter Try.func21, Try.ntmps21
  go_wp2_with (first
    | ((with_reducible show wpList _ _ _ (Oper.mk _ (Op.load 43 _) _ _ _ _ :: _) _ _); refine wpList_load24 rfl _ rfl w.heap.size 0 (x.on a c) rfl (range_rowH (C0.at0 _ rfl)) ?_)
    | (go_at_call 33; refine (one_any x a c _ (RdL.below R C0.below)).mono ?_; rintro e w1 ⟨a1, c1, rfl, O1, b1⟩; dsimp only [HS.on, HR.val]; have T1 := Wt.start (C0.later b1)))
  clear O1 b1 C0
  obtain ⟨qb, hqb⟩ : ∃ qb : Nat, w1.heap.size = qb := ⟨_, rfl⟩
  rw [hqb] at T1
  simp only [hqb]
  clear hqb
  go_loopg [8] k (fun gk v8 wr => ∃ (i : Nat) (L : Value) (es : List LS), v8 = .int .i64 (i : Int) ∧ i + gk = k ∧ es = x.ls.take i ∧ Wt w x a c v p f qb L es wr)
  case atStart => exact ⟨0, _, [], by first | rfl | go_num, by omega, rfl, T1⟩
  case round =>
    obtain ⟨i, L, es, rfl, hgk, hes, T⟩ := hrel
    obtain ⟨aL, cL, rfl, _, _⟩ := own_lstL T.row rfl
    have HES : Hid (es = x.ls.take i) := hes
    have HEL : Hid (es.length ≤ x.ls.length) := by show _ ≤ _; rw [hes, List.length_take]; omega
    have c03 : wr.cell? ⟨w.heap.size, 3, none⟩ = some (.slice a x.ls.length c) := row_cell T.t0 3 _ rfl
    have cq3 : wr.cell? ⟨qb, 3, none⟩ = some (.slice aL es.length cL) := row_cell T.tq 3 _ rfl
    have fq3 : wr.frozen? ⟨qb, 3, none⟩ = false := row_free T.tq 3
    clear hes
    by_cases hi : i < k
    case pos =>
      have HI : Hid (i < x.ls.length) := by have := HPL.out; show _ < _; omega
      have HIK : Hid (i < k) := hi
      have hiI : (i : Int) < (x.ls.length : Int) := by have := HI.out; omega
      have hwr : IntKind.i64.wrap ((i : Int) + 1) = (i : Int) + 1 := by rw [IntKind.wrap_i64]; have := HK8.out; have := HI.out; omega
      obtain ⟨g, off, rfl, hg, hd, hri0⟩ := RdL.at R i HI.out
      have hri := range_later hri0 hg T.below
      have hl := HLT.out i hi
      obtain ⟨d, hgi⟩ : ∃ d, x.ls.getD i LS.z = d := ⟨_, rfl⟩
      have HDD : Hid (x.ls.getD i LS.z = d) := hgi
      rw [hgi] at hri hl
      clear hgi hri0 hd
      have hnm := LS.name_cell hri
      have hl2 : Op.bytesLess d.name.toList name.toList = true := hl
      have kc3 : ∀ X, Below (w.heap.size + 1) wr X → X.cell? ⟨w.heap.size, 3, none⟩ = some (.slice (some ⟨g, off, none⟩) x.ls.length c) := fun X b => (b.cell (p := ⟨w.heap.size, 3, none⟩) (Nat.lt_succ_self _)).trans c03
      have krow : ∀ X, Below (w.heap.size + 1) wr X → X.rangeAt g (off + i * 4) d.cells := fun X b j u hj => (b.cell (p := ⟨g, off + i * 4 + j, none⟩) (Nat.lt_succ_of_lt hg)).trans (hri j u hj)
      have T5 := T.later (((Below.refl _ _).alloc (Nat.le_refl _) (.cells #[.string d.name, .int .i64 d.v, .int .i64 d.p, .int .i64 d.f] 62)).drew)
      have X8 : (wr.alloc (.cells #[.string d.name, .int .i64 d.v, .int .i64 d.p, .int .i64 d.f] 62)).drew.heap[wr.heap.size]? = some (.cells d.cells.toArray 62 (0, 0)) := heap_new rfl
      clear hl hi
      go_wp2_with (fail)
      refine wp_region_any (by kernel_rfl) ?_
      change wpAny _ _ _ _ _ _ _ (World.drew _)
      refine wpAny_narrow (fun W' => Below (w.heap.size + 1) wr W') _ _ _ _ ?_
      refine anyH_take 0 28 (.pointer (some ⟨qb, 3, none⟩)) rfl rfl (by kernel_rfl) (by kernel_rfl) (by kernel_rfl) (fun _ _ _ h => h) (Or.inl ⟨by rfl, by intro w hSw; go_simp⟩) ((Below.refl _ _).drew) ?_
      try simp only [Act.put, List.setIfInBounds_toArray, List.set_cons_zero, List.set_cons_succ]
      refine anyH_take 2 30 (.pointer (some ⟨w.heap.size, 3, none⟩)) rfl rfl (by kernel_rfl) (by kernel_rfl) (by kernel_rfl) (fun _ _ _ h => h) (Or.inl ⟨by rfl, by intro w hSw; go_simp⟩) ((Below.refl _ _).drew) ?_
      try simp only [Act.put, List.setIfInBounds_toArray, List.set_cons_zero, List.set_cons_succ]
      refine anyH_take 3 31 (.slice (some ⟨g, off, none⟩) x.ls.length c) rfl rfl (by kernel_rfl) (by kernel_rfl) (by kernel_rfl) (fun _ _ _ h => h) (Or.inl ⟨by rfl, by intro w hSw; have s1 := kc3 _ hSw; go_simp⟩) ((Below.refl _ _).drew) ?_
      try simp only [Act.put, List.setIfInBounds_toArray, List.set_cons_zero, List.set_cons_succ]
      refine anyH_take 4 32 (.int .i64 (i : Int)) rfl rfl (by kernel_rfl) (by kernel_rfl) (by kernel_rfl) (fun _ _ _ h => h) (Or.inl ⟨by rfl, by intro w hSw; go_simp⟩) ((Below.refl _ _).drew) ?_
      try simp only [Act.put, List.setIfInBounds_toArray, List.set_cons_zero, List.set_cons_succ]
      refine anyH_take 5 33 (.pointer (some ⟨g, off + i * 4, none⟩)) rfl rfl (by kernel_rfl) (by kernel_rfl) (by kernel_rfl) (fun _ _ _ h => h) (Or.inl ⟨by rfl, by intro w hSw; go_simp⟩) ((Below.refl _ _).drew) ?_
      try simp only [Act.put, List.setIfInBounds_toArray, List.set_cons_zero, List.set_cons_succ]
      refine anyH_take 6 34 (d.val) rfl rfl (by kernel_rfl) (by kernel_rfl) (by kernel_rfl) (fun _ _ _ h => h) (Or.inl ⟨by rfl, fun X hSw => exec_load44 rfl g (off + i * 4) d rfl (krow X hSw)⟩) ((Below.refl _ _).drew) ?_
      try simp only [Act.put, List.setIfInBounds_toArray, List.set_cons_zero, List.set_cons_succ]
      refine wpAnyH_ready (rs := [1, 7]) (by kernel_rfl) (by simp) ?_
      refine AllReadyH.cons rfl (fun K hK => ?_) (AllReadyH.cons rfl (fun K hK => ?_) AllReadyH.nil)
      · go_simp
        go_wp2_with (fail)
        refine hK.out _ _ ((Below.refl _ _).drew) (fun hS => ?_)
        clear hK
        try simp only [Act.put, List.setIfInBounds_toArray, List.set_cons_zero, List.set_cons_succ]
        refine wpAnyH_ready (rs := [7]) (by kernel_rfl) (by simp) ?_
        refine AllReadyH.cons rfl (fun K hK => ?_) AllReadyH.nil
        dsimp only [LS.val]
        go_simp
        go_wp2_with (fail)
        refine hK.out _ _ (((Below.refl _ _).alloc (Nat.succ_le_of_lt (row_lt T.t0)) _).drew) (fun hS => ?_)
        clear hK
        try simp only [Act.put, List.setIfInBounds_toArray, List.set_cons_zero, List.set_cons_succ]
        obtain ⟨W5, hW5⟩ : ∃ W5, (wr.alloc (.cells #[.string d.name, .int .i64 d.v, .int .i64 d.p, .int .i64 d.f] 62)).drew = W5 := ⟨_, rfl⟩
        rw [hW5] at T5 X8 hS ⊢
        clear hW5
        have hS5 := hS
        refine wpAnyH_ready (rs := [8]) (by kernel_rfl) (by simp) ?_
        refine AllReadyH.cons rfl (fun K hK => ?_) AllReadyH.nil
        refine wp_more_lstL (base := qb + 1) (v := (.slice aL es.length cL)) (k := es.length) (es := es) (ds := [d]) (ad := ⟨wr.heap.size, 0, none⟩) _ _ rfl rfl rfl T5.row rfl (fun j u hj => by rw [add_plain, Nat.zero_add]; exact row_cell X8 j u (by simpa [csL, LS.cells] using hj)) (by have := HEL.out; have := HK8.out; omega) (Nat.succ_le_of_lt (row_lt T5.tq)) ?_
        intro v8 w8 O8 g8 b8
        obtain ⟨a8, c8, rfl, _, _⟩ := own_lstL O8 (by simp)
        have T8 := T5.grown (es' := es ++ [d]) b8 (by rw [List.length_append]; exact O8)
        have b9 : Below (w.heap.size + 1) wr w8 := hS5.trans (b8.mono (by have := T.hq; omega))
        refine hK.out _ _ (b9) (fun hS => ?_)
        clear hK
        try simp only [Act.put, List.setIfInBounds_toArray, List.set_cons_zero, List.set_cons_succ]
        have cq8 : w8.cell? ⟨qb, 3, none⟩ = some (.slice aL es.length cL) := (b8.cell (p := ⟨qb, 3, none⟩) (Nat.lt_succ_self _)).trans (row_cell T5.tq 3 _ rfl)
        have fq8 : w8.frozen? ⟨qb, 3, none⟩ = false := row_free ((b8.block _ (Nat.lt_succ_self _)).trans T5.tq) 3
        refine anyH_take 9 37 (.pointer (some ⟨qb, 3, none⟩)) rfl rfl (by kernel_rfl) (by kernel_rfl) (by kernel_rfl) (fun _ _ _ h => h) (Or.inl ⟨by rfl, by intro w hSw; go_simp⟩) (hS) ?_
        try simp only [Act.put, List.setIfInBounds_toArray, List.set_cons_zero, List.set_cons_succ]
        refine wpAnyH_ready (rs := [10]) (by kernel_rfl) (by simp) ?_
        refine AllReadyH.cons rfl (fun K hK => ?_) AllReadyH.nil
        go_simp
        go_wp2_with (fail)
        refine hK.out _ _ (b9.setCell (p := ⟨qb, 3, none⟩) (by show w.heap.size + 1 ≤ qb; have := T.hq; omega) _) (fun hS => ?_)
        clear hK
        try simp only [Act.put, List.setIfInBounds_toArray, List.set_cons_zero, List.set_cons_succ]
        refine wpAnyH_done (by kernel_rfl) ?_ _
        have HEQ : Hid (es ++ [d] = x.ls.take (i + 1)) := by show _ = _; rw [HES.out, ← HDD.out]; exact (take_next (HI.out)).symm
        clear kc3 krow c03 cq3 fq3 hnm hl2 hiI hri cq8 fq8
        go_wp2
        go_roundg (gk - 1)
        case measure => have := HIK.out; omega
        case rel => exact ⟨i + 1, _, _, by first | rfl | go_num, by have := HIK.out; omega, HEQ.out, T8⟩
      · dsimp only [LS.val]
        go_simp
        go_wp2_with (fail)
        refine hK.out _ _ (((Below.refl _ _).alloc (Nat.succ_le_of_lt (row_lt T.t0)) _).drew) (fun hS => ?_)
        clear hK
        try simp only [Act.put, List.setIfInBounds_toArray, List.set_cons_zero, List.set_cons_succ]
        obtain ⟨W5, hW5⟩ : ∃ W5, (wr.alloc (.cells #[.string d.name, .int .i64 d.v, .int .i64 d.p, .int .i64 d.f] 62)).drew = W5 := ⟨_, rfl⟩
        rw [hW5] at T5 X8 hS ⊢
        clear hW5
        have hS5 := hS
        refine wpAnyH_ready (rs := [1]) (by kernel_rfl) (by simp) ?_
        refine AllReadyH.cons rfl (fun K hK => ?_) AllReadyH.nil
        have cq4 : W5.cell? ⟨qb, 3, none⟩ = some (.slice aL es.length cL) := row_cell (T5.tq) 3 _ rfl
        go_simp
        go_wp2_with (fail)
        refine hK.out _ _ (hS5) (fun hS => ?_)
        clear hK
        try simp only [Act.put, List.setIfInBounds_toArray, List.set_cons_zero, List.set_cons_succ]
        refine wpAnyH_ready (rs := [8]) (by kernel_rfl) (by simp) ?_
        refine AllReadyH.cons rfl (fun K hK => ?_) AllReadyH.nil
        refine wp_more_lstL (base := qb + 1) (v := (.slice aL es.length cL)) (k := es.length) (es := es) (ds := [d]) (ad := ⟨wr.heap.size, 0, none⟩) _ _ rfl rfl rfl T5.row rfl (fun j u hj => by rw [add_plain, Nat.zero_add]; exact row_cell X8 j u (by simpa [csL, LS.cells] using hj)) (by have := HEL.out; have := HK8.out; omega) (Nat.succ_le_of_lt (row_lt T5.tq)) ?_
        intro v8 w8 O8 g8 b8
        obtain ⟨a8, c8, rfl, _, _⟩ := own_lstL O8 (by simp)
        have T8 := T5.grown (es' := es ++ [d]) b8 (by rw [List.length_append]; exact O8)
        have b9 : Below (w.heap.size + 1) wr w8 := hS5.trans (b8.mono (by have := T.hq; omega))
        refine hK.out _ _ (b9) (fun hS => ?_)
        clear hK
        try simp only [Act.put, List.setIfInBounds_toArray, List.set_cons_zero, List.set_cons_succ]
        have cq8 : w8.cell? ⟨qb, 3, none⟩ = some (.slice aL es.length cL) := (b8.cell (p := ⟨qb, 3, none⟩) (Nat.lt_succ_self _)).trans (row_cell T5.tq 3 _ rfl)
        have fq8 : w8.frozen? ⟨qb, 3, none⟩ = false := row_free ((b8.block _ (Nat.lt_succ_self _)).trans T5.tq) 3
        refine anyH_take 9 37 (.pointer (some ⟨qb, 3, none⟩)) rfl rfl (by kernel_rfl) (by kernel_rfl) (by kernel_rfl) (fun _ _ _ h => h) (Or.inl ⟨by rfl, by intro w hSw; go_simp⟩) (hS) ?_
        try simp only [Act.put, List.setIfInBounds_toArray, List.set_cons_zero, List.set_cons_succ]
        refine wpAnyH_ready (rs := [10]) (by kernel_rfl) (by simp) ?_
        refine AllReadyH.cons rfl (fun K hK => ?_) AllReadyH.nil
        go_simp
        go_wp2_with (fail)
        refine hK.out _ _ (b9.setCell (p := ⟨qb, 3, none⟩) (by show w.heap.size + 1 ≤ qb; have := T.hq; omega) _) (fun hS => ?_)
        clear hK
        try simp only [Act.put, List.setIfInBounds_toArray, List.set_cons_zero, List.set_cons_succ]
        refine wpAnyH_done (by kernel_rfl) ?_ _
        have HEQ : Hid (es ++ [d] = x.ls.take (i + 1)) := by show _ = _; rw [HES.out, ← HDD.out]; exact (take_next (HI.out)).symm
        clear kc3 krow c03 cq3 fq3 hnm hl2 hiI hri cq8 fq8
        go_wp2
        go_roundg (gk - 1)
        case measure => have := HIK.out; omega
        case rel => exact ⟨i + 1, _, _, by first | rfl | go_num, by have := HIK.out; omega, HEQ.out, T8⟩
    case neg =>
      have hik : i = k := by omega
      subst hik
      clear hi hgk
      have hiI : (i : Int) < (x.ls.length : Int) := by have := HKL.out; omega
      have hwr : IntKind.i64.wrap ((i : Int) + 1) = ((i + 1 : Nat) : Int) := by rw [IntKind.wrap_i64]; have := HK8.out; have := HKL.out; omega
      obtain ⟨g, off, rfl, hg, hd, hri0⟩ := RdL.at R i HKL.out
      have hri := range_later hri0 hg T.below
      have hl := HAT.out
      have he := HEQK.out
      obtain ⟨d, hgi⟩ : ∃ d, x.ls.getD i LS.z = d := ⟨_, rfl⟩
      rw [hgi] at hri hl he
      clear hgi hri0 hd
      have hnm := LS.name_cell hri
      have hl2 : Op.bytesLess d.name.toList name.toList = false := hl
      have he2 : (d.name.toList == name.toList) = true := he
      clear hl he
      go_wp2_with (first
        | ((with_reducible show wpList _ _ _ (Oper.mk _ (Op.load 50 _) _ _ _ _ :: _) _ _); refine wpList_yieldg (by rfl) _ (exec_load42 rfl (w.heap.size + 1) v p f rfl T.t1) ?_)
        | ((with_reducible show wpList _ _ _ (Oper.mk _ (Op.binOp .neq 50 _ _ 50) _ _ _ _ :: _) _ _); refine wpList_yieldg (by rfl) _ (exec_neq42 rfl v p f 0 0 0 rfl rfl _) ?_; rw [hzz])
        | ((with_reducible show wpList _ _ _ (Oper.mk _ (Op.call { callee := Callee.builtin Builtin.append, args := #[Operand.tmp 74, Operand.tmp 78], argTypes := #[41, 41] }) _ _ _ _ :: _) _ _); go_must (have T5 := T.later ((Below.refl _ _).alloc (Nat.le_refl _) (.cells #[.string name, .int .i64 v, .int .i64 p, .int .i64 f] 62)); have X8 := World.alloc_heap_new wr (.cells #[.string name, .int .i64 v, .int .i64 p, .int .i64 f] 62); refine wpList_more_lstL (base := qb + 1) (v := (.slice aL es.length cL)) (k := es.length) (es := es) (ds := [⟨name, v, p, f⟩]) (ad := ⟨wr.heap.size, 0, none⟩) rfl _ _ rfl rfl rfl T5.row rfl (fun j u hj => by rw [add_plain, Nat.zero_add]; exact row_cell X8 j u (by simpa [csL, LS.cells] using hj)) (by have := HEL.out; have := HK8.out; omega) (Nat.succ_le_of_lt (row_lt T5.tq)) ?_; intro v8 w8 O8 g8 b8; obtain ⟨a8, c8, rfl, _, _⟩ := own_lstL O8 (by simp); have T8 := T5.grown (es' := es ++ [⟨name, v, p, f⟩]) b8 (by rw [List.length_append]; exact O8); have cq8 : w8.cell? ⟨qb, 3, none⟩ = some (.slice aL es.length cL) := (b8.cell (p := ⟨qb, 3, none⟩) (Nat.lt_succ_self _)).trans (row_cell T5.tq 3 _ rfl); have fq8 : w8.frozen? ⟨qb, 3, none⟩ = false := row_free ((b8.block _ (Nat.lt_succ_self _)).trans T5.tq) 3))
        | fail)
      obtain ⟨wt, hwt⟩ : ∃ wt, (w8.setCell ⟨qb, 3, none⟩ (.slice a8 (es.length + 1) c8)) = wt := ⟨_, rfl⟩
      rw [hwt] at T8 ⊢
      clear hwt T c03 cq3 fq3 hnm hl2 he2 hri T5 X8 O8 g8 b8 cq8 fq8
      have c03 : wt.cell? ⟨w.heap.size, 3, none⟩ = some (.slice (some ⟨g, off, none⟩) x.ls.length c) := row_cell T8.t0 3 _ rfl
      have cq3 : wt.cell? ⟨qb, 3, none⟩ = some (.slice a8 (es.length + 1) c8) := row_cell T8.tq 3 _ rfl
      have kc3 : ∀ X, Below (w.heap.size + 1) wt X → X.cell? ⟨w.heap.size, 3, none⟩ = some (.slice (some ⟨g, off, none⟩) x.ls.length c) := fun X b => (b.cell (p := ⟨w.heap.size, 3, none⟩) (Nat.lt_succ_self _)).trans c03
      obtain ⟨a9, h9⟩ : ∃ a9, (if c = (i + 1) then (some ⟨g, off, none⟩) else ((some ⟨g, off, none⟩) : Option Addr).map (·.add ((i + 1) * 4))) = a9 := ⟨_, rfl⟩
      have R9 := RdL.from (RdL.below R T8.below) (i + 1) (by have := HPL.out; have := HKL.out; omega)
      rw [h9] at R9
      have H9 : Hid ((if c = (i + 1) then (some ⟨g, off, none⟩) else ((some ⟨g, off, none⟩) : Option Addr).map (·.add ((i + 1) * 4))) = a9) := h9
      have HK9 : Hid ((i + 1) ≤ x.ls.length) := by have := HPL.out; have := HKL.out; show _ ≤ _; omega
      clear h9
      refine wp_region_any (by kernel_rfl) ?_
      change wpAny _ _ _ _ _ _ _ (World.drew _)
      refine wpAny_narrow (fun W' => Below (w.heap.size + 1) wt W') _ _ _ _ ?_
      refine anyH_take 0 84 (.pointer (some ⟨qb, 3, none⟩)) rfl rfl (by kernel_rfl) (by kernel_rfl) (by kernel_rfl) (fun _ _ _ h => h) (Or.inl ⟨by rfl, by intro w hSw; go_simp⟩) ((Below.refl _ _).drew) ?_
      try simp only [Act.put, List.setIfInBounds_toArray, List.set_cons_zero, List.set_cons_succ]
      refine anyH_take 2 86 (.pointer (some ⟨w.heap.size, 3, none⟩)) rfl rfl (by kernel_rfl) (by kernel_rfl) (by kernel_rfl) (fun _ _ _ h => h) (Or.inl ⟨by rfl, by intro w hSw; go_simp⟩) ((Below.refl _ _).drew) ?_
      try simp only [Act.put, List.setIfInBounds_toArray, List.set_cons_zero, List.set_cons_succ]
      refine anyH_take 3 87 (.slice (some ⟨g, off, none⟩) x.ls.length c) rfl rfl (by kernel_rfl) (by kernel_rfl) (by kernel_rfl) (fun _ _ _ h => h) (Or.inl ⟨by rfl, by intro w hSw; have s1 := kc3 _ hSw; go_simp⟩) ((Below.refl _ _).drew) ?_
      try simp only [Act.put, List.setIfInBounds_toArray, List.set_cons_zero, List.set_cons_succ]
      refine anyH_take 4 88 (.int .i64 (((i + 1) : Nat) : Int)) rfl rfl (by kernel_rfl) (by kernel_rfl) (by kernel_rfl) (fun _ _ _ h => h) (Or.inl ⟨by rfl, by intro w hSw; go_simp⟩) ((Below.refl _ _).drew) ?_
      try simp only [Act.put, List.setIfInBounds_toArray, List.set_cons_zero, List.set_cons_succ]
      refine anyH_take 5 89 (.slice a9 (x.ls.length - (i + 1)) (c - (i + 1))) rfl rfl (by kernel_rfl) (by kernel_rfl) (by kernel_rfl) (fun _ _ _ h => h) (Or.inl ⟨by rfl, fun X hSw => (by rw [← H9.out]; exact exec_fromL rfl rfl rfl HK9.out)⟩) ((Below.refl _ _).drew) ?_
      try simp only [Act.put, List.setIfInBounds_toArray, List.set_cons_zero, List.set_cons_succ]
      refine wpAnyH_ready (rs := [1]) (by kernel_rfl) (by simp) ?_
      refine AllReadyH.cons rfl (fun K hK => ?_) AllReadyH.nil
      go_simp
      go_wp2_with (fail)
      refine hK.out _ _ ((Below.refl _ _).drew) (fun hS => ?_)
      clear hK
      try simp only [Act.put, List.setIfInBounds_toArray, List.set_cons_zero, List.set_cons_succ]
      refine wpAnyH_ready (rs := [6]) (by kernel_rfl) (by simp) ?_
      refine AllReadyH.cons rfl (fun K hK => ?_) AllReadyH.nil
      refine wp_grow_lstL (base := qb + 1) (v := (.slice a8 (es.length + 1) c8)) (k := (es ++ [LS.mk name v p f]).length) (es := (es ++ [LS.mk name v p f])) (ds := x.ls.drop (i + 1)) _ _ rfl rfl rfl (T8.later (Below.refl _ _).drew).row (R9.below (Below.refl _ _).drew) (by have := HEL.out; have := HK8.out; have := HK9.out; rw [List.length_append]; simp only [List.length_singleton]; omega) (Nat.succ_le_of_lt (row_lt T8.tq)) ?_
      intro v10 w10 O10 g10 b10
      obtain ⟨aZ, cZ, rfl, _, NZ⟩ := own_lstL O10 (by rw [List.length_append, List.length_drop])
      obtain ⟨nZ, hnZ⟩ : ∃ n : Nat, (es ++ [LS.mk name v p f]).length + (x.ls.length - (i + 1)) = n := ⟨_, rfl⟩
      rw [hnZ] at O10 ⊢
      have T10 := (T8.later (Below.refl _ _).drew).grown (es' := (es ++ [LS.mk name v p f]) ++ x.ls.drop (i + 1)) b10 (by rw [List.length_append, List.length_drop, hnZ]; exact O10)
      have b9 : Below (w.heap.size + 1) wt w10 := ((Below.refl _ _).drew).trans (b10.mono (by have := T8.hq; omega))
      refine hK.out _ _ (b9) (fun hS => ?_)
      clear hK
      try simp only [Act.put, List.setIfInBounds_toArray, List.set_cons_zero, List.set_cons_succ]
      have cq8 : w10.cell? ⟨qb, 3, none⟩ = some (.slice a8 (es.length + 1) c8) := (b10.cell (p := ⟨qb, 3, none⟩) (Nat.lt_succ_self _)).trans (row_cell T8.tq 3 _ rfl)
      have fq8 : w10.frozen? ⟨qb, 3, none⟩ = false := row_free ((b10.block _ (Nat.lt_succ_self _)).trans T8.tq) 3
      refine anyH_take 7 91 (.pointer (some ⟨qb, 3, none⟩)) rfl rfl (by kernel_rfl) (by kernel_rfl) (by kernel_rfl) (fun _ _ _ h => h) (Or.inl ⟨by rfl, by intro w hSw; go_simp⟩) (hS) ?_
      try simp only [Act.put, List.setIfInBounds_toArray, List.set_cons_zero, List.set_cons_succ]
      refine wpAnyH_ready (rs := [8]) (by kernel_rfl) (by simp) ?_
      refine AllReadyH.cons rfl (fun K hK => ?_) AllReadyH.nil
      go_simp
      go_wp2_with (fail)
      refine hK.out _ _ (b9.setCell (p := ⟨qb, 3, none⟩) (by show w.heap.size + 1 ≤ qb; have := T8.hq; omega) _) (fun hS => ?_)
      clear hK
      try simp only [Act.put, List.setIfInBounds_toArray, List.set_cons_zero, List.set_cons_succ]
      refine wpAnyH_done (by kernel_rfl) ?_ _
      obtain ⟨wz, hwz⟩ : ∃ wz, w10.setCell ⟨qb, 3, none⟩ (.slice aZ nZ cZ) = wz := ⟨_, rfl⟩
      rw [hwz] at T10 ⊢
      clear hwz cq8 fq8 c03 cq3 kc3
      obtain ⟨aY, cY, eY, LZ, NY⟩ := own_lstL T10.row rfl
      clear hnZ
      cases eY
      have hls : (es ++ [LS.mk name v p f]) ++ x.ls.drop (i + 1) = wrL name v p f x.ls := by
        rw [HWR.out, HES.out]
      have QZ := T10.tq
      have hqZ := T10.hq
      go_wp2_with (first
        | ((with_reducible show wpList _ _ _ (Oper.mk _ (Op.load 43 _) _ _ _ _ :: _) _ _); refine wpList_load24 rfl _ rfl qb 0 ⟨x.peer, x.boot, x.life, aZ, ((es ++ [LS.mk name v p f]) ++ x.ls.drop (i + 1)).length, cZ, x.pend, x.miss⟩ rfl (range_rowH QZ) ?_)
        | ((with_reducible show wpList _ _ _ (Oper.mk _ (Op.store 43 _ _) _ _ _ _ :: _) _ _); refine wpList_store24row rfl _ _ rfl ⟨x.peer, x.boot, x.life, aZ, ((es ++ [LS.mk name v p f]) ++ x.ls.drop (i + 1)).length, cZ, x.pend, x.miss⟩ T10.t2 rfl rfl rfl ?_))
      refine bodyPost_ret (results_row1 rfl _ _ (w.heap.size + 2) _ rfl (load_24 (d := ⟨x.peer, x.boot, x.life, aZ, ((es ++ [LS.mk name v p f]) ++ x.ls.drop (i + 1)).length, cZ, x.pend, x.miss⟩) (setRow_heap _ _ _ _ _ _ T10.t2))) rfl ⟨aZ, cZ, ?_, ⟨?_, fun g off e => by have := NZ g off e; omega⟩, below_row T10.below (by omega) _⟩
      · rw [hls]; rfl
      · show LstL _ aZ (wrL name v p f x.ls).length cZ (wrL name v p f x.ls)
        rw [← hls]
        exact LZ.of_block fun g off e => setRow_other _ _ _ _ (by have := NZ g off e; omega)

end Go.Proofs.Ytcacocndcfbmaaa

namespace Go.Proofs.Ytcacocndcfbmaaa
open Go.ChangeShapes Go.WideShapes Go.ChangeAt Go.RowKit Go.Maps Go.Shelf
set_option linter.unusedVariables false
set_option linter.unusedSimpArgs false
attribute [local go_sem] Oper.semAt_some

set_option maxRecDepth 100000 in
set_option maxHeartbeats 8000000 in
theorem rwrite_az (x : HS) (a : Option Addr) (c : Nat) (name : ByteArray) (v p f : Int) (w : World) (R : RdO w x a c) (hn : x.ls.length + 1 ≤ 65536) (hz : zeroB v p f = true) (hh : hitN name x.ls = false) (hkl : posN name x.ls < x.ls.length) :
    Calls Try.prog 21 #[(x.on a c).val, .string name, rg v p f] w fun e w' => ∃ a' c', e = .returned ((x.wr name v p f).on a' c').val ∧ Own w.heap.size w' (x.wr name v p f) a' c' ∧ Below w.heap.size w w' := by
  have C0 : Bx w [.cells (x.on a c).cells.toArray 43, .cells #[.int .i64 v, .int .i64 p, .int .i64 f] 50, .cells z6 43] _ := (((Bx.nil w).add rfl (.cells (x.on a c).cells.toArray 43)).add (by simp) (.cells #[.int .i64 v, .int .i64 p, .int .i64 f] 50)).add (by simp) (.cells z6 43)
  have HOW := wr_doc name v p f x.ls
  have hlt : ∀ j, j < posN name x.ls → ltN (x.ls.getD j LS.z).name name = true := fun j hj => lt_of_pos (lt := fun y : LS => ltN y.name name) LS.z (l := x.ls) hj
  have hpl : posN name x.ls ≤ x.ls.length := pos_le _ _
  have hat : ltN (x.ls.getD (posN name x.ls) LS.z).name name = false := at_pos (lt := fun y : LS => ltN y.name name) LS.z (l := x.ls) hkl
  have heq := hit_no hh hkl
  rw [hh, hz] at HOW
  obtain ⟨k, hk⟩ : ∃ k : Nat, posN name x.ls = k := ⟨_, rfl⟩
  rw [hk] at HOW hlt hpl hkl hat heq
  have HLT : Hid (∀ j, j < k → ltN (x.ls.getD j LS.z).name name = true) := hlt
  have HPL : Hid (k ≤ x.ls.length) := hpl
  have HKL : Hid (k < x.ls.length) := hkl
  have HK8 : Hid (x.ls.length + 1 ≤ 65536) := hn
  have HWR : Hid (wrL name v p f x.ls = x.ls.take k ++ x.ls.drop k) := HOW
  have hzz : sameB v p f 0 0 0 = true := hz
  have HAT : Hid (ltN (x.ls.getD k LS.z).name name = false) := hat
  have HEQK : Hid (eqN (x.ls.getD k LS.z).name name = false) := heq
  clear hat heq
  clear HOW hlt hpl hkl hn hk hh hz
  rw [show (x.on a c).val = .agg #[.int .i64 x.peer, .int .i64 x.boot, .int .i64 x.life, .slice a x.ls.length c, .bool x.pend, .int .i64 x.miss] from rfl]
  go_enter Try.func21, Try.ntmps21
  go_wp2_with (first
    | ((with_reducible show wpList _ _ _ (Oper.mk _ (Op.load 43 _) _ _ _ _ :: _) _ _); refine wpList_load24 rfl _ rfl w.heap.size 0 (x.on a c) rfl (range_rowH (C0.at0 _ rfl)) ?_)
    | (go_at_call 33; refine (one_any x a c _ (RdL.below R C0.below)).mono ?_; rintro e w1 ⟨a1, c1, rfl, O1, b1⟩; dsimp only [HS.on, HR.val]; have T1 := Wt.start (C0.later b1)))
  clear O1 b1 C0
  obtain ⟨qb, hqb⟩ : ∃ qb : Nat, w1.heap.size = qb := ⟨_, rfl⟩
  rw [hqb] at T1
  simp only [hqb]
  clear hqb
  go_loopg [8] k (fun gk v8 wr => ∃ (i : Nat) (L : Value) (es : List LS), v8 = .int .i64 (i : Int) ∧ i + gk = k ∧ es = x.ls.take i ∧ Wt w x a c v p f qb L es wr)
  case atStart => exact ⟨0, _, [], by first | rfl | go_num, by omega, rfl, T1⟩
  case round =>
    obtain ⟨i, L, es, rfl, hgk, hes, T⟩ := hrel
    obtain ⟨aL, cL, rfl, _, _⟩ := own_lstL T.row rfl
    have HES : Hid (es = x.ls.take i) := hes
    have HEL : Hid (es.length ≤ x.ls.length) := by show _ ≤ _; rw [hes, List.length_take]; omega
    have c03 : wr.cell? ⟨w.heap.size, 3, none⟩ = some (.slice a x.ls.length c) := row_cell T.t0 3 _ rfl
    have cq3 : wr.cell? ⟨qb, 3, none⟩ = some (.slice aL es.length cL) := row_cell T.tq 3 _ rfl
    have fq3 : wr.frozen? ⟨qb, 3, none⟩ = false := row_free T.tq 3
    clear hes
    by_cases hi : i < k
    case pos =>
      have HI : Hid (i < x.ls.length) := by have := HPL.out; show _ < _; omega
      have HIK : Hid (i < k) := hi
      have hiI : (i : Int) < (x.ls.length : Int) := by have := HI.out; omega
      have hwr : IntKind.i64.wrap ((i : Int) + 1) = (i : Int) + 1 := by rw [IntKind.wrap_i64]; have := HK8.out; have := HI.out; omega
      obtain ⟨g, off, rfl, hg, hd, hri0⟩ := RdL.at R i HI.out
      have hri := range_later hri0 hg T.below
      have hl := HLT.out i hi
      obtain ⟨d, hgi⟩ : ∃ d, x.ls.getD i LS.z = d := ⟨_, rfl⟩
      have HDD : Hid (x.ls.getD i LS.z = d) := hgi
      rw [hgi] at hri hl
      clear hgi hri0 hd
      have hnm := LS.name_cell hri
      have hl2 : Op.bytesLess d.name.toList name.toList = true := hl
      have kc3 : ∀ X, Below (w.heap.size + 1) wr X → X.cell? ⟨w.heap.size, 3, none⟩ = some (.slice (some ⟨g, off, none⟩) x.ls.length c) := fun X b => (b.cell (p := ⟨w.heap.size, 3, none⟩) (Nat.lt_succ_self _)).trans c03
      have krow : ∀ X, Below (w.heap.size + 1) wr X → X.rangeAt g (off + i * 4) d.cells := fun X b j u hj => (b.cell (p := ⟨g, off + i * 4 + j, none⟩) (Nat.lt_succ_of_lt hg)).trans (hri j u hj)
      have T5 := T.later (((Below.refl _ _).alloc (Nat.le_refl _) (.cells #[.string d.name, .int .i64 d.v, .int .i64 d.p, .int .i64 d.f] 62)).drew)
      have X8 : (wr.alloc (.cells #[.string d.name, .int .i64 d.v, .int .i64 d.p, .int .i64 d.f] 62)).drew.heap[wr.heap.size]? = some (.cells d.cells.toArray 62 (0, 0)) := heap_new rfl
      clear hl hi
      go_wp2_with (fail)
      refine wp_region_any (by kernel_rfl) ?_
      change wpAny _ _ _ _ _ _ _ (World.drew _)
      refine wpAny_narrow (fun W' => Below (w.heap.size + 1) wr W') _ _ _ _ ?_
      refine anyH_take 0 28 (.pointer (some ⟨qb, 3, none⟩)) rfl rfl (by kernel_rfl) (by kernel_rfl) (by kernel_rfl) (fun _ _ _ h => h) (Or.inl ⟨by rfl, by intro w hSw; go_simp⟩) ((Below.refl _ _).drew) ?_
      try simp only [Act.put, List.setIfInBounds_toArray, List.set_cons_zero, List.set_cons_succ]
      refine anyH_take 2 30 (.pointer (some ⟨w.heap.size, 3, none⟩)) rfl rfl (by kernel_rfl) (by kernel_rfl) (by kernel_rfl) (fun _ _ _ h => h) (Or.inl ⟨by rfl, by intro w hSw; go_simp⟩) ((Below.refl _ _).drew) ?_
      try simp only [Act.put, List.setIfInBounds_toArray, List.set_cons_zero, List.set_cons_succ]
      refine anyH_take 3 31 (.slice (some ⟨g, off, none⟩) x.ls.length c) rfl rfl (by kernel_rfl) (by kernel_rfl) (by kernel_rfl) (fun _ _ _ h => h) (Or.inl ⟨by rfl, by intro w hSw; have s1 := kc3 _ hSw; go_simp⟩) ((Below.refl _ _).drew) ?_
      try simp only [Act.put, List.setIfInBounds_toArray, List.set_cons_zero, List.set_cons_succ]
      refine anyH_take 4 32 (.int .i64 (i : Int)) rfl rfl (by kernel_rfl) (by kernel_rfl) (by kernel_rfl) (fun _ _ _ h => h) (Or.inl ⟨by rfl, by intro w hSw; go_simp⟩) ((Below.refl _ _).drew) ?_
      try simp only [Act.put, List.setIfInBounds_toArray, List.set_cons_zero, List.set_cons_succ]
      refine anyH_take 5 33 (.pointer (some ⟨g, off + i * 4, none⟩)) rfl rfl (by kernel_rfl) (by kernel_rfl) (by kernel_rfl) (fun _ _ _ h => h) (Or.inl ⟨by rfl, by intro w hSw; go_simp⟩) ((Below.refl _ _).drew) ?_
      try simp only [Act.put, List.setIfInBounds_toArray, List.set_cons_zero, List.set_cons_succ]
      refine anyH_take 6 34 (d.val) rfl rfl (by kernel_rfl) (by kernel_rfl) (by kernel_rfl) (fun _ _ _ h => h) (Or.inl ⟨by rfl, fun X hSw => exec_load44 rfl g (off + i * 4) d rfl (krow X hSw)⟩) ((Below.refl _ _).drew) ?_
      try simp only [Act.put, List.setIfInBounds_toArray, List.set_cons_zero, List.set_cons_succ]
      refine wpAnyH_ready (rs := [1, 7]) (by kernel_rfl) (by simp) ?_
      refine AllReadyH.cons rfl (fun K hK => ?_) (AllReadyH.cons rfl (fun K hK => ?_) AllReadyH.nil)
      · go_simp
        go_wp2_with (fail)
        refine hK.out _ _ ((Below.refl _ _).drew) (fun hS => ?_)
        clear hK
        try simp only [Act.put, List.setIfInBounds_toArray, List.set_cons_zero, List.set_cons_succ]
        refine wpAnyH_ready (rs := [7]) (by kernel_rfl) (by simp) ?_
        refine AllReadyH.cons rfl (fun K hK => ?_) AllReadyH.nil
        dsimp only [LS.val]
        go_simp
        go_wp2_with (fail)
        refine hK.out _ _ (((Below.refl _ _).alloc (Nat.succ_le_of_lt (row_lt T.t0)) _).drew) (fun hS => ?_)
        clear hK
        try simp only [Act.put, List.setIfInBounds_toArray, List.set_cons_zero, List.set_cons_succ]
        obtain ⟨W5, hW5⟩ : ∃ W5, (wr.alloc (.cells #[.string d.name, .int .i64 d.v, .int .i64 d.p, .int .i64 d.f] 62)).drew = W5 := ⟨_, rfl⟩
        rw [hW5] at T5 X8 hS ⊢
        clear hW5
        have hS5 := hS
        refine wpAnyH_ready (rs := [8]) (by kernel_rfl) (by simp) ?_
        refine AllReadyH.cons rfl (fun K hK => ?_) AllReadyH.nil
        refine wp_more_lstL (base := qb + 1) (v := (.slice aL es.length cL)) (k := es.length) (es := es) (ds := [d]) (ad := ⟨wr.heap.size, 0, none⟩) _ _ rfl rfl rfl T5.row rfl (fun j u hj => by rw [add_plain, Nat.zero_add]; exact row_cell X8 j u (by simpa [csL, LS.cells] using hj)) (by have := HEL.out; have := HK8.out; omega) (Nat.succ_le_of_lt (row_lt T5.tq)) ?_
        intro v8 w8 O8 g8 b8
        obtain ⟨a8, c8, rfl, _, _⟩ := own_lstL O8 (by simp)
        have T8 := T5.grown (es' := es ++ [d]) b8 (by rw [List.length_append]; exact O8)
        have b9 : Below (w.heap.size + 1) wr w8 := hS5.trans (b8.mono (by have := T.hq; omega))
        refine hK.out _ _ (b9) (fun hS => ?_)
        clear hK
        try simp only [Act.put, List.setIfInBounds_toArray, List.set_cons_zero, List.set_cons_succ]
        have cq8 : w8.cell? ⟨qb, 3, none⟩ = some (.slice aL es.length cL) := (b8.cell (p := ⟨qb, 3, none⟩) (Nat.lt_succ_self _)).trans (row_cell T5.tq 3 _ rfl)
        have fq8 : w8.frozen? ⟨qb, 3, none⟩ = false := row_free ((b8.block _ (Nat.lt_succ_self _)).trans T5.tq) 3
        refine anyH_take 9 37 (.pointer (some ⟨qb, 3, none⟩)) rfl rfl (by kernel_rfl) (by kernel_rfl) (by kernel_rfl) (fun _ _ _ h => h) (Or.inl ⟨by rfl, by intro w hSw; go_simp⟩) (hS) ?_
        try simp only [Act.put, List.setIfInBounds_toArray, List.set_cons_zero, List.set_cons_succ]
        refine wpAnyH_ready (rs := [10]) (by kernel_rfl) (by simp) ?_
        refine AllReadyH.cons rfl (fun K hK => ?_) AllReadyH.nil
        go_simp
        go_wp2_with (fail)
        refine hK.out _ _ (b9.setCell (p := ⟨qb, 3, none⟩) (by show w.heap.size + 1 ≤ qb; have := T.hq; omega) _) (fun hS => ?_)
        clear hK
        try simp only [Act.put, List.setIfInBounds_toArray, List.set_cons_zero, List.set_cons_succ]
        refine wpAnyH_done (by kernel_rfl) ?_ _
        have HEQ : Hid (es ++ [d] = x.ls.take (i + 1)) := by show _ = _; rw [HES.out, ← HDD.out]; exact (take_next (HI.out)).symm
        clear kc3 krow c03 cq3 fq3 hnm hl2 hiI hri cq8 fq8
        go_wp2
        go_roundg (gk - 1)
        case measure => have := HIK.out; omega
        case rel => exact ⟨i + 1, _, _, by first | rfl | go_num, by have := HIK.out; omega, HEQ.out, T8⟩
      · dsimp only [LS.val]
        go_simp
        go_wp2_with (fail)
        refine hK.out _ _ (((Below.refl _ _).alloc (Nat.succ_le_of_lt (row_lt T.t0)) _).drew) (fun hS => ?_)
        clear hK
        try simp only [Act.put, List.setIfInBounds_toArray, List.set_cons_zero, List.set_cons_succ]
        obtain ⟨W5, hW5⟩ : ∃ W5, (wr.alloc (.cells #[.string d.name, .int .i64 d.v, .int .i64 d.p, .int .i64 d.f] 62)).drew = W5 := ⟨_, rfl⟩
        rw [hW5] at T5 X8 hS ⊢
        clear hW5
        have hS5 := hS
        refine wpAnyH_ready (rs := [1]) (by kernel_rfl) (by simp) ?_
        refine AllReadyH.cons rfl (fun K hK => ?_) AllReadyH.nil
        have cq4 : W5.cell? ⟨qb, 3, none⟩ = some (.slice aL es.length cL) := row_cell (T5.tq) 3 _ rfl
        go_simp
        go_wp2_with (fail)
        refine hK.out _ _ (hS5) (fun hS => ?_)
        clear hK
        try simp only [Act.put, List.setIfInBounds_toArray, List.set_cons_zero, List.set_cons_succ]
        refine wpAnyH_ready (rs := [8]) (by kernel_rfl) (by simp) ?_
        refine AllReadyH.cons rfl (fun K hK => ?_) AllReadyH.nil
        refine wp_more_lstL (base := qb + 1) (v := (.slice aL es.length cL)) (k := es.length) (es := es) (ds := [d]) (ad := ⟨wr.heap.size, 0, none⟩) _ _ rfl rfl rfl T5.row rfl (fun j u hj => by rw [add_plain, Nat.zero_add]; exact row_cell X8 j u (by simpa [csL, LS.cells] using hj)) (by have := HEL.out; have := HK8.out; omega) (Nat.succ_le_of_lt (row_lt T5.tq)) ?_
        intro v8 w8 O8 g8 b8
        obtain ⟨a8, c8, rfl, _, _⟩ := own_lstL O8 (by simp)
        have T8 := T5.grown (es' := es ++ [d]) b8 (by rw [List.length_append]; exact O8)
        have b9 : Below (w.heap.size + 1) wr w8 := hS5.trans (b8.mono (by have := T.hq; omega))
        refine hK.out _ _ (b9) (fun hS => ?_)
        clear hK
        try simp only [Act.put, List.setIfInBounds_toArray, List.set_cons_zero, List.set_cons_succ]
        have cq8 : w8.cell? ⟨qb, 3, none⟩ = some (.slice aL es.length cL) := (b8.cell (p := ⟨qb, 3, none⟩) (Nat.lt_succ_self _)).trans (row_cell T5.tq 3 _ rfl)
        have fq8 : w8.frozen? ⟨qb, 3, none⟩ = false := row_free ((b8.block _ (Nat.lt_succ_self _)).trans T5.tq) 3
        refine anyH_take 9 37 (.pointer (some ⟨qb, 3, none⟩)) rfl rfl (by kernel_rfl) (by kernel_rfl) (by kernel_rfl) (fun _ _ _ h => h) (Or.inl ⟨by rfl, by intro w hSw; go_simp⟩) (hS) ?_
        try simp only [Act.put, List.setIfInBounds_toArray, List.set_cons_zero, List.set_cons_succ]
        refine wpAnyH_ready (rs := [10]) (by kernel_rfl) (by simp) ?_
        refine AllReadyH.cons rfl (fun K hK => ?_) AllReadyH.nil
        go_simp
        go_wp2_with (fail)
        refine hK.out _ _ (b9.setCell (p := ⟨qb, 3, none⟩) (by show w.heap.size + 1 ≤ qb; have := T.hq; omega) _) (fun hS => ?_)
        clear hK
        try simp only [Act.put, List.setIfInBounds_toArray, List.set_cons_zero, List.set_cons_succ]
        refine wpAnyH_done (by kernel_rfl) ?_ _
        have HEQ : Hid (es ++ [d] = x.ls.take (i + 1)) := by show _ = _; rw [HES.out, ← HDD.out]; exact (take_next (HI.out)).symm
        clear kc3 krow c03 cq3 fq3 hnm hl2 hiI hri cq8 fq8
        go_wp2
        go_roundg (gk - 1)
        case measure => have := HIK.out; omega
        case rel => exact ⟨i + 1, _, _, by first | rfl | go_num, by have := HIK.out; omega, HEQ.out, T8⟩
    case neg =>
      have hik : i = k := by omega
      subst hik
      clear hi hgk
      have hiI : (i : Int) < (x.ls.length : Int) := by have := HKL.out; omega
      have hwr : IntKind.i64.wrap ((i : Int) + 1) = ((i + 1 : Nat) : Int) := by rw [IntKind.wrap_i64]; have := HK8.out; have := HKL.out; omega
      obtain ⟨g, off, rfl, hg, hd, hri0⟩ := RdL.at R i HKL.out
      have hri := range_later hri0 hg T.below
      have hl := HAT.out
      have he := HEQK.out
      obtain ⟨d, hgi⟩ : ∃ d, x.ls.getD i LS.z = d := ⟨_, rfl⟩
      rw [hgi] at hri hl he
      clear hgi hri0 hd
      have hnm := LS.name_cell hri
      have hl2 : Op.bytesLess d.name.toList name.toList = false := hl
      have he2 : (d.name.toList == name.toList) = false := he
      clear hl he
      go_wp2_with (first
        | ((with_reducible show wpList _ _ _ (Oper.mk _ (Op.load 50 _) _ _ _ _ :: _) _ _); refine wpList_yieldg (by rfl) _ (exec_load42 rfl (w.heap.size + 1) v p f rfl T.t1) ?_)
        | ((with_reducible show wpList _ _ _ (Oper.mk _ (Op.binOp .neq 50 _ _ 50) _ _ _ _ :: _) _ _); refine wpList_yieldg (by rfl) _ (exec_neq42 rfl v p f 0 0 0 rfl rfl _) ?_; rw [hzz])
        | fail)
      have T8 := T
      obtain ⟨wt, hwt⟩ : ∃ wt, wr = wt := ⟨_, rfl⟩
      rw [hwt] at T8 ⊢
      clear hwt T c03 cq3 fq3 hnm hl2 he2 hri
      have c03 : wt.cell? ⟨w.heap.size, 3, none⟩ = some (.slice (some ⟨g, off, none⟩) x.ls.length c) := row_cell T8.t0 3 _ rfl
      have cq3 : wt.cell? ⟨qb, 3, none⟩ = some (.slice aL es.length cL) := row_cell T8.tq 3 _ rfl
      have kc3 : ∀ X, Below (w.heap.size + 1) wt X → X.cell? ⟨w.heap.size, 3, none⟩ = some (.slice (some ⟨g, off, none⟩) x.ls.length c) := fun X b => (b.cell (p := ⟨w.heap.size, 3, none⟩) (Nat.lt_succ_self _)).trans c03
      obtain ⟨a9, h9⟩ : ∃ a9, (if c = i then (some ⟨g, off, none⟩) else ((some ⟨g, off, none⟩) : Option Addr).map (·.add (i * 4))) = a9 := ⟨_, rfl⟩
      have R9 := RdL.from (RdL.below R T8.below) i (by have := HPL.out; have := HKL.out; omega)
      rw [h9] at R9
      have H9 : Hid ((if c = i then (some ⟨g, off, none⟩) else ((some ⟨g, off, none⟩) : Option Addr).map (·.add (i * 4))) = a9) := h9
      have HK9 : Hid (i ≤ x.ls.length) := by have := HPL.out; have := HKL.out; show _ ≤ _; omega
      clear h9
      refine wp_region_any (by kernel_rfl) ?_
      change wpAny _ _ _ _ _ _ _ (World.drew _)
      refine wpAny_narrow (fun W' => Below (w.heap.size + 1) wt W') _ _ _ _ ?_
      refine anyH_take 0 84 (.pointer (some ⟨qb, 3, none⟩)) rfl rfl (by kernel_rfl) (by kernel_rfl) (by kernel_rfl) (fun _ _ _ h => h) (Or.inl ⟨by rfl, by intro w hSw; go_simp⟩) ((Below.refl _ _).drew) ?_
      try simp only [Act.put, List.setIfInBounds_toArray, List.set_cons_zero, List.set_cons_succ]
      refine anyH_take 2 86 (.pointer (some ⟨w.heap.size, 3, none⟩)) rfl rfl (by kernel_rfl) (by kernel_rfl) (by kernel_rfl) (fun _ _ _ h => h) (Or.inl ⟨by rfl, by intro w hSw; go_simp⟩) ((Below.refl _ _).drew) ?_
      try simp only [Act.put, List.setIfInBounds_toArray, List.set_cons_zero, List.set_cons_succ]
      refine anyH_take 3 87 (.slice (some ⟨g, off, none⟩) x.ls.length c) rfl rfl (by kernel_rfl) (by kernel_rfl) (by kernel_rfl) (fun _ _ _ h => h) (Or.inl ⟨by rfl, by intro w hSw; have s1 := kc3 _ hSw; go_simp⟩) ((Below.refl _ _).drew) ?_
      try simp only [Act.put, List.setIfInBounds_toArray, List.set_cons_zero, List.set_cons_succ]
      refine anyH_take 4 88 (.int .i64 ((i : Nat) : Int)) rfl rfl (by kernel_rfl) (by kernel_rfl) (by kernel_rfl) (fun _ _ _ h => h) (Or.inl ⟨by rfl, by intro w hSw; go_simp⟩) ((Below.refl _ _).drew) ?_
      try simp only [Act.put, List.setIfInBounds_toArray, List.set_cons_zero, List.set_cons_succ]
      refine anyH_take 5 89 (.slice a9 (x.ls.length - i) (c - i)) rfl rfl (by kernel_rfl) (by kernel_rfl) (by kernel_rfl) (fun _ _ _ h => h) (Or.inl ⟨by rfl, fun X hSw => (by rw [← H9.out]; exact exec_fromL rfl rfl rfl HK9.out)⟩) ((Below.refl _ _).drew) ?_
      try simp only [Act.put, List.setIfInBounds_toArray, List.set_cons_zero, List.set_cons_succ]
      refine wpAnyH_ready (rs := [1]) (by kernel_rfl) (by simp) ?_
      refine AllReadyH.cons rfl (fun K hK => ?_) AllReadyH.nil
      go_simp
      go_wp2_with (fail)
      refine hK.out _ _ ((Below.refl _ _).drew) (fun hS => ?_)
      clear hK
      try simp only [Act.put, List.setIfInBounds_toArray, List.set_cons_zero, List.set_cons_succ]
      refine wpAnyH_ready (rs := [6]) (by kernel_rfl) (by simp) ?_
      refine AllReadyH.cons rfl (fun K hK => ?_) AllReadyH.nil
      refine wp_grow_lstL (base := qb + 1) (v := (.slice aL es.length cL)) (k := es.length) (es := es) (ds := x.ls.drop i) _ _ rfl rfl rfl (T8.later (Below.refl _ _).drew).row (R9.below (Below.refl _ _).drew) (by have := HEL.out; have := HK8.out; have := HK9.out; omega) (Nat.succ_le_of_lt (row_lt T8.tq)) ?_
      intro v10 w10 O10 g10 b10
      obtain ⟨aZ, cZ, rfl, _, NZ⟩ := own_lstL O10 (by rw [List.length_append, List.length_drop])
      obtain ⟨nZ, hnZ⟩ : ∃ n : Nat, es.length + (x.ls.length - i) = n := ⟨_, rfl⟩
      rw [hnZ] at O10 ⊢
      have T10 := (T8.later (Below.refl _ _).drew).grown (es' := es ++ x.ls.drop i) b10 (by rw [List.length_append, List.length_drop, hnZ]; exact O10)
      have b9 : Below (w.heap.size + 1) wt w10 := ((Below.refl _ _).drew).trans (b10.mono (by have := T8.hq; omega))
      refine hK.out _ _ (b9) (fun hS => ?_)
      clear hK
      try simp only [Act.put, List.setIfInBounds_toArray, List.set_cons_zero, List.set_cons_succ]
      have cq8 : w10.cell? ⟨qb, 3, none⟩ = some (.slice aL es.length cL) := (b10.cell (p := ⟨qb, 3, none⟩) (Nat.lt_succ_self _)).trans (row_cell T8.tq 3 _ rfl)
      have fq8 : w10.frozen? ⟨qb, 3, none⟩ = false := row_free ((b10.block _ (Nat.lt_succ_self _)).trans T8.tq) 3
      refine anyH_take 7 91 (.pointer (some ⟨qb, 3, none⟩)) rfl rfl (by kernel_rfl) (by kernel_rfl) (by kernel_rfl) (fun _ _ _ h => h) (Or.inl ⟨by rfl, by intro w hSw; go_simp⟩) (hS) ?_
      try simp only [Act.put, List.setIfInBounds_toArray, List.set_cons_zero, List.set_cons_succ]
      refine wpAnyH_ready (rs := [8]) (by kernel_rfl) (by simp) ?_
      refine AllReadyH.cons rfl (fun K hK => ?_) AllReadyH.nil
      go_simp
      go_wp2_with (fail)
      refine hK.out _ _ (b9.setCell (p := ⟨qb, 3, none⟩) (by show w.heap.size + 1 ≤ qb; have := T8.hq; omega) _) (fun hS => ?_)
      clear hK
      try simp only [Act.put, List.setIfInBounds_toArray, List.set_cons_zero, List.set_cons_succ]
      refine wpAnyH_done (by kernel_rfl) ?_ _
      obtain ⟨wz, hwz⟩ : ∃ wz, w10.setCell ⟨qb, 3, none⟩ (.slice aZ nZ cZ) = wz := ⟨_, rfl⟩
      rw [hwz] at T10 ⊢
      clear hwz cq8 fq8 c03 cq3 kc3
      obtain ⟨aY, cY, eY, LZ, NY⟩ := own_lstL T10.row rfl
      clear hnZ
      cases eY
      have hls : es ++ x.ls.drop i = wrL name v p f x.ls := by
        rw [HWR.out, HES.out]
      have QZ := T10.tq
      have hqZ := T10.hq
      go_wp2_with (first
        | ((with_reducible show wpList _ _ _ (Oper.mk _ (Op.load 43 _) _ _ _ _ :: _) _ _); refine wpList_load24 rfl _ rfl qb 0 ⟨x.peer, x.boot, x.life, aZ, (es ++ x.ls.drop i).length, cZ, x.pend, x.miss⟩ rfl (range_rowH QZ) ?_)
        | ((with_reducible show wpList _ _ _ (Oper.mk _ (Op.store 43 _ _) _ _ _ _ :: _) _ _); refine wpList_store24row rfl _ _ rfl ⟨x.peer, x.boot, x.life, aZ, (es ++ x.ls.drop i).length, cZ, x.pend, x.miss⟩ T10.t2 rfl rfl rfl ?_))
      refine bodyPost_ret (results_row1 rfl _ _ (w.heap.size + 2) _ rfl (load_24 (d := ⟨x.peer, x.boot, x.life, aZ, (es ++ x.ls.drop i).length, cZ, x.pend, x.miss⟩) (setRow_heap _ _ _ _ _ _ T10.t2))) rfl ⟨aZ, cZ, ?_, ⟨?_, fun g off e => by have := NZ g off e; omega⟩, below_row T10.below (by omega) _⟩
      · rw [hls]; rfl
      · show LstL _ aZ (wrL name v p f x.ls).length cZ (wrL name v p f x.ls)
        rw [← hls]
        exact LZ.of_block fun g off e => setRow_other _ _ _ _ (by have := NZ g off e; omega)

set_option maxRecDepth 100000 in
set_option maxHeartbeats 8000000 in
theorem rwrite_bz (x : HS) (a : Option Addr) (c : Nat) (name : ByteArray) (v p f : Int) (w : World) (R : RdO w x a c) (hn : x.ls.length + 1 ≤ 65536) (hz : zeroB v p f = true) (hh : hitN name x.ls = false) (hkl : ¬ posN name x.ls < x.ls.length) :
    Calls Try.prog 21 #[(x.on a c).val, .string name, rg v p f] w fun e w' => ∃ a' c', e = .returned ((x.wr name v p f).on a' c').val ∧ Own w.heap.size w' (x.wr name v p f) a' c' ∧ Below w.heap.size w w' := by
  have C0 : Bx w [.cells (x.on a c).cells.toArray 43, .cells #[.int .i64 v, .int .i64 p, .int .i64 f] 50, .cells z6 43] _ := (((Bx.nil w).add rfl (.cells (x.on a c).cells.toArray 43)).add (by simp) (.cells #[.int .i64 v, .int .i64 p, .int .i64 f] 50)).add (by simp) (.cells z6 43)
  have HOW := wr_doc name v p f x.ls
  have hlt : ∀ j, j < posN name x.ls → ltN (x.ls.getD j LS.z).name name = true := fun j hj => lt_of_pos (lt := fun y : LS => ltN y.name name) LS.z (l := x.ls) hj
  have hpl : posN name x.ls ≤ x.ls.length := pos_le _ _
  rw [hh, hz] at HOW
  obtain ⟨k, hk⟩ : ∃ k : Nat, posN name x.ls = k := ⟨_, rfl⟩
  rw [hk] at HOW hlt hpl hkl
  have HLT : Hid (∀ j, j < k → ltN (x.ls.getD j LS.z).name name = true) := hlt
  have HPL : Hid (k ≤ x.ls.length) := hpl
  have HKL : Hid (¬ k < x.ls.length) := hkl
  have HK8 : Hid (x.ls.length + 1 ≤ 65536) := hn
  have HWR : Hid (wrL name v p f x.ls = x.ls.take k ++ x.ls.drop k) := HOW
  have hzz : sameB v p f 0 0 0 = true := hz
  clear HOW hlt hpl hkl hn hk hh hz
  rw [show (x.on a c).val = .agg #[.int .i64 x.peer, .int .i64 x.boot, .int .i64 x.life, .slice a x.ls.length c, .bool x.pend, .int .i64 x.miss] from rfl]
  go_enter Try.func21, Try.ntmps21
  go_wp2_with (first
    | ((with_reducible show wpList _ _ _ (Oper.mk _ (Op.load 43 _) _ _ _ _ :: _) _ _); refine wpList_load24 rfl _ rfl w.heap.size 0 (x.on a c) rfl (range_rowH (C0.at0 _ rfl)) ?_)
    | (go_at_call 33; refine (one_any x a c _ (RdL.below R C0.below)).mono ?_; rintro e w1 ⟨a1, c1, rfl, O1, b1⟩; dsimp only [HS.on, HR.val]; have T1 := Wt.start (C0.later b1)))
  clear O1 b1 C0
  obtain ⟨qb, hqb⟩ : ∃ qb : Nat, w1.heap.size = qb := ⟨_, rfl⟩
  rw [hqb] at T1
  simp only [hqb]
  clear hqb
  go_loopg [8] k (fun gk v8 wr => ∃ (i : Nat) (L : Value) (es : List LS), v8 = .int .i64 (i : Int) ∧ i + gk = k ∧ es = x.ls.take i ∧ Wt w x a c v p f qb L es wr)
  case atStart => exact ⟨0, _, [], by first | rfl | go_num, by omega, rfl, T1⟩
  case round =>
    obtain ⟨i, L, es, rfl, hgk, hes, T⟩ := hrel
    obtain ⟨aL, cL, rfl, _, _⟩ := own_lstL T.row rfl
    have HES : Hid (es = x.ls.take i) := hes
    have HEL : Hid (es.length ≤ x.ls.length) := by show _ ≤ _; rw [hes, List.length_take]; omega
    have c03 : wr.cell? ⟨w.heap.size, 3, none⟩ = some (.slice a x.ls.length c) := row_cell T.t0 3 _ rfl
    have cq3 : wr.cell? ⟨qb, 3, none⟩ = some (.slice aL es.length cL) := row_cell T.tq 3 _ rfl
    have fq3 : wr.frozen? ⟨qb, 3, none⟩ = false := row_free T.tq 3
    clear hes
    by_cases hi : i < k
    case pos =>
      have HI : Hid (i < x.ls.length) := by have := HPL.out; show _ < _; omega
      have HIK : Hid (i < k) := hi
      have hiI : (i : Int) < (x.ls.length : Int) := by have := HI.out; omega
      have hwr : IntKind.i64.wrap ((i : Int) + 1) = (i : Int) + 1 := by rw [IntKind.wrap_i64]; have := HK8.out; have := HI.out; omega
      obtain ⟨g, off, rfl, hg, hd, hri0⟩ := RdL.at R i HI.out
      have hri := range_later hri0 hg T.below
      have hl := HLT.out i hi
      obtain ⟨d, hgi⟩ : ∃ d, x.ls.getD i LS.z = d := ⟨_, rfl⟩
      have HDD : Hid (x.ls.getD i LS.z = d) := hgi
      rw [hgi] at hri hl
      clear hgi hri0 hd
      have hnm := LS.name_cell hri
      have hl2 : Op.bytesLess d.name.toList name.toList = true := hl
      have kc3 : ∀ X, Below (w.heap.size + 1) wr X → X.cell? ⟨w.heap.size, 3, none⟩ = some (.slice (some ⟨g, off, none⟩) x.ls.length c) := fun X b => (b.cell (p := ⟨w.heap.size, 3, none⟩) (Nat.lt_succ_self _)).trans c03
      have krow : ∀ X, Below (w.heap.size + 1) wr X → X.rangeAt g (off + i * 4) d.cells := fun X b j u hj => (b.cell (p := ⟨g, off + i * 4 + j, none⟩) (Nat.lt_succ_of_lt hg)).trans (hri j u hj)
      have T5 := T.later (((Below.refl _ _).alloc (Nat.le_refl _) (.cells #[.string d.name, .int .i64 d.v, .int .i64 d.p, .int .i64 d.f] 62)).drew)
      have X8 : (wr.alloc (.cells #[.string d.name, .int .i64 d.v, .int .i64 d.p, .int .i64 d.f] 62)).drew.heap[wr.heap.size]? = some (.cells d.cells.toArray 62 (0, 0)) := heap_new rfl
      clear hl hi
      go_wp2_with (fail)
      refine wp_region_any (by kernel_rfl) ?_
      change wpAny _ _ _ _ _ _ _ (World.drew _)
      refine wpAny_narrow (fun W' => Below (w.heap.size + 1) wr W') _ _ _ _ ?_
      refine anyH_take 0 28 (.pointer (some ⟨qb, 3, none⟩)) rfl rfl (by kernel_rfl) (by kernel_rfl) (by kernel_rfl) (fun _ _ _ h => h) (Or.inl ⟨by rfl, by intro w hSw; go_simp⟩) ((Below.refl _ _).drew) ?_
      try simp only [Act.put, List.setIfInBounds_toArray, List.set_cons_zero, List.set_cons_succ]
      refine anyH_take 2 30 (.pointer (some ⟨w.heap.size, 3, none⟩)) rfl rfl (by kernel_rfl) (by kernel_rfl) (by kernel_rfl) (fun _ _ _ h => h) (Or.inl ⟨by rfl, by intro w hSw; go_simp⟩) ((Below.refl _ _).drew) ?_
      try simp only [Act.put, List.setIfInBounds_toArray, List.set_cons_zero, List.set_cons_succ]
      refine anyH_take 3 31 (.slice (some ⟨g, off, none⟩) x.ls.length c) rfl rfl (by kernel_rfl) (by kernel_rfl) (by kernel_rfl) (fun _ _ _ h => h) (Or.inl ⟨by rfl, by intro w hSw; have s1 := kc3 _ hSw; go_simp⟩) ((Below.refl _ _).drew) ?_
      try simp only [Act.put, List.setIfInBounds_toArray, List.set_cons_zero, List.set_cons_succ]
      refine anyH_take 4 32 (.int .i64 (i : Int)) rfl rfl (by kernel_rfl) (by kernel_rfl) (by kernel_rfl) (fun _ _ _ h => h) (Or.inl ⟨by rfl, by intro w hSw; go_simp⟩) ((Below.refl _ _).drew) ?_
      try simp only [Act.put, List.setIfInBounds_toArray, List.set_cons_zero, List.set_cons_succ]
      refine anyH_take 5 33 (.pointer (some ⟨g, off + i * 4, none⟩)) rfl rfl (by kernel_rfl) (by kernel_rfl) (by kernel_rfl) (fun _ _ _ h => h) (Or.inl ⟨by rfl, by intro w hSw; go_simp⟩) ((Below.refl _ _).drew) ?_
      try simp only [Act.put, List.setIfInBounds_toArray, List.set_cons_zero, List.set_cons_succ]
      refine anyH_take 6 34 (d.val) rfl rfl (by kernel_rfl) (by kernel_rfl) (by kernel_rfl) (fun _ _ _ h => h) (Or.inl ⟨by rfl, fun X hSw => exec_load44 rfl g (off + i * 4) d rfl (krow X hSw)⟩) ((Below.refl _ _).drew) ?_
      try simp only [Act.put, List.setIfInBounds_toArray, List.set_cons_zero, List.set_cons_succ]
      refine wpAnyH_ready (rs := [1, 7]) (by kernel_rfl) (by simp) ?_
      refine AllReadyH.cons rfl (fun K hK => ?_) (AllReadyH.cons rfl (fun K hK => ?_) AllReadyH.nil)
      · go_simp
        go_wp2_with (fail)
        refine hK.out _ _ ((Below.refl _ _).drew) (fun hS => ?_)
        clear hK
        try simp only [Act.put, List.setIfInBounds_toArray, List.set_cons_zero, List.set_cons_succ]
        refine wpAnyH_ready (rs := [7]) (by kernel_rfl) (by simp) ?_
        refine AllReadyH.cons rfl (fun K hK => ?_) AllReadyH.nil
        dsimp only [LS.val]
        go_simp
        go_wp2_with (fail)
        refine hK.out _ _ (((Below.refl _ _).alloc (Nat.succ_le_of_lt (row_lt T.t0)) _).drew) (fun hS => ?_)
        clear hK
        try simp only [Act.put, List.setIfInBounds_toArray, List.set_cons_zero, List.set_cons_succ]
        obtain ⟨W5, hW5⟩ : ∃ W5, (wr.alloc (.cells #[.string d.name, .int .i64 d.v, .int .i64 d.p, .int .i64 d.f] 62)).drew = W5 := ⟨_, rfl⟩
        rw [hW5] at T5 X8 hS ⊢
        clear hW5
        have hS5 := hS
        refine wpAnyH_ready (rs := [8]) (by kernel_rfl) (by simp) ?_
        refine AllReadyH.cons rfl (fun K hK => ?_) AllReadyH.nil
        refine wp_more_lstL (base := qb + 1) (v := (.slice aL es.length cL)) (k := es.length) (es := es) (ds := [d]) (ad := ⟨wr.heap.size, 0, none⟩) _ _ rfl rfl rfl T5.row rfl (fun j u hj => by rw [add_plain, Nat.zero_add]; exact row_cell X8 j u (by simpa [csL, LS.cells] using hj)) (by have := HEL.out; have := HK8.out; omega) (Nat.succ_le_of_lt (row_lt T5.tq)) ?_
        intro v8 w8 O8 g8 b8
        obtain ⟨a8, c8, rfl, _, _⟩ := own_lstL O8 (by simp)
        have T8 := T5.grown (es' := es ++ [d]) b8 (by rw [List.length_append]; exact O8)
        have b9 : Below (w.heap.size + 1) wr w8 := hS5.trans (b8.mono (by have := T.hq; omega))
        refine hK.out _ _ (b9) (fun hS => ?_)
        clear hK
        try simp only [Act.put, List.setIfInBounds_toArray, List.set_cons_zero, List.set_cons_succ]
        have cq8 : w8.cell? ⟨qb, 3, none⟩ = some (.slice aL es.length cL) := (b8.cell (p := ⟨qb, 3, none⟩) (Nat.lt_succ_self _)).trans (row_cell T5.tq 3 _ rfl)
        have fq8 : w8.frozen? ⟨qb, 3, none⟩ = false := row_free ((b8.block _ (Nat.lt_succ_self _)).trans T5.tq) 3
        refine anyH_take 9 37 (.pointer (some ⟨qb, 3, none⟩)) rfl rfl (by kernel_rfl) (by kernel_rfl) (by kernel_rfl) (fun _ _ _ h => h) (Or.inl ⟨by rfl, by intro w hSw; go_simp⟩) (hS) ?_
        try simp only [Act.put, List.setIfInBounds_toArray, List.set_cons_zero, List.set_cons_succ]
        refine wpAnyH_ready (rs := [10]) (by kernel_rfl) (by simp) ?_
        refine AllReadyH.cons rfl (fun K hK => ?_) AllReadyH.nil
        go_simp
        go_wp2_with (fail)
        refine hK.out _ _ (b9.setCell (p := ⟨qb, 3, none⟩) (by show w.heap.size + 1 ≤ qb; have := T.hq; omega) _) (fun hS => ?_)
        clear hK
        try simp only [Act.put, List.setIfInBounds_toArray, List.set_cons_zero, List.set_cons_succ]
        refine wpAnyH_done (by kernel_rfl) ?_ _
        have HEQ : Hid (es ++ [d] = x.ls.take (i + 1)) := by show _ = _; rw [HES.out, ← HDD.out]; exact (take_next (HI.out)).symm
        clear kc3 krow c03 cq3 fq3 hnm hl2 hiI hri cq8 fq8
        go_wp2
        go_roundg (gk - 1)
        case measure => have := HIK.out; omega
        case rel => exact ⟨i + 1, _, _, by first | rfl | go_num, by have := HIK.out; omega, HEQ.out, T8⟩
      · dsimp only [LS.val]
        go_simp
        go_wp2_with (fail)
        refine hK.out _ _ (((Below.refl _ _).alloc (Nat.succ_le_of_lt (row_lt T.t0)) _).drew) (fun hS => ?_)
        clear hK
        try simp only [Act.put, List.setIfInBounds_toArray, List.set_cons_zero, List.set_cons_succ]
        obtain ⟨W5, hW5⟩ : ∃ W5, (wr.alloc (.cells #[.string d.name, .int .i64 d.v, .int .i64 d.p, .int .i64 d.f] 62)).drew = W5 := ⟨_, rfl⟩
        rw [hW5] at T5 X8 hS ⊢
        clear hW5
        have hS5 := hS
        refine wpAnyH_ready (rs := [1]) (by kernel_rfl) (by simp) ?_
        refine AllReadyH.cons rfl (fun K hK => ?_) AllReadyH.nil
        have cq4 : W5.cell? ⟨qb, 3, none⟩ = some (.slice aL es.length cL) := row_cell (T5.tq) 3 _ rfl
        go_simp
        go_wp2_with (fail)
        refine hK.out _ _ (hS5) (fun hS => ?_)
        clear hK
        try simp only [Act.put, List.setIfInBounds_toArray, List.set_cons_zero, List.set_cons_succ]
        refine wpAnyH_ready (rs := [8]) (by kernel_rfl) (by simp) ?_
        refine AllReadyH.cons rfl (fun K hK => ?_) AllReadyH.nil
        refine wp_more_lstL (base := qb + 1) (v := (.slice aL es.length cL)) (k := es.length) (es := es) (ds := [d]) (ad := ⟨wr.heap.size, 0, none⟩) _ _ rfl rfl rfl T5.row rfl (fun j u hj => by rw [add_plain, Nat.zero_add]; exact row_cell X8 j u (by simpa [csL, LS.cells] using hj)) (by have := HEL.out; have := HK8.out; omega) (Nat.succ_le_of_lt (row_lt T5.tq)) ?_
        intro v8 w8 O8 g8 b8
        obtain ⟨a8, c8, rfl, _, _⟩ := own_lstL O8 (by simp)
        have T8 := T5.grown (es' := es ++ [d]) b8 (by rw [List.length_append]; exact O8)
        have b9 : Below (w.heap.size + 1) wr w8 := hS5.trans (b8.mono (by have := T.hq; omega))
        refine hK.out _ _ (b9) (fun hS => ?_)
        clear hK
        try simp only [Act.put, List.setIfInBounds_toArray, List.set_cons_zero, List.set_cons_succ]
        have cq8 : w8.cell? ⟨qb, 3, none⟩ = some (.slice aL es.length cL) := (b8.cell (p := ⟨qb, 3, none⟩) (Nat.lt_succ_self _)).trans (row_cell T5.tq 3 _ rfl)
        have fq8 : w8.frozen? ⟨qb, 3, none⟩ = false := row_free ((b8.block _ (Nat.lt_succ_self _)).trans T5.tq) 3
        refine anyH_take 9 37 (.pointer (some ⟨qb, 3, none⟩)) rfl rfl (by kernel_rfl) (by kernel_rfl) (by kernel_rfl) (fun _ _ _ h => h) (Or.inl ⟨by rfl, by intro w hSw; go_simp⟩) (hS) ?_
        try simp only [Act.put, List.setIfInBounds_toArray, List.set_cons_zero, List.set_cons_succ]
        refine wpAnyH_ready (rs := [10]) (by kernel_rfl) (by simp) ?_
        refine AllReadyH.cons rfl (fun K hK => ?_) AllReadyH.nil
        go_simp
        go_wp2_with (fail)
        refine hK.out _ _ (b9.setCell (p := ⟨qb, 3, none⟩) (by show w.heap.size + 1 ≤ qb; have := T.hq; omega) _) (fun hS => ?_)
        clear hK
        try simp only [Act.put, List.setIfInBounds_toArray, List.set_cons_zero, List.set_cons_succ]
        refine wpAnyH_done (by kernel_rfl) ?_ _
        have HEQ : Hid (es ++ [d] = x.ls.take (i + 1)) := by show _ = _; rw [HES.out, ← HDD.out]; exact (take_next (HI.out)).symm
        clear kc3 krow c03 cq3 fq3 hnm hl2 hiI hri cq8 fq8
        go_wp2
        go_roundg (gk - 1)
        case measure => have := HIK.out; omega
        case rel => exact ⟨i + 1, _, _, by first | rfl | go_num, by have := HIK.out; omega, HEQ.out, T8⟩
    case neg =>
      have hik : i = k := by omega
      subst hik
      clear hi hgk
      have hiI : ¬ (i : Int) < (x.ls.length : Int) := by have := HKL.out; omega
      go_wp2_with (first
        | ((with_reducible show wpList _ _ _ (Oper.mk _ (Op.load 50 _) _ _ _ _ :: _) _ _); refine wpList_yieldg (by rfl) _ (exec_load42 rfl (w.heap.size + 1) v p f rfl T.t1) ?_)
        | ((with_reducible show wpList _ _ _ (Oper.mk _ (Op.binOp .neq 50 _ _ 50) _ _ _ _ :: _) _ _); refine wpList_yieldg (by rfl) _ (exec_neq42 rfl v p f 0 0 0 rfl rfl _) ?_; rw [hzz])
        | fail)
      have T8 := T
      obtain ⟨wt, hwt⟩ : ∃ wt, wr = wt := ⟨_, rfl⟩
      rw [hwt] at T8 ⊢
      clear hwt T c03 cq3 fq3
      have c03 : wt.cell? ⟨w.heap.size, 3, none⟩ = some (.slice a x.ls.length c) := row_cell T8.t0 3 _ rfl
      have cq3 : wt.cell? ⟨qb, 3, none⟩ = some (.slice aL es.length cL) := row_cell T8.tq 3 _ rfl
      have kc3 : ∀ X, Below (w.heap.size + 1) wt X → X.cell? ⟨w.heap.size, 3, none⟩ = some (.slice a x.ls.length c) := fun X b => (b.cell (p := ⟨w.heap.size, 3, none⟩) (Nat.lt_succ_self _)).trans c03
      obtain ⟨a9, h9⟩ : ∃ a9, (if c = i then a else (a : Option Addr).map (·.add (i * 4))) = a9 := ⟨_, rfl⟩
      have R9 := RdL.from (RdL.below R T8.below) i (by have := HPL.out; omega)
      rw [h9] at R9
      have H9 : Hid ((if c = i then a else (a : Option Addr).map (·.add (i * 4))) = a9) := h9
      have HK9 : Hid (i ≤ x.ls.length) := by have := HPL.out; show _ ≤ _; omega
      clear h9
      refine wp_region_any (by kernel_rfl) ?_
      change wpAny _ _ _ _ _ _ _ (World.drew _)
      refine wpAny_narrow (fun W' => Below (w.heap.size + 1) wt W') _ _ _ _ ?_
      refine anyH_take 0 84 (.pointer (some ⟨qb, 3, none⟩)) rfl rfl (by kernel_rfl) (by kernel_rfl) (by kernel_rfl) (fun _ _ _ h => h) (Or.inl ⟨by rfl, by intro w hSw; go_simp⟩) ((Below.refl _ _).drew) ?_
      try simp only [Act.put, List.setIfInBounds_toArray, List.set_cons_zero, List.set_cons_succ]
      refine anyH_take 2 86 (.pointer (some ⟨w.heap.size, 3, none⟩)) rfl rfl (by kernel_rfl) (by kernel_rfl) (by kernel_rfl) (fun _ _ _ h => h) (Or.inl ⟨by rfl, by intro w hSw; go_simp⟩) ((Below.refl _ _).drew) ?_
      try simp only [Act.put, List.setIfInBounds_toArray, List.set_cons_zero, List.set_cons_succ]
      refine anyH_take 3 87 (.slice a x.ls.length c) rfl rfl (by kernel_rfl) (by kernel_rfl) (by kernel_rfl) (fun _ _ _ h => h) (Or.inl ⟨by rfl, by intro w hSw; have s1 := kc3 _ hSw; go_simp⟩) ((Below.refl _ _).drew) ?_
      try simp only [Act.put, List.setIfInBounds_toArray, List.set_cons_zero, List.set_cons_succ]
      refine anyH_take 4 88 (.int .i64 ((i : Nat) : Int)) rfl rfl (by kernel_rfl) (by kernel_rfl) (by kernel_rfl) (fun _ _ _ h => h) (Or.inl ⟨by rfl, by intro w hSw; go_simp⟩) ((Below.refl _ _).drew) ?_
      try simp only [Act.put, List.setIfInBounds_toArray, List.set_cons_zero, List.set_cons_succ]
      refine anyH_take 5 89 (.slice a9 (x.ls.length - i) (c - i)) rfl rfl (by kernel_rfl) (by kernel_rfl) (by kernel_rfl) (fun _ _ _ h => h) (Or.inl ⟨by rfl, fun X hSw => (by rw [← H9.out]; exact exec_fromL rfl rfl rfl HK9.out)⟩) ((Below.refl _ _).drew) ?_
      try simp only [Act.put, List.setIfInBounds_toArray, List.set_cons_zero, List.set_cons_succ]
      refine wpAnyH_ready (rs := [1]) (by kernel_rfl) (by simp) ?_
      refine AllReadyH.cons rfl (fun K hK => ?_) AllReadyH.nil
      go_simp
      go_wp2_with (fail)
      refine hK.out _ _ ((Below.refl _ _).drew) (fun hS => ?_)
      clear hK
      try simp only [Act.put, List.setIfInBounds_toArray, List.set_cons_zero, List.set_cons_succ]
      refine wpAnyH_ready (rs := [6]) (by kernel_rfl) (by simp) ?_
      refine AllReadyH.cons rfl (fun K hK => ?_) AllReadyH.nil
      refine wp_grow_lstL (base := qb + 1) (v := (.slice aL es.length cL)) (k := es.length) (es := es) (ds := x.ls.drop i) _ _ rfl rfl rfl (T8.later (Below.refl _ _).drew).row (R9.below (Below.refl _ _).drew) (by have := HEL.out; have := HK8.out; have := HK9.out; omega) (Nat.succ_le_of_lt (row_lt T8.tq)) ?_
      intro v10 w10 O10 g10 b10
      obtain ⟨aZ, cZ, rfl, _, NZ⟩ := own_lstL O10 (by rw [List.length_append, List.length_drop])
      obtain ⟨nZ, hnZ⟩ : ∃ n : Nat, es.length + (x.ls.length - i) = n := ⟨_, rfl⟩
      rw [hnZ] at O10 ⊢
      have T10 := (T8.later (Below.refl _ _).drew).grown (es' := es ++ x.ls.drop i) b10 (by rw [List.length_append, List.length_drop, hnZ]; exact O10)
      have b9 : Below (w.heap.size + 1) wt w10 := ((Below.refl _ _).drew).trans (b10.mono (by have := T8.hq; omega))
      refine hK.out _ _ (b9) (fun hS => ?_)
      clear hK
      try simp only [Act.put, List.setIfInBounds_toArray, List.set_cons_zero, List.set_cons_succ]
      have cq8 : w10.cell? ⟨qb, 3, none⟩ = some (.slice aL es.length cL) := (b10.cell (p := ⟨qb, 3, none⟩) (Nat.lt_succ_self _)).trans (row_cell T8.tq 3 _ rfl)
      have fq8 : w10.frozen? ⟨qb, 3, none⟩ = false := row_free ((b10.block _ (Nat.lt_succ_self _)).trans T8.tq) 3
      refine anyH_take 7 91 (.pointer (some ⟨qb, 3, none⟩)) rfl rfl (by kernel_rfl) (by kernel_rfl) (by kernel_rfl) (fun _ _ _ h => h) (Or.inl ⟨by rfl, by intro w hSw; go_simp⟩) (hS) ?_
      try simp only [Act.put, List.setIfInBounds_toArray, List.set_cons_zero, List.set_cons_succ]
      refine wpAnyH_ready (rs := [8]) (by kernel_rfl) (by simp) ?_
      refine AllReadyH.cons rfl (fun K hK => ?_) AllReadyH.nil
      go_simp
      go_wp2_with (fail)
      refine hK.out _ _ (b9.setCell (p := ⟨qb, 3, none⟩) (by show w.heap.size + 1 ≤ qb; have := T8.hq; omega) _) (fun hS => ?_)
      clear hK
      try simp only [Act.put, List.setIfInBounds_toArray, List.set_cons_zero, List.set_cons_succ]
      refine wpAnyH_done (by kernel_rfl) ?_ _
      obtain ⟨wz, hwz⟩ : ∃ wz, w10.setCell ⟨qb, 3, none⟩ (.slice aZ nZ cZ) = wz := ⟨_, rfl⟩
      rw [hwz] at T10 ⊢
      clear hwz cq8 fq8 c03 cq3 kc3
      obtain ⟨aY, cY, eY, LZ, NY⟩ := own_lstL T10.row rfl
      clear hnZ
      cases eY
      have hls : es ++ x.ls.drop i = wrL name v p f x.ls := by
        rw [HWR.out, HES.out]
      have QZ := T10.tq
      have hqZ := T10.hq
      go_wp2_with (first
        | ((with_reducible show wpList _ _ _ (Oper.mk _ (Op.load 43 _) _ _ _ _ :: _) _ _); refine wpList_load24 rfl _ rfl qb 0 ⟨x.peer, x.boot, x.life, aZ, (es ++ x.ls.drop i).length, cZ, x.pend, x.miss⟩ rfl (range_rowH QZ) ?_)
        | ((with_reducible show wpList _ _ _ (Oper.mk _ (Op.store 43 _ _) _ _ _ _ :: _) _ _); refine wpList_store24row rfl _ _ rfl ⟨x.peer, x.boot, x.life, aZ, (es ++ x.ls.drop i).length, cZ, x.pend, x.miss⟩ T10.t2 rfl rfl rfl ?_))
      refine bodyPost_ret (results_row1 rfl _ _ (w.heap.size + 2) _ rfl (load_24 (d := ⟨x.peer, x.boot, x.life, aZ, (es ++ x.ls.drop i).length, cZ, x.pend, x.miss⟩) (setRow_heap _ _ _ _ _ _ T10.t2))) rfl ⟨aZ, cZ, ?_, ⟨?_, fun g off e => by have := NZ g off e; omega⟩, below_row T10.below (by omega) _⟩
      · rw [hls]; rfl
      · show LstL _ aZ (wrL name v p f x.ls).length cZ (wrL name v p f x.ls)
        rw [← hls]
        exact LZ.of_block fun g off e => setRow_other _ _ _ _ (by have := NZ g off e; omega)

end Go.Proofs.Ytcacocndcfbmaaa

namespace Go.Proofs.Ytcacocndcfbmaaa
open Go.ChangeShapes Go.WideShapes Go.ChangeAt Go.RowKit Go.Maps Go.Shelf
set_option linter.unusedVariables false
set_option linter.unusedSimpArgs false
attribute [local go_sem] Oper.semAt_some

set_option maxRecDepth 100000 in
set_option maxHeartbeats 8000000 in
theorem rwrite_an (x : HS) (a : Option Addr) (c : Nat) (name : ByteArray) (v p f : Int) (w : World) (R : RdO w x a c) (hn : x.ls.length + 1 ≤ 65536) (hz : zeroB v p f = false) (hh : hitN name x.ls = false) (hkl : posN name x.ls < x.ls.length) (h8 : x.ls.length < 8) :
    Calls Try.prog 21 #[(x.on a c).val, .string name, rg v p f] w fun e w' => ∃ a' c', e = .returned ((x.wr name v p f).on a' c').val ∧ Own w.heap.size w' (x.wr name v p f) a' c' ∧ Below w.heap.size w w' := by
  have C0 : Bx w [.cells (x.on a c).cells.toArray 43, .cells #[.int .i64 v, .int .i64 p, .int .i64 f] 50, .cells z6 43] _ := (((Bx.nil w).add rfl (.cells (x.on a c).cells.toArray 43)).add (by simp) (.cells #[.int .i64 v, .int .i64 p, .int .i64 f] 50)).add (by simp) (.cells z6 43)
  have HOW := wr_doc name v p f x.ls
  have hlt : ∀ j, j < posN name x.ls → ltN (x.ls.getD j LS.z).name name = true := fun j hj => lt_of_pos (lt := fun y : LS => ltN y.name name) LS.z (l := x.ls) hj
  have hpl : posN name x.ls ≤ x.ls.length := pos_le _ _
  have hat : ltN (x.ls.getD (posN name x.ls) LS.z).name name = false := at_pos (lt := fun y : LS => ltN y.name name) LS.z (l := x.ls) hkl
  have heq := hit_no hh hkl
  rw [hh, hz] at HOW
  obtain ⟨k, hk⟩ : ∃ k : Nat, posN name x.ls = k := ⟨_, rfl⟩
  rw [hk] at HOW hlt hpl hkl hat heq
  have HLT : Hid (∀ j, j < k → ltN (x.ls.getD j LS.z).name name = true) := hlt
  have HPL : Hid (k ≤ x.ls.length) := hpl
  have HKL : Hid (k < x.ls.length) := hkl
  have HK8 : Hid (x.ls.length + 1 ≤ 65536) := hn
  have HWR : Hid (wrL name v p f x.ls = x.ls.take k ++ [⟨name, v, p, f⟩] ++ x.ls.drop k) := HOW.trans (show _ = _ from if_pos h8)
  have hzz : sameB v p f 0 0 0 = false := hz
  have HAT : Hid (ltN (x.ls.getD k LS.z).name name = false) := hat
  have HEQK : Hid (eqN (x.ls.getD k LS.z).name name = false) := heq
  clear hat heq
  have HF8 : Hid (x.ls.length < 8) := h8
  clear h8
  clear HOW hlt hpl hkl hn hk hh hz
  rw [show (x.on a c).val = .agg #[.int .i64 x.peer, .int .i64 x.boot, .int .i64 x.life, .slice a x.ls.length c, .bool x.pend, .int .i64 x.miss] from rfl]
  go_enter Try.func21, Try.ntmps21
  go_wp2_with (first
    | ((with_reducible show wpList _ _ _ (Oper.mk _ (Op.load 43 _) _ _ _ _ :: _) _ _); refine wpList_load24 rfl _ rfl w.heap.size 0 (x.on a c) rfl (range_rowH (C0.at0 _ rfl)) ?_)
    | (go_at_call 33; refine (one_any x a c _ (RdL.below R C0.below)).mono ?_; rintro e w1 ⟨a1, c1, rfl, O1, b1⟩; dsimp only [HS.on, HR.val]; have T1 := Wt.start (C0.later b1)))
  clear O1 b1 C0
  obtain ⟨qb, hqb⟩ : ∃ qb : Nat, w1.heap.size = qb := ⟨_, rfl⟩
  rw [hqb] at T1
  simp only [hqb]
  clear hqb
  go_loopg [8] k (fun gk v8 wr => ∃ (i : Nat) (L : Value) (es : List LS), v8 = .int .i64 (i : Int) ∧ i + gk = k ∧ es = x.ls.take i ∧ Wt w x a c v p f qb L es wr)
  case atStart => exact ⟨0, _, [], by first | rfl | go_num, by omega, rfl, T1⟩
  case round =>
    obtain ⟨i, L, es, rfl, hgk, hes, T⟩ := hrel
    obtain ⟨aL, cL, rfl, _, _⟩ := own_lstL T.row rfl
    have HES : Hid (es = x.ls.take i) := hes
    have HEL : Hid (es.length ≤ x.ls.length) := by show _ ≤ _; rw [hes, List.length_take]; omega
    have c03 : wr.cell? ⟨w.heap.size, 3, none⟩ = some (.slice a x.ls.length c) := row_cell T.t0 3 _ rfl
    have cq3 : wr.cell? ⟨qb, 3, none⟩ = some (.slice aL es.length cL) := row_cell T.tq 3 _ rfl
    have fq3 : wr.frozen? ⟨qb, 3, none⟩ = false := row_free T.tq 3
    clear hes
    by_cases hi : i < k
    case pos =>
      have HI : Hid (i < x.ls.length) := by have := HPL.out; show _ < _; omega
      have HIK : Hid (i < k) := hi
      have hiI : (i : Int) < (x.ls.length : Int) := by have := HI.out; omega
      have hwr : IntKind.i64.wrap ((i : Int) + 1) = (i : Int) + 1 := by rw [IntKind.wrap_i64]; have := HK8.out; have := HI.out; omega
      obtain ⟨g, off, rfl, hg, hd, hri0⟩ := RdL.at R i HI.out
      have hri := range_later hri0 hg T.below
      have hl := HLT.out i hi
      obtain ⟨d, hgi⟩ : ∃ d, x.ls.getD i LS.z = d := ⟨_, rfl⟩
      have HDD : Hid (x.ls.getD i LS.z = d) := hgi
      rw [hgi] at hri hl
      clear hgi hri0 hd
      have hnm := LS.name_cell hri
      have hl2 : Op.bytesLess d.name.toList name.toList = true := hl
      have kc3 : ∀ X, Below (w.heap.size + 1) wr X → X.cell? ⟨w.heap.size, 3, none⟩ = some (.slice (some ⟨g, off, none⟩) x.ls.length c) := fun X b => (b.cell (p := ⟨w.heap.size, 3, none⟩) (Nat.lt_succ_self _)).trans c03
      have krow : ∀ X, Below (w.heap.size + 1) wr X → X.rangeAt g (off + i * 4) d.cells := fun X b j u hj => (b.cell (p := ⟨g, off + i * 4 + j, none⟩) (Nat.lt_succ_of_lt hg)).trans (hri j u hj)
      have T5 := T.later (((Below.refl _ _).alloc (Nat.le_refl _) (.cells #[.string d.name, .int .i64 d.v, .int .i64 d.p, .int .i64 d.f] 62)).drew)
      have X8 : (wr.alloc (.cells #[.string d.name, .int .i64 d.v, .int .i64 d.p, .int .i64 d.f] 62)).drew.heap[wr.heap.size]? = some (.cells d.cells.toArray 62 (0, 0)) := heap_new rfl
      clear hl hi
      go_wp2_with (fail)
      refine wp_region_any (by kernel_rfl) ?_
      change wpAny _ _ _ _ _ _ _ (World.drew _)
      refine wpAny_narrow (fun W' => Below (w.heap.size + 1) wr W') _ _ _ _ ?_
      refine anyH_take 0 28 (.pointer (some ⟨qb, 3, none⟩)) rfl rfl (by kernel_rfl) (by kernel_rfl) (by kernel_rfl) (fun _ _ _ h => h) (Or.inl ⟨by rfl, by intro w hSw; go_simp⟩) ((Below.refl _ _).drew) ?_
      try simp only [Act.put, List.setIfInBounds_toArray, List.set_cons_zero, List.set_cons_succ]
      refine anyH_take 2 30 (.pointer (some ⟨w.heap.size, 3, none⟩)) rfl rfl (by kernel_rfl) (by kernel_rfl) (by kernel_rfl) (fun _ _ _ h => h) (Or.inl ⟨by rfl, by intro w hSw; go_simp⟩) ((Below.refl _ _).drew) ?_
      try simp only [Act.put, List.setIfInBounds_toArray, List.set_cons_zero, List.set_cons_succ]
      refine anyH_take 3 31 (.slice (some ⟨g, off, none⟩) x.ls.length c) rfl rfl (by kernel_rfl) (by kernel_rfl) (by kernel_rfl) (fun _ _ _ h => h) (Or.inl ⟨by rfl, by intro w hSw; have s1 := kc3 _ hSw; go_simp⟩) ((Below.refl _ _).drew) ?_
      try simp only [Act.put, List.setIfInBounds_toArray, List.set_cons_zero, List.set_cons_succ]
      refine anyH_take 4 32 (.int .i64 (i : Int)) rfl rfl (by kernel_rfl) (by kernel_rfl) (by kernel_rfl) (fun _ _ _ h => h) (Or.inl ⟨by rfl, by intro w hSw; go_simp⟩) ((Below.refl _ _).drew) ?_
      try simp only [Act.put, List.setIfInBounds_toArray, List.set_cons_zero, List.set_cons_succ]
      refine anyH_take 5 33 (.pointer (some ⟨g, off + i * 4, none⟩)) rfl rfl (by kernel_rfl) (by kernel_rfl) (by kernel_rfl) (fun _ _ _ h => h) (Or.inl ⟨by rfl, by intro w hSw; go_simp⟩) ((Below.refl _ _).drew) ?_
      try simp only [Act.put, List.setIfInBounds_toArray, List.set_cons_zero, List.set_cons_succ]
      refine anyH_take 6 34 (d.val) rfl rfl (by kernel_rfl) (by kernel_rfl) (by kernel_rfl) (fun _ _ _ h => h) (Or.inl ⟨by rfl, fun X hSw => exec_load44 rfl g (off + i * 4) d rfl (krow X hSw)⟩) ((Below.refl _ _).drew) ?_
      try simp only [Act.put, List.setIfInBounds_toArray, List.set_cons_zero, List.set_cons_succ]
      refine wpAnyH_ready (rs := [1, 7]) (by kernel_rfl) (by simp) ?_
      refine AllReadyH.cons rfl (fun K hK => ?_) (AllReadyH.cons rfl (fun K hK => ?_) AllReadyH.nil)
      · go_simp
        go_wp2_with (fail)
        refine hK.out _ _ ((Below.refl _ _).drew) (fun hS => ?_)
        clear hK
        try simp only [Act.put, List.setIfInBounds_toArray, List.set_cons_zero, List.set_cons_succ]
        refine wpAnyH_ready (rs := [7]) (by kernel_rfl) (by simp) ?_
        refine AllReadyH.cons rfl (fun K hK => ?_) AllReadyH.nil
        dsimp only [LS.val]
        go_simp
        go_wp2_with (fail)
        refine hK.out _ _ (((Below.refl _ _).alloc (Nat.succ_le_of_lt (row_lt T.t0)) _).drew) (fun hS => ?_)
        clear hK
        try simp only [Act.put, List.setIfInBounds_toArray, List.set_cons_zero, List.set_cons_succ]
        obtain ⟨W5, hW5⟩ : ∃ W5, (wr.alloc (.cells #[.string d.name, .int .i64 d.v, .int .i64 d.p, .int .i64 d.f] 62)).drew = W5 := ⟨_, rfl⟩
        rw [hW5] at T5 X8 hS ⊢
        clear hW5
        have hS5 := hS
        refine wpAnyH_ready (rs := [8]) (by kernel_rfl) (by simp) ?_
        refine AllReadyH.cons rfl (fun K hK => ?_) AllReadyH.nil
        refine wp_more_lstL (base := qb + 1) (v := (.slice aL es.length cL)) (k := es.length) (es := es) (ds := [d]) (ad := ⟨wr.heap.size, 0, none⟩) _ _ rfl rfl rfl T5.row rfl (fun j u hj => by rw [add_plain, Nat.zero_add]; exact row_cell X8 j u (by simpa [csL, LS.cells] using hj)) (by have := HEL.out; have := HK8.out; omega) (Nat.succ_le_of_lt (row_lt T5.tq)) ?_
        intro v8 w8 O8 g8 b8
        obtain ⟨a8, c8, rfl, _, _⟩ := own_lstL O8 (by simp)
        have T8 := T5.grown (es' := es ++ [d]) b8 (by rw [List.length_append]; exact O8)
        have b9 : Below (w.heap.size + 1) wr w8 := hS5.trans (b8.mono (by have := T.hq; omega))
        refine hK.out _ _ (b9) (fun hS => ?_)
        clear hK
        try simp only [Act.put, List.setIfInBounds_toArray, List.set_cons_zero, List.set_cons_succ]
        have cq8 : w8.cell? ⟨qb, 3, none⟩ = some (.slice aL es.length cL) := (b8.cell (p := ⟨qb, 3, none⟩) (Nat.lt_succ_self _)).trans (row_cell T5.tq 3 _ rfl)
        have fq8 : w8.frozen? ⟨qb, 3, none⟩ = false := row_free ((b8.block _ (Nat.lt_succ_self _)).trans T5.tq) 3
        refine anyH_take 9 37 (.pointer (some ⟨qb, 3, none⟩)) rfl rfl (by kernel_rfl) (by kernel_rfl) (by kernel_rfl) (fun _ _ _ h => h) (Or.inl ⟨by rfl, by intro w hSw; go_simp⟩) (hS) ?_
        try simp only [Act.put, List.setIfInBounds_toArray, List.set_cons_zero, List.set_cons_succ]
        refine wpAnyH_ready (rs := [10]) (by kernel_rfl) (by simp) ?_
        refine AllReadyH.cons rfl (fun K hK => ?_) AllReadyH.nil
        go_simp
        go_wp2_with (fail)
        refine hK.out _ _ (b9.setCell (p := ⟨qb, 3, none⟩) (by show w.heap.size + 1 ≤ qb; have := T.hq; omega) _) (fun hS => ?_)
        clear hK
        try simp only [Act.put, List.setIfInBounds_toArray, List.set_cons_zero, List.set_cons_succ]
        refine wpAnyH_done (by kernel_rfl) ?_ _
        have HEQ : Hid (es ++ [d] = x.ls.take (i + 1)) := by show _ = _; rw [HES.out, ← HDD.out]; exact (take_next (HI.out)).symm
        clear kc3 krow c03 cq3 fq3 hnm hl2 hiI hri cq8 fq8
        go_wp2
        go_roundg (gk - 1)
        case measure => have := HIK.out; omega
        case rel => exact ⟨i + 1, _, _, by first | rfl | go_num, by have := HIK.out; omega, HEQ.out, T8⟩
      · dsimp only [LS.val]
        go_simp
        go_wp2_with (fail)
        refine hK.out _ _ (((Below.refl _ _).alloc (Nat.succ_le_of_lt (row_lt T.t0)) _).drew) (fun hS => ?_)
        clear hK
        try simp only [Act.put, List.setIfInBounds_toArray, List.set_cons_zero, List.set_cons_succ]
        obtain ⟨W5, hW5⟩ : ∃ W5, (wr.alloc (.cells #[.string d.name, .int .i64 d.v, .int .i64 d.p, .int .i64 d.f] 62)).drew = W5 := ⟨_, rfl⟩
        rw [hW5] at T5 X8 hS ⊢
        clear hW5
        have hS5 := hS
        refine wpAnyH_ready (rs := [1]) (by kernel_rfl) (by simp) ?_
        refine AllReadyH.cons rfl (fun K hK => ?_) AllReadyH.nil
        have cq4 : W5.cell? ⟨qb, 3, none⟩ = some (.slice aL es.length cL) := row_cell (T5.tq) 3 _ rfl
        go_simp
        go_wp2_with (fail)
        refine hK.out _ _ (hS5) (fun hS => ?_)
        clear hK
        try simp only [Act.put, List.setIfInBounds_toArray, List.set_cons_zero, List.set_cons_succ]
        refine wpAnyH_ready (rs := [8]) (by kernel_rfl) (by simp) ?_
        refine AllReadyH.cons rfl (fun K hK => ?_) AllReadyH.nil
        refine wp_more_lstL (base := qb + 1) (v := (.slice aL es.length cL)) (k := es.length) (es := es) (ds := [d]) (ad := ⟨wr.heap.size, 0, none⟩) _ _ rfl rfl rfl T5.row rfl (fun j u hj => by rw [add_plain, Nat.zero_add]; exact row_cell X8 j u (by simpa [csL, LS.cells] using hj)) (by have := HEL.out; have := HK8.out; omega) (Nat.succ_le_of_lt (row_lt T5.tq)) ?_
        intro v8 w8 O8 g8 b8
        obtain ⟨a8, c8, rfl, _, _⟩ := own_lstL O8 (by simp)
        have T8 := T5.grown (es' := es ++ [d]) b8 (by rw [List.length_append]; exact O8)
        have b9 : Below (w.heap.size + 1) wr w8 := hS5.trans (b8.mono (by have := T.hq; omega))
        refine hK.out _ _ (b9) (fun hS => ?_)
        clear hK
        try simp only [Act.put, List.setIfInBounds_toArray, List.set_cons_zero, List.set_cons_succ]
        have cq8 : w8.cell? ⟨qb, 3, none⟩ = some (.slice aL es.length cL) := (b8.cell (p := ⟨qb, 3, none⟩) (Nat.lt_succ_self _)).trans (row_cell T5.tq 3 _ rfl)
        have fq8 : w8.frozen? ⟨qb, 3, none⟩ = false := row_free ((b8.block _ (Nat.lt_succ_self _)).trans T5.tq) 3
        refine anyH_take 9 37 (.pointer (some ⟨qb, 3, none⟩)) rfl rfl (by kernel_rfl) (by kernel_rfl) (by kernel_rfl) (fun _ _ _ h => h) (Or.inl ⟨by rfl, by intro w hSw; go_simp⟩) (hS) ?_
        try simp only [Act.put, List.setIfInBounds_toArray, List.set_cons_zero, List.set_cons_succ]
        refine wpAnyH_ready (rs := [10]) (by kernel_rfl) (by simp) ?_
        refine AllReadyH.cons rfl (fun K hK => ?_) AllReadyH.nil
        go_simp
        go_wp2_with (fail)
        refine hK.out _ _ (b9.setCell (p := ⟨qb, 3, none⟩) (by show w.heap.size + 1 ≤ qb; have := T.hq; omega) _) (fun hS => ?_)
        clear hK
        try simp only [Act.put, List.setIfInBounds_toArray, List.set_cons_zero, List.set_cons_succ]
        refine wpAnyH_done (by kernel_rfl) ?_ _
        have HEQ : Hid (es ++ [d] = x.ls.take (i + 1)) := by show _ = _; rw [HES.out, ← HDD.out]; exact (take_next (HI.out)).symm
        clear kc3 krow c03 cq3 fq3 hnm hl2 hiI hri cq8 fq8
        go_wp2
        go_roundg (gk - 1)
        case measure => have := HIK.out; omega
        case rel => exact ⟨i + 1, _, _, by first | rfl | go_num, by have := HIK.out; omega, HEQ.out, T8⟩
    case neg =>
      have hik : i = k := by omega
      subst hik
      clear hi hgk
      have hiI : (i : Int) < (x.ls.length : Int) := by have := HKL.out; omega
      have hwr : IntKind.i64.wrap ((i : Int) + 1) = ((i + 1 : Nat) : Int) := by rw [IntKind.wrap_i64]; have := HK8.out; have := HKL.out; omega
      obtain ⟨g, off, rfl, hg, hd, hri0⟩ := RdL.at R i HKL.out
      have hri := range_later hri0 hg T.below
      have hl := HAT.out
      have he := HEQK.out
      obtain ⟨d, hgi⟩ : ∃ d, x.ls.getD i LS.z = d := ⟨_, rfl⟩
      rw [hgi] at hri hl he
      clear hgi hri0 hd
      have hnm := LS.name_cell hri
      have hl2 : Op.bytesLess d.name.toList name.toList = false := hl
      have he2 : (d.name.toList == name.toList) = false := he
      clear hl he
      have h8I : ¬ (8 : Int) ≤ (x.ls.length : Int) := by have := HF8.out; omega
      go_wp2_with (first
        | ((with_reducible show wpList _ _ _ (Oper.mk _ (Op.load 50 _) _ _ _ _ :: _) _ _); refine wpList_yieldg (by rfl) _ (exec_load42 rfl (w.heap.size + 1) v p f rfl T.t1) ?_)
        | ((with_reducible show wpList _ _ _ (Oper.mk _ (Op.binOp .neq 50 _ _ 50) _ _ _ _ :: _) _ _); refine wpList_yieldg (by rfl) _ (exec_neq42 rfl v p f 0 0 0 rfl rfl _) ?_; rw [hzz])
        | ((with_reducible show wpList _ _ _ (Oper.mk _ (Op.call { callee := Callee.builtin Builtin.append, args := #[Operand.tmp 74, Operand.tmp 78], argTypes := #[41, 41] }) _ _ _ _ :: _) _ _); go_must (have T5 := T.later ((Below.refl _ _).alloc (Nat.le_refl _) (.cells #[.string name, .int .i64 v, .int .i64 p, .int .i64 f] 62)); have X8 := World.alloc_heap_new wr (.cells #[.string name, .int .i64 v, .int .i64 p, .int .i64 f] 62); refine wpList_more_lstL (base := qb + 1) (v := (.slice aL es.length cL)) (k := es.length) (es := es) (ds := [⟨name, v, p, f⟩]) (ad := ⟨wr.heap.size, 0, none⟩) rfl _ _ rfl rfl rfl T5.row rfl (fun j u hj => by rw [add_plain, Nat.zero_add]; exact row_cell X8 j u (by simpa [csL, LS.cells] using hj)) (by have := HEL.out; have := HK8.out; omega) (Nat.succ_le_of_lt (row_lt T5.tq)) ?_; intro v8 w8 O8 g8 b8; obtain ⟨a8, c8, rfl, _, _⟩ := own_lstL O8 (by simp); have T8 := T5.grown (es' := es ++ [⟨name, v, p, f⟩]) b8 (by rw [List.length_append]; exact O8); have cq8 : w8.cell? ⟨qb, 3, none⟩ = some (.slice aL es.length cL) := (b8.cell (p := ⟨qb, 3, none⟩) (Nat.lt_succ_self _)).trans (row_cell T5.tq 3 _ rfl); have fq8 : w8.frozen? ⟨qb, 3, none⟩ = false := row_free ((b8.block _ (Nat.lt_succ_self _)).trans T5.tq) 3))
        | fail)
      obtain ⟨wt, hwt⟩ : ∃ wt, (w8.setCell ⟨qb, 3, none⟩ (.slice a8 (es.length + 1) c8)) = wt := ⟨_, rfl⟩
      rw [hwt] at T8 ⊢
      clear hwt T c03 cq3 fq3 hnm hl2 he2 hri T5 X8 O8 g8 b8 cq8 fq8
      have c03 : wt.cell? ⟨w.heap.size, 3, none⟩ = some (.slice (some ⟨g, off, none⟩) x.ls.length c) := row_cell T8.t0 3 _ rfl
      have cq3 : wt.cell? ⟨qb, 3, none⟩ = some (.slice a8 (es.length + 1) c8) := row_cell T8.tq 3 _ rfl
      have kc3 : ∀ X, Below (w.heap.size + 1) wt X → X.cell? ⟨w.heap.size, 3, none⟩ = some (.slice (some ⟨g, off, none⟩) x.ls.length c) := fun X b => (b.cell (p := ⟨w.heap.size, 3, none⟩) (Nat.lt_succ_self _)).trans c03
      obtain ⟨a9, h9⟩ : ∃ a9, (if c = i then (some ⟨g, off, none⟩) else ((some ⟨g, off, none⟩) : Option Addr).map (·.add (i * 4))) = a9 := ⟨_, rfl⟩
      have R9 := RdL.from (RdL.below R T8.below) i (by have := HPL.out; have := HKL.out; omega)
      rw [h9] at R9
      have H9 : Hid ((if c = i then (some ⟨g, off, none⟩) else ((some ⟨g, off, none⟩) : Option Addr).map (·.add (i * 4))) = a9) := h9
      have HK9 : Hid (i ≤ x.ls.length) := by have := HPL.out; have := HKL.out; show _ ≤ _; omega
      clear h9
      refine wp_region_any (by kernel_rfl) ?_
      change wpAny _ _ _ _ _ _ _ (World.drew _)
      refine wpAny_narrow (fun W' => Below (w.heap.size + 1) wt W') _ _ _ _ ?_
      refine anyH_take 0 84 (.pointer (some ⟨qb, 3, none⟩)) rfl rfl (by kernel_rfl) (by kernel_rfl) (by kernel_rfl) (fun _ _ _ h => h) (Or.inl ⟨by rfl, by intro w hSw; go_simp⟩) ((Below.refl _ _).drew) ?_
      try simp only [Act.put, List.setIfInBounds_toArray, List.set_cons_zero, List.set_cons_succ]
      refine anyH_take 2 86 (.pointer (some ⟨w.heap.size, 3, none⟩)) rfl rfl (by kernel_rfl) (by kernel_rfl) (by kernel_rfl) (fun _ _ _ h => h) (Or.inl ⟨by rfl, by intro w hSw; go_simp⟩) ((Below.refl _ _).drew) ?_
      try simp only [Act.put, List.setIfInBounds_toArray, List.set_cons_zero, List.set_cons_succ]
      refine anyH_take 3 87 (.slice (some ⟨g, off, none⟩) x.ls.length c) rfl rfl (by kernel_rfl) (by kernel_rfl) (by kernel_rfl) (fun _ _ _ h => h) (Or.inl ⟨by rfl, by intro w hSw; have s1 := kc3 _ hSw; go_simp⟩) ((Below.refl _ _).drew) ?_
      try simp only [Act.put, List.setIfInBounds_toArray, List.set_cons_zero, List.set_cons_succ]
      refine anyH_take 4 88 (.int .i64 ((i : Nat) : Int)) rfl rfl (by kernel_rfl) (by kernel_rfl) (by kernel_rfl) (fun _ _ _ h => h) (Or.inl ⟨by rfl, by intro w hSw; go_simp⟩) ((Below.refl _ _).drew) ?_
      try simp only [Act.put, List.setIfInBounds_toArray, List.set_cons_zero, List.set_cons_succ]
      refine anyH_take 5 89 (.slice a9 (x.ls.length - i) (c - i)) rfl rfl (by kernel_rfl) (by kernel_rfl) (by kernel_rfl) (fun _ _ _ h => h) (Or.inl ⟨by rfl, fun X hSw => (by rw [← H9.out]; exact exec_fromL rfl rfl rfl HK9.out)⟩) ((Below.refl _ _).drew) ?_
      try simp only [Act.put, List.setIfInBounds_toArray, List.set_cons_zero, List.set_cons_succ]
      refine wpAnyH_ready (rs := [1]) (by kernel_rfl) (by simp) ?_
      refine AllReadyH.cons rfl (fun K hK => ?_) AllReadyH.nil
      go_simp
      go_wp2_with (fail)
      refine hK.out _ _ ((Below.refl _ _).drew) (fun hS => ?_)
      clear hK
      try simp only [Act.put, List.setIfInBounds_toArray, List.set_cons_zero, List.set_cons_succ]
      refine wpAnyH_ready (rs := [6]) (by kernel_rfl) (by simp) ?_
      refine AllReadyH.cons rfl (fun K hK => ?_) AllReadyH.nil
      refine wp_grow_lstL (base := qb + 1) (v := (.slice a8 (es.length + 1) c8)) (k := (es ++ [LS.mk name v p f]).length) (es := (es ++ [LS.mk name v p f])) (ds := x.ls.drop i) _ _ rfl rfl rfl (T8.later (Below.refl _ _).drew).row (R9.below (Below.refl _ _).drew) (by have := HEL.out; have := HK8.out; have := HK9.out; rw [List.length_append]; simp only [List.length_singleton]; omega) (Nat.succ_le_of_lt (row_lt T8.tq)) ?_
      intro v10 w10 O10 g10 b10
      obtain ⟨aZ, cZ, rfl, _, NZ⟩ := own_lstL O10 (by rw [List.length_append, List.length_drop])
      obtain ⟨nZ, hnZ⟩ : ∃ n : Nat, (es ++ [LS.mk name v p f]).length + (x.ls.length - i) = n := ⟨_, rfl⟩
      rw [hnZ] at O10 ⊢
      have T10 := (T8.later (Below.refl _ _).drew).grown (es' := (es ++ [LS.mk name v p f]) ++ x.ls.drop i) b10 (by rw [List.length_append, List.length_drop, hnZ]; exact O10)
      have b9 : Below (w.heap.size + 1) wt w10 := ((Below.refl _ _).drew).trans (b10.mono (by have := T8.hq; omega))
      refine hK.out _ _ (b9) (fun hS => ?_)
      clear hK
      try simp only [Act.put, List.setIfInBounds_toArray, List.set_cons_zero, List.set_cons_succ]
      have cq8 : w10.cell? ⟨qb, 3, none⟩ = some (.slice a8 (es.length + 1) c8) := (b10.cell (p := ⟨qb, 3, none⟩) (Nat.lt_succ_self _)).trans (row_cell T8.tq 3 _ rfl)
      have fq8 : w10.frozen? ⟨qb, 3, none⟩ = false := row_free ((b10.block _ (Nat.lt_succ_self _)).trans T8.tq) 3
      refine anyH_take 7 91 (.pointer (some ⟨qb, 3, none⟩)) rfl rfl (by kernel_rfl) (by kernel_rfl) (by kernel_rfl) (fun _ _ _ h => h) (Or.inl ⟨by rfl, by intro w hSw; go_simp⟩) (hS) ?_
      try simp only [Act.put, List.setIfInBounds_toArray, List.set_cons_zero, List.set_cons_succ]
      refine wpAnyH_ready (rs := [8]) (by kernel_rfl) (by simp) ?_
      refine AllReadyH.cons rfl (fun K hK => ?_) AllReadyH.nil
      go_simp
      go_wp2_with (fail)
      refine hK.out _ _ (b9.setCell (p := ⟨qb, 3, none⟩) (by show w.heap.size + 1 ≤ qb; have := T8.hq; omega) _) (fun hS => ?_)
      clear hK
      try simp only [Act.put, List.setIfInBounds_toArray, List.set_cons_zero, List.set_cons_succ]
      refine wpAnyH_done (by kernel_rfl) ?_ _
      obtain ⟨wz, hwz⟩ : ∃ wz, w10.setCell ⟨qb, 3, none⟩ (.slice aZ nZ cZ) = wz := ⟨_, rfl⟩
      rw [hwz] at T10 ⊢
      clear hwz cq8 fq8 c03 cq3 kc3
      obtain ⟨aY, cY, eY, LZ, NY⟩ := own_lstL T10.row rfl
      clear hnZ
      cases eY
      have hls : (es ++ [LS.mk name v p f]) ++ x.ls.drop i = wrL name v p f x.ls := by
        rw [HWR.out, HES.out]
      have QZ := T10.tq
      have hqZ := T10.hq
      go_wp2_with (first
        | ((with_reducible show wpList _ _ _ (Oper.mk _ (Op.load 43 _) _ _ _ _ :: _) _ _); refine wpList_load24 rfl _ rfl qb 0 ⟨x.peer, x.boot, x.life, aZ, ((es ++ [LS.mk name v p f]) ++ x.ls.drop i).length, cZ, x.pend, x.miss⟩ rfl (range_rowH QZ) ?_)
        | ((with_reducible show wpList _ _ _ (Oper.mk _ (Op.store 43 _ _) _ _ _ _ :: _) _ _); refine wpList_store24row rfl _ _ rfl ⟨x.peer, x.boot, x.life, aZ, ((es ++ [LS.mk name v p f]) ++ x.ls.drop i).length, cZ, x.pend, x.miss⟩ T10.t2 rfl rfl rfl ?_))
      refine bodyPost_ret (results_row1 rfl _ _ (w.heap.size + 2) _ rfl (load_24 (d := ⟨x.peer, x.boot, x.life, aZ, ((es ++ [LS.mk name v p f]) ++ x.ls.drop i).length, cZ, x.pend, x.miss⟩) (setRow_heap _ _ _ _ _ _ T10.t2))) rfl ⟨aZ, cZ, ?_, ⟨?_, fun g off e => by have := NZ g off e; omega⟩, below_row T10.below (by omega) _⟩
      · rw [hls]; rfl
      · show LstL _ aZ (wrL name v p f x.ls).length cZ (wrL name v p f x.ls)
        rw [← hls]
        exact LZ.of_block fun g off e => setRow_other _ _ _ _ (by have := NZ g off e; omega)

set_option maxRecDepth 100000 in
set_option maxHeartbeats 8000000 in
theorem rwrite_bn (x : HS) (a : Option Addr) (c : Nat) (name : ByteArray) (v p f : Int) (w : World) (R : RdO w x a c) (hn : x.ls.length + 1 ≤ 65536) (hz : zeroB v p f = false) (hh : hitN name x.ls = false) (hkl : ¬ posN name x.ls < x.ls.length) (h8 : x.ls.length < 8) :
    Calls Try.prog 21 #[(x.on a c).val, .string name, rg v p f] w fun e w' => ∃ a' c', e = .returned ((x.wr name v p f).on a' c').val ∧ Own w.heap.size w' (x.wr name v p f) a' c' ∧ Below w.heap.size w w' := by
  have C0 : Bx w [.cells (x.on a c).cells.toArray 43, .cells #[.int .i64 v, .int .i64 p, .int .i64 f] 50, .cells z6 43] _ := (((Bx.nil w).add rfl (.cells (x.on a c).cells.toArray 43)).add (by simp) (.cells #[.int .i64 v, .int .i64 p, .int .i64 f] 50)).add (by simp) (.cells z6 43)
  have HOW := wr_doc name v p f x.ls
  have hlt : ∀ j, j < posN name x.ls → ltN (x.ls.getD j LS.z).name name = true := fun j hj => lt_of_pos (lt := fun y : LS => ltN y.name name) LS.z (l := x.ls) hj
  have hpl : posN name x.ls ≤ x.ls.length := pos_le _ _
  rw [hh, hz] at HOW
  obtain ⟨k, hk⟩ : ∃ k : Nat, posN name x.ls = k := ⟨_, rfl⟩
  rw [hk] at HOW hlt hpl hkl
  have HLT : Hid (∀ j, j < k → ltN (x.ls.getD j LS.z).name name = true) := hlt
  have HPL : Hid (k ≤ x.ls.length) := hpl
  have HKL : Hid (¬ k < x.ls.length) := hkl
  have HK8 : Hid (x.ls.length + 1 ≤ 65536) := hn
  have HWR : Hid (wrL name v p f x.ls = x.ls.take k ++ [⟨name, v, p, f⟩] ++ x.ls.drop k) := HOW.trans (show _ = _ from if_pos h8)
  have hzz : sameB v p f 0 0 0 = false := hz
  have HF8 : Hid (x.ls.length < 8) := h8
  clear h8
  clear HOW hlt hpl hkl hn hk hh hz
  rw [show (x.on a c).val = .agg #[.int .i64 x.peer, .int .i64 x.boot, .int .i64 x.life, .slice a x.ls.length c, .bool x.pend, .int .i64 x.miss] from rfl]
  go_enter Try.func21, Try.ntmps21
  go_wp2_with (first
    | ((with_reducible show wpList _ _ _ (Oper.mk _ (Op.load 43 _) _ _ _ _ :: _) _ _); refine wpList_load24 rfl _ rfl w.heap.size 0 (x.on a c) rfl (range_rowH (C0.at0 _ rfl)) ?_)
    | (go_at_call 33; refine (one_any x a c _ (RdL.below R C0.below)).mono ?_; rintro e w1 ⟨a1, c1, rfl, O1, b1⟩; dsimp only [HS.on, HR.val]; have T1 := Wt.start (C0.later b1)))
  clear O1 b1 C0
  obtain ⟨qb, hqb⟩ : ∃ qb : Nat, w1.heap.size = qb := ⟨_, rfl⟩
  rw [hqb] at T1
  simp only [hqb]
  clear hqb
  go_loopg [8] k (fun gk v8 wr => ∃ (i : Nat) (L : Value) (es : List LS), v8 = .int .i64 (i : Int) ∧ i + gk = k ∧ es = x.ls.take i ∧ Wt w x a c v p f qb L es wr)
  case atStart => exact ⟨0, _, [], by first | rfl | go_num, by omega, rfl, T1⟩
  case round =>
    obtain ⟨i, L, es, rfl, hgk, hes, T⟩ := hrel
    obtain ⟨aL, cL, rfl, _, _⟩ := own_lstL T.row rfl
    have HES : Hid (es = x.ls.take i) := hes
    have HEL : Hid (es.length ≤ x.ls.length) := by show _ ≤ _; rw [hes, List.length_take]; omega
    have c03 : wr.cell? ⟨w.heap.size, 3, none⟩ = some (.slice a x.ls.length c) := row_cell T.t0 3 _ rfl
    have cq3 : wr.cell? ⟨qb, 3, none⟩ = some (.slice aL es.length cL) := row_cell T.tq 3 _ rfl
    have fq3 : wr.frozen? ⟨qb, 3, none⟩ = false := row_free T.tq 3
    clear hes
    by_cases hi : i < k
    case pos =>
      have HI : Hid (i < x.ls.length) := by have := HPL.out; show _ < _; omega
      have HIK : Hid (i < k) := hi
      have hiI : (i : Int) < (x.ls.length : Int) := by have := HI.out; omega
      have hwr : IntKind.i64.wrap ((i : Int) + 1) = (i : Int) + 1 := by rw [IntKind.wrap_i64]; have := HK8.out; have := HI.out; omega
      obtain ⟨g, off, rfl, hg, hd, hri0⟩ := RdL.at R i HI.out
      have hri := range_later hri0 hg T.below
      have hl := HLT.out i hi
      obtain ⟨d, hgi⟩ : ∃ d, x.ls.getD i LS.z = d := ⟨_, rfl⟩
      have HDD : Hid (x.ls.getD i LS.z = d) := hgi
      rw [hgi] at hri hl
      clear hgi hri0 hd
      have hnm := LS.name_cell hri
      have hl2 : Op.bytesLess d.name.toList name.toList = true := hl
      have kc3 : ∀ X, Below (w.heap.size + 1) wr X → X.cell? ⟨w.heap.size, 3, none⟩ = some (.slice (some ⟨g, off, none⟩) x.ls.length c) := fun X b => (b.cell (p := ⟨w.heap.size, 3, none⟩) (Nat.lt_succ_self _)).trans c03
      have krow : ∀ X, Below (w.heap.size + 1) wr X → X.rangeAt g (off + i * 4) d.cells := fun X b j u hj => (b.cell (p := ⟨g, off + i * 4 + j, none⟩) (Nat.lt_succ_of_lt hg)).trans (hri j u hj)
      have T5 := T.later (((Below.refl _ _).alloc (Nat.le_refl _) (.cells #[.string d.name, .int .i64 d.v, .int .i64 d.p, .int .i64 d.f] 62)).drew)
      have X8 : (wr.alloc (.cells #[.string d.name, .int .i64 d.v, .int .i64 d.p, .int .i64 d.f] 62)).drew.heap[wr.heap.size]? = some (.cells d.cells.toArray 62 (0, 0)) := heap_new rfl
      clear hl hi
      go_wp2_with (fail)
      refine wp_region_any (by kernel_rfl) ?_
      change wpAny _ _ _ _ _ _ _ (World.drew _)
      refine wpAny_narrow (fun W' => Below (w.heap.size + 1) wr W') _ _ _ _ ?_
      refine anyH_take 0 28 (.pointer (some ⟨qb, 3, none⟩)) rfl rfl (by kernel_rfl) (by kernel_rfl) (by kernel_rfl) (fun _ _ _ h => h) (Or.inl ⟨by rfl, by intro w hSw; go_simp⟩) ((Below.refl _ _).drew) ?_
      try simp only [Act.put, List.setIfInBounds_toArray, List.set_cons_zero, List.set_cons_succ]
      refine anyH_take 2 30 (.pointer (some ⟨w.heap.size, 3, none⟩)) rfl rfl (by kernel_rfl) (by kernel_rfl) (by kernel_rfl) (fun _ _ _ h => h) (Or.inl ⟨by rfl, by intro w hSw; go_simp⟩) ((Below.refl _ _).drew) ?_
      try simp only [Act.put, List.setIfInBounds_toArray, List.set_cons_zero, List.set_cons_succ]
      refine anyH_take 3 31 (.slice (some ⟨g, off, none⟩) x.ls.length c) rfl rfl (by kernel_rfl) (by kernel_rfl) (by kernel_rfl) (fun _ _ _ h => h) (Or.inl ⟨by rfl, by intro w hSw; have s1 := kc3 _ hSw; go_simp⟩) ((Below.refl _ _).drew) ?_
      try simp only [Act.put, List.setIfInBounds_toArray, List.set_cons_zero, List.set_cons_succ]
      refine anyH_take 4 32 (.int .i64 (i : Int)) rfl rfl (by kernel_rfl) (by kernel_rfl) (by kernel_rfl) (fun _ _ _ h => h) (Or.inl ⟨by rfl, by intro w hSw; go_simp⟩) ((Below.refl _ _).drew) ?_
      try simp only [Act.put, List.setIfInBounds_toArray, List.set_cons_zero, List.set_cons_succ]
      refine anyH_take 5 33 (.pointer (some ⟨g, off + i * 4, none⟩)) rfl rfl (by kernel_rfl) (by kernel_rfl) (by kernel_rfl) (fun _ _ _ h => h) (Or.inl ⟨by rfl, by intro w hSw; go_simp⟩) ((Below.refl _ _).drew) ?_
      try simp only [Act.put, List.setIfInBounds_toArray, List.set_cons_zero, List.set_cons_succ]
      refine anyH_take 6 34 (d.val) rfl rfl (by kernel_rfl) (by kernel_rfl) (by kernel_rfl) (fun _ _ _ h => h) (Or.inl ⟨by rfl, fun X hSw => exec_load44 rfl g (off + i * 4) d rfl (krow X hSw)⟩) ((Below.refl _ _).drew) ?_
      try simp only [Act.put, List.setIfInBounds_toArray, List.set_cons_zero, List.set_cons_succ]
      refine wpAnyH_ready (rs := [1, 7]) (by kernel_rfl) (by simp) ?_
      refine AllReadyH.cons rfl (fun K hK => ?_) (AllReadyH.cons rfl (fun K hK => ?_) AllReadyH.nil)
      · go_simp
        go_wp2_with (fail)
        refine hK.out _ _ ((Below.refl _ _).drew) (fun hS => ?_)
        clear hK
        try simp only [Act.put, List.setIfInBounds_toArray, List.set_cons_zero, List.set_cons_succ]
        refine wpAnyH_ready (rs := [7]) (by kernel_rfl) (by simp) ?_
        refine AllReadyH.cons rfl (fun K hK => ?_) AllReadyH.nil
        dsimp only [LS.val]
        go_simp
        go_wp2_with (fail)
        refine hK.out _ _ (((Below.refl _ _).alloc (Nat.succ_le_of_lt (row_lt T.t0)) _).drew) (fun hS => ?_)
        clear hK
        try simp only [Act.put, List.setIfInBounds_toArray, List.set_cons_zero, List.set_cons_succ]
        obtain ⟨W5, hW5⟩ : ∃ W5, (wr.alloc (.cells #[.string d.name, .int .i64 d.v, .int .i64 d.p, .int .i64 d.f] 62)).drew = W5 := ⟨_, rfl⟩
        rw [hW5] at T5 X8 hS ⊢
        clear hW5
        have hS5 := hS
        refine wpAnyH_ready (rs := [8]) (by kernel_rfl) (by simp) ?_
        refine AllReadyH.cons rfl (fun K hK => ?_) AllReadyH.nil
        refine wp_more_lstL (base := qb + 1) (v := (.slice aL es.length cL)) (k := es.length) (es := es) (ds := [d]) (ad := ⟨wr.heap.size, 0, none⟩) _ _ rfl rfl rfl T5.row rfl (fun j u hj => by rw [add_plain, Nat.zero_add]; exact row_cell X8 j u (by simpa [csL, LS.cells] using hj)) (by have := HEL.out; have := HK8.out; omega) (Nat.succ_le_of_lt (row_lt T5.tq)) ?_
        intro v8 w8 O8 g8 b8
        obtain ⟨a8, c8, rfl, _, _⟩ := own_lstL O8 (by simp)
        have T8 := T5.grown (es' := es ++ [d]) b8 (by rw [List.length_append]; exact O8)
        have b9 : Below (w.heap.size + 1) wr w8 := hS5.trans (b8.mono (by have := T.hq; omega))
        refine hK.out _ _ (b9) (fun hS => ?_)
        clear hK
        try simp only [Act.put, List.setIfInBounds_toArray, List.set_cons_zero, List.set_cons_succ]
        have cq8 : w8.cell? ⟨qb, 3, none⟩ = some (.slice aL es.length cL) := (b8.cell (p := ⟨qb, 3, none⟩) (Nat.lt_succ_self _)).trans (row_cell T5.tq 3 _ rfl)
        have fq8 : w8.frozen? ⟨qb, 3, none⟩ = false := row_free ((b8.block _ (Nat.lt_succ_self _)).trans T5.tq) 3
        refine anyH_take 9 37 (.pointer (some ⟨qb, 3, none⟩)) rfl rfl (by kernel_rfl) (by kernel_rfl) (by kernel_rfl) (fun _ _ _ h => h) (Or.inl ⟨by rfl, by intro w hSw; go_simp⟩) (hS) ?_
        try simp only [Act.put, List.setIfInBounds_toArray, List.set_cons_zero, List.set_cons_succ]
        refine wpAnyH_ready (rs := [10]) (by kernel_rfl) (by simp) ?_
        refine AllReadyH.cons rfl (fun K hK => ?_) AllReadyH.nil
        go_simp
        go_wp2_with (fail)
        refine hK.out _ _ (b9.setCell (p := ⟨qb, 3, none⟩) (by show w.heap.size + 1 ≤ qb; have := T.hq; omega) _) (fun hS => ?_)
        clear hK
        try simp only [Act.put, List.setIfInBounds_toArray, List.set_cons_zero, List.set_cons_succ]
        refine wpAnyH_done (by kernel_rfl) ?_ _
        have HEQ : Hid (es ++ [d] = x.ls.take (i + 1)) := by show _ = _; rw [HES.out, ← HDD.out]; exact (take_next (HI.out)).symm
        clear kc3 krow c03 cq3 fq3 hnm hl2 hiI hri cq8 fq8
        go_wp2
        go_roundg (gk - 1)
        case measure => have := HIK.out; omega
        case rel => exact ⟨i + 1, _, _, by first | rfl | go_num, by have := HIK.out; omega, HEQ.out, T8⟩
      · dsimp only [LS.val]
        go_simp
        go_wp2_with (fail)
        refine hK.out _ _ (((Below.refl _ _).alloc (Nat.succ_le_of_lt (row_lt T.t0)) _).drew) (fun hS => ?_)
        clear hK
        try simp only [Act.put, List.setIfInBounds_toArray, List.set_cons_zero, List.set_cons_succ]
        obtain ⟨W5, hW5⟩ : ∃ W5, (wr.alloc (.cells #[.string d.name, .int .i64 d.v, .int .i64 d.p, .int .i64 d.f] 62)).drew = W5 := ⟨_, rfl⟩
        rw [hW5] at T5 X8 hS ⊢
        clear hW5
        have hS5 := hS
        refine wpAnyH_ready (rs := [1]) (by kernel_rfl) (by simp) ?_
        refine AllReadyH.cons rfl (fun K hK => ?_) AllReadyH.nil
        have cq4 : W5.cell? ⟨qb, 3, none⟩ = some (.slice aL es.length cL) := row_cell (T5.tq) 3 _ rfl
        go_simp
        go_wp2_with (fail)
        refine hK.out _ _ (hS5) (fun hS => ?_)
        clear hK
        try simp only [Act.put, List.setIfInBounds_toArray, List.set_cons_zero, List.set_cons_succ]
        refine wpAnyH_ready (rs := [8]) (by kernel_rfl) (by simp) ?_
        refine AllReadyH.cons rfl (fun K hK => ?_) AllReadyH.nil
        refine wp_more_lstL (base := qb + 1) (v := (.slice aL es.length cL)) (k := es.length) (es := es) (ds := [d]) (ad := ⟨wr.heap.size, 0, none⟩) _ _ rfl rfl rfl T5.row rfl (fun j u hj => by rw [add_plain, Nat.zero_add]; exact row_cell X8 j u (by simpa [csL, LS.cells] using hj)) (by have := HEL.out; have := HK8.out; omega) (Nat.succ_le_of_lt (row_lt T5.tq)) ?_
        intro v8 w8 O8 g8 b8
        obtain ⟨a8, c8, rfl, _, _⟩ := own_lstL O8 (by simp)
        have T8 := T5.grown (es' := es ++ [d]) b8 (by rw [List.length_append]; exact O8)
        have b9 : Below (w.heap.size + 1) wr w8 := hS5.trans (b8.mono (by have := T.hq; omega))
        refine hK.out _ _ (b9) (fun hS => ?_)
        clear hK
        try simp only [Act.put, List.setIfInBounds_toArray, List.set_cons_zero, List.set_cons_succ]
        have cq8 : w8.cell? ⟨qb, 3, none⟩ = some (.slice aL es.length cL) := (b8.cell (p := ⟨qb, 3, none⟩) (Nat.lt_succ_self _)).trans (row_cell T5.tq 3 _ rfl)
        have fq8 : w8.frozen? ⟨qb, 3, none⟩ = false := row_free ((b8.block _ (Nat.lt_succ_self _)).trans T5.tq) 3
        refine anyH_take 9 37 (.pointer (some ⟨qb, 3, none⟩)) rfl rfl (by kernel_rfl) (by kernel_rfl) (by kernel_rfl) (fun _ _ _ h => h) (Or.inl ⟨by rfl, by intro w hSw; go_simp⟩) (hS) ?_
        try simp only [Act.put, List.setIfInBounds_toArray, List.set_cons_zero, List.set_cons_succ]
        refine wpAnyH_ready (rs := [10]) (by kernel_rfl) (by simp) ?_
        refine AllReadyH.cons rfl (fun K hK => ?_) AllReadyH.nil
        go_simp
        go_wp2_with (fail)
        refine hK.out _ _ (b9.setCell (p := ⟨qb, 3, none⟩) (by show w.heap.size + 1 ≤ qb; have := T.hq; omega) _) (fun hS => ?_)
        clear hK
        try simp only [Act.put, List.setIfInBounds_toArray, List.set_cons_zero, List.set_cons_succ]
        refine wpAnyH_done (by kernel_rfl) ?_ _
        have HEQ : Hid (es ++ [d] = x.ls.take (i + 1)) := by show _ = _; rw [HES.out, ← HDD.out]; exact (take_next (HI.out)).symm
        clear kc3 krow c03 cq3 fq3 hnm hl2 hiI hri cq8 fq8
        go_wp2
        go_roundg (gk - 1)
        case measure => have := HIK.out; omega
        case rel => exact ⟨i + 1, _, _, by first | rfl | go_num, by have := HIK.out; omega, HEQ.out, T8⟩
    case neg =>
      have hik : i = k := by omega
      subst hik
      clear hi hgk
      have hiI : ¬ (i : Int) < (x.ls.length : Int) := by have := HKL.out; omega
      have h8I : ¬ (8 : Int) ≤ (x.ls.length : Int) := by have := HF8.out; omega
      go_wp2_with (first
        | ((with_reducible show wpList _ _ _ (Oper.mk _ (Op.load 50 _) _ _ _ _ :: _) _ _); refine wpList_yieldg (by rfl) _ (exec_load42 rfl (w.heap.size + 1) v p f rfl T.t1) ?_)
        | ((with_reducible show wpList _ _ _ (Oper.mk _ (Op.binOp .neq 50 _ _ 50) _ _ _ _ :: _) _ _); refine wpList_yieldg (by rfl) _ (exec_neq42 rfl v p f 0 0 0 rfl rfl _) ?_; rw [hzz])
        | ((with_reducible show wpList _ _ _ (Oper.mk _ (Op.call { callee := Callee.builtin Builtin.append, args := #[Operand.tmp 74, Operand.tmp 78], argTypes := #[41, 41] }) _ _ _ _ :: _) _ _); go_must (have T5 := T.later ((Below.refl _ _).alloc (Nat.le_refl _) (.cells #[.string name, .int .i64 v, .int .i64 p, .int .i64 f] 62)); have X8 := World.alloc_heap_new wr (.cells #[.string name, .int .i64 v, .int .i64 p, .int .i64 f] 62); refine wpList_more_lstL (base := qb + 1) (v := (.slice aL es.length cL)) (k := es.length) (es := es) (ds := [⟨name, v, p, f⟩]) (ad := ⟨wr.heap.size, 0, none⟩) rfl _ _ rfl rfl rfl T5.row rfl (fun j u hj => by rw [add_plain, Nat.zero_add]; exact row_cell X8 j u (by simpa [csL, LS.cells] using hj)) (by have := HEL.out; have := HK8.out; omega) (Nat.succ_le_of_lt (row_lt T5.tq)) ?_; intro v8 w8 O8 g8 b8; obtain ⟨a8, c8, rfl, _, _⟩ := own_lstL O8 (by simp); have T8 := T5.grown (es' := es ++ [⟨name, v, p, f⟩]) b8 (by rw [List.length_append]; exact O8); have cq8 : w8.cell? ⟨qb, 3, none⟩ = some (.slice aL es.length cL) := (b8.cell (p := ⟨qb, 3, none⟩) (Nat.lt_succ_self _)).trans (row_cell T5.tq 3 _ rfl); have fq8 : w8.frozen? ⟨qb, 3, none⟩ = false := row_free ((b8.block _ (Nat.lt_succ_self _)).trans T5.tq) 3))
        | fail)
      obtain ⟨wt, hwt⟩ : ∃ wt, (w8.setCell ⟨qb, 3, none⟩ (.slice a8 (es.length + 1) c8)) = wt := ⟨_, rfl⟩
      rw [hwt] at T8 ⊢
      clear hwt T c03 cq3 fq3 T5 X8 O8 g8 b8 cq8 fq8
      have c03 : wt.cell? ⟨w.heap.size, 3, none⟩ = some (.slice a x.ls.length c) := row_cell T8.t0 3 _ rfl
      have cq3 : wt.cell? ⟨qb, 3, none⟩ = some (.slice a8 (es.length + 1) c8) := row_cell T8.tq 3 _ rfl
      have kc3 : ∀ X, Below (w.heap.size + 1) wt X → X.cell? ⟨w.heap.size, 3, none⟩ = some (.slice a x.ls.length c) := fun X b => (b.cell (p := ⟨w.heap.size, 3, none⟩) (Nat.lt_succ_self _)).trans c03
      obtain ⟨a9, h9⟩ : ∃ a9, (if c = i then a else (a : Option Addr).map (·.add (i * 4))) = a9 := ⟨_, rfl⟩
      have R9 := RdL.from (RdL.below R T8.below) i (by have := HPL.out; omega)
      rw [h9] at R9
      have H9 : Hid ((if c = i then a else (a : Option Addr).map (·.add (i * 4))) = a9) := h9
      have HK9 : Hid (i ≤ x.ls.length) := by have := HPL.out; show _ ≤ _; omega
      clear h9
      refine wp_region_any (by kernel_rfl) ?_
      change wpAny _ _ _ _ _ _ _ (World.drew _)
      refine wpAny_narrow (fun W' => Below (w.heap.size + 1) wt W') _ _ _ _ ?_
      refine anyH_take 0 84 (.pointer (some ⟨qb, 3, none⟩)) rfl rfl (by kernel_rfl) (by kernel_rfl) (by kernel_rfl) (fun _ _ _ h => h) (Or.inl ⟨by rfl, by intro w hSw; go_simp⟩) ((Below.refl _ _).drew) ?_
      try simp only [Act.put, List.setIfInBounds_toArray, List.set_cons_zero, List.set_cons_succ]
      refine anyH_take 2 86 (.pointer (some ⟨w.heap.size, 3, none⟩)) rfl rfl (by kernel_rfl) (by kernel_rfl) (by kernel_rfl) (fun _ _ _ h => h) (Or.inl ⟨by rfl, by intro w hSw; go_simp⟩) ((Below.refl _ _).drew) ?_
      try simp only [Act.put, List.setIfInBounds_toArray, List.set_cons_zero, List.set_cons_succ]
      refine anyH_take 3 87 (.slice a x.ls.length c) rfl rfl (by kernel_rfl) (by kernel_rfl) (by kernel_rfl) (fun _ _ _ h => h) (Or.inl ⟨by rfl, by intro w hSw; have s1 := kc3 _ hSw; go_simp⟩) ((Below.refl _ _).drew) ?_
      try simp only [Act.put, List.setIfInBounds_toArray, List.set_cons_zero, List.set_cons_succ]
      refine anyH_take 4 88 (.int .i64 ((i : Nat) : Int)) rfl rfl (by kernel_rfl) (by kernel_rfl) (by kernel_rfl) (fun _ _ _ h => h) (Or.inl ⟨by rfl, by intro w hSw; go_simp⟩) ((Below.refl _ _).drew) ?_
      try simp only [Act.put, List.setIfInBounds_toArray, List.set_cons_zero, List.set_cons_succ]
      refine anyH_take 5 89 (.slice a9 (x.ls.length - i) (c - i)) rfl rfl (by kernel_rfl) (by kernel_rfl) (by kernel_rfl) (fun _ _ _ h => h) (Or.inl ⟨by rfl, fun X hSw => (by rw [← H9.out]; exact exec_fromL rfl rfl rfl HK9.out)⟩) ((Below.refl _ _).drew) ?_
      try simp only [Act.put, List.setIfInBounds_toArray, List.set_cons_zero, List.set_cons_succ]
      refine wpAnyH_ready (rs := [1]) (by kernel_rfl) (by simp) ?_
      refine AllReadyH.cons rfl (fun K hK => ?_) AllReadyH.nil
      go_simp
      go_wp2_with (fail)
      refine hK.out _ _ ((Below.refl _ _).drew) (fun hS => ?_)
      clear hK
      try simp only [Act.put, List.setIfInBounds_toArray, List.set_cons_zero, List.set_cons_succ]
      refine wpAnyH_ready (rs := [6]) (by kernel_rfl) (by simp) ?_
      refine AllReadyH.cons rfl (fun K hK => ?_) AllReadyH.nil
      refine wp_grow_lstL (base := qb + 1) (v := (.slice a8 (es.length + 1) c8)) (k := (es ++ [LS.mk name v p f]).length) (es := (es ++ [LS.mk name v p f])) (ds := x.ls.drop i) _ _ rfl rfl rfl (T8.later (Below.refl _ _).drew).row (R9.below (Below.refl _ _).drew) (by have := HEL.out; have := HK8.out; have := HK9.out; rw [List.length_append]; simp only [List.length_singleton]; omega) (Nat.succ_le_of_lt (row_lt T8.tq)) ?_
      intro v10 w10 O10 g10 b10
      obtain ⟨aZ, cZ, rfl, _, NZ⟩ := own_lstL O10 (by rw [List.length_append, List.length_drop])
      obtain ⟨nZ, hnZ⟩ : ∃ n : Nat, (es ++ [LS.mk name v p f]).length + (x.ls.length - i) = n := ⟨_, rfl⟩
      rw [hnZ] at O10 ⊢
      have T10 := (T8.later (Below.refl _ _).drew).grown (es' := (es ++ [LS.mk name v p f]) ++ x.ls.drop i) b10 (by rw [List.length_append, List.length_drop, hnZ]; exact O10)
      have b9 : Below (w.heap.size + 1) wt w10 := ((Below.refl _ _).drew).trans (b10.mono (by have := T8.hq; omega))
      refine hK.out _ _ (b9) (fun hS => ?_)
      clear hK
      try simp only [Act.put, List.setIfInBounds_toArray, List.set_cons_zero, List.set_cons_succ]
      have cq8 : w10.cell? ⟨qb, 3, none⟩ = some (.slice a8 (es.length + 1) c8) := (b10.cell (p := ⟨qb, 3, none⟩) (Nat.lt_succ_self _)).trans (row_cell T8.tq 3 _ rfl)
      have fq8 : w10.frozen? ⟨qb, 3, none⟩ = false := row_free ((b10.block _ (Nat.lt_succ_self _)).trans T8.tq) 3
      refine anyH_take 7 91 (.pointer (some ⟨qb, 3, none⟩)) rfl rfl (by kernel_rfl) (by kernel_rfl) (by kernel_rfl) (fun _ _ _ h => h) (Or.inl ⟨by rfl, by intro w hSw; go_simp⟩) (hS) ?_
      try simp only [Act.put, List.setIfInBounds_toArray, List.set_cons_zero, List.set_cons_succ]
      refine wpAnyH_ready (rs := [8]) (by kernel_rfl) (by simp) ?_
      refine AllReadyH.cons rfl (fun K hK => ?_) AllReadyH.nil
      go_simp
      go_wp2_with (fail)
      refine hK.out _ _ (b9.setCell (p := ⟨qb, 3, none⟩) (by show w.heap.size + 1 ≤ qb; have := T8.hq; omega) _) (fun hS => ?_)
      clear hK
      try simp only [Act.put, List.setIfInBounds_toArray, List.set_cons_zero, List.set_cons_succ]
      refine wpAnyH_done (by kernel_rfl) ?_ _
      obtain ⟨wz, hwz⟩ : ∃ wz, w10.setCell ⟨qb, 3, none⟩ (.slice aZ nZ cZ) = wz := ⟨_, rfl⟩
      rw [hwz] at T10 ⊢
      clear hwz cq8 fq8 c03 cq3 kc3
      obtain ⟨aY, cY, eY, LZ, NY⟩ := own_lstL T10.row rfl
      clear hnZ
      cases eY
      have hls : (es ++ [LS.mk name v p f]) ++ x.ls.drop i = wrL name v p f x.ls := by
        rw [HWR.out, HES.out]
      have QZ := T10.tq
      have hqZ := T10.hq
      go_wp2_with (first
        | ((with_reducible show wpList _ _ _ (Oper.mk _ (Op.load 43 _) _ _ _ _ :: _) _ _); refine wpList_load24 rfl _ rfl qb 0 ⟨x.peer, x.boot, x.life, aZ, ((es ++ [LS.mk name v p f]) ++ x.ls.drop i).length, cZ, x.pend, x.miss⟩ rfl (range_rowH QZ) ?_)
        | ((with_reducible show wpList _ _ _ (Oper.mk _ (Op.store 43 _ _) _ _ _ _ :: _) _ _); refine wpList_store24row rfl _ _ rfl ⟨x.peer, x.boot, x.life, aZ, ((es ++ [LS.mk name v p f]) ++ x.ls.drop i).length, cZ, x.pend, x.miss⟩ T10.t2 rfl rfl rfl ?_))
      refine bodyPost_ret (results_row1 rfl _ _ (w.heap.size + 2) _ rfl (load_24 (d := ⟨x.peer, x.boot, x.life, aZ, ((es ++ [LS.mk name v p f]) ++ x.ls.drop i).length, cZ, x.pend, x.miss⟩) (setRow_heap _ _ _ _ _ _ T10.t2))) rfl ⟨aZ, cZ, ?_, ⟨?_, fun g off e => by have := NZ g off e; omega⟩, below_row T10.below (by omega) _⟩
      · rw [hls]; rfl
      · show LstL _ aZ (wrL name v p f x.ls).length cZ (wrL name v p f x.ls)
        rw [← hls]
        exact LZ.of_block fun g off e => setRow_other _ _ _ _ (by have := NZ g off e; omega)

end Go.Proofs.Ytcacocndcfbmaaa

namespace Go.Proofs.Ytcacocndcfbmaaa
open Go.ChangeShapes Go.WideShapes Go.ChangeAt Go.RowKit Go.Maps Go.Shelf
set_option linter.unusedVariables false
set_option linter.unusedSimpArgs false
attribute [local go_sem] Oper.semAt_some

set_option maxRecDepth 100000 in
set_option maxHeartbeats 8000000 in
theorem rwrite_af (x : HS) (a : Option Addr) (c : Nat) (name : ByteArray) (v p f : Int) (w : World) (R : RdO w x a c) (hn : x.ls.length + 1 ≤ 65536) (hz : zeroB v p f = false) (hh : hitN name x.ls = false) (hkl : posN name x.ls < x.ls.length) (h8 : ¬ x.ls.length < 8) :
    Calls Try.prog 21 #[(x.on a c).val, .string name, rg v p f] w fun e w' => ∃ a' c', e = .returned ((x.wr name v p f).on a' c').val ∧ Own w.heap.size w' (x.wr name v p f) a' c' ∧ Below w.heap.size w w' := by
  have C0 : Bx w [.cells (x.on a c).cells.toArray 43, .cells #[.int .i64 v, .int .i64 p, .int .i64 f] 50, .cells z6 43] _ := (((Bx.nil w).add rfl (.cells (x.on a c).cells.toArray 43)).add (by simp) (.cells #[.int .i64 v, .int .i64 p, .int .i64 f] 50)).add (by simp) (.cells z6 43)
  have HOW := wr_doc name v p f x.ls
  have hlt : ∀ j, j < posN name x.ls → ltN (x.ls.getD j LS.z).name name = true := fun j hj => lt_of_pos (lt := fun y : LS => ltN y.name name) LS.z (l := x.ls) hj
  have hpl : posN name x.ls ≤ x.ls.length := pos_le _ _
  have hat : ltN (x.ls.getD (posN name x.ls) LS.z).name name = false := at_pos (lt := fun y : LS => ltN y.name name) LS.z (l := x.ls) hkl
  have heq := hit_no hh hkl
  rw [hh, hz] at HOW
  obtain ⟨k, hk⟩ : ∃ k : Nat, posN name x.ls = k := ⟨_, rfl⟩
  rw [hk] at HOW hlt hpl hkl hat heq
  have HLT : Hid (∀ j, j < k → ltN (x.ls.getD j LS.z).name name = true) := hlt
  have HPL : Hid (k ≤ x.ls.length) := hpl
  have HKL : Hid (k < x.ls.length) := hkl
  have HK8 : Hid (x.ls.length + 1 ≤ 65536) := hn
  have HWR : Hid (wrL name v p f x.ls = x.ls) := HOW.trans (show _ = _ from if_neg h8)
  have hzz : sameB v p f 0 0 0 = false := hz
  have HAT : Hid (ltN (x.ls.getD k LS.z).name name = false) := hat
  have HEQK : Hid (eqN (x.ls.getD k LS.z).name name = false) := heq
  clear hat heq
  have HF8 : Hid (¬ x.ls.length < 8) := h8
  clear h8
  clear HOW hlt hpl hkl hn hk hh hz
  rw [show (x.on a c).val = .agg #[.int .i64 x.peer, .int .i64 x.boot, .int .i64 x.life, .slice a x.ls.length c, .bool x.pend, .int .i64 x.miss] from rfl]
  go_enter Try.func21, Try.ntmps21
  go_wp2_with (first
    | ((with_reducible show wpList _ _ _ (Oper.mk _ (Op.load 43 _) _ _ _ _ :: _) _ _); refine wpList_load24 rfl _ rfl w.heap.size 0 (x.on a c) rfl (range_rowH (C0.at0 _ rfl)) ?_)
    | (go_at_call 33; refine (one_any x a c _ (RdL.below R C0.below)).mono ?_; rintro e w1 ⟨a1, c1, rfl, O1, b1⟩; dsimp only [HS.on, HR.val]; have T1 := Wt.start (C0.later b1)))
  clear O1 b1 C0
  obtain ⟨qb, hqb⟩ : ∃ qb : Nat, w1.heap.size = qb := ⟨_, rfl⟩
  rw [hqb] at T1
  simp only [hqb]
  clear hqb
  go_loopg [8] k (fun gk v8 wr => ∃ (i : Nat) (L : Value) (es : List LS), v8 = .int .i64 (i : Int) ∧ i + gk = k ∧ es = x.ls.take i ∧ Wt w x a c v p f qb L es wr)
  case atStart => exact ⟨0, _, [], by first | rfl | go_num, by omega, rfl, T1⟩
  case round =>
    obtain ⟨i, L, es, rfl, hgk, hes, T⟩ := hrel
    obtain ⟨aL, cL, rfl, _, _⟩ := own_lstL T.row rfl
    have HES : Hid (es = x.ls.take i) := hes
    have HEL : Hid (es.length ≤ x.ls.length) := by show _ ≤ _; rw [hes, List.length_take]; omega
    have c03 : wr.cell? ⟨w.heap.size, 3, none⟩ = some (.slice a x.ls.length c) := row_cell T.t0 3 _ rfl
    have cq3 : wr.cell? ⟨qb, 3, none⟩ = some (.slice aL es.length cL) := row_cell T.tq 3 _ rfl
    have fq3 : wr.frozen? ⟨qb, 3, none⟩ = false := row_free T.tq 3
    clear hes
    by_cases hi : i < k
    case pos =>
      have HI : Hid (i < x.ls.length) := by have := HPL.out; show _ < _; omega
      have HIK : Hid (i < k) := hi
      have hiI : (i : Int) < (x.ls.length : Int) := by have := HI.out; omega
      have hwr : IntKind.i64.wrap ((i : Int) + 1) = (i : Int) + 1 := by rw [IntKind.wrap_i64]; have := HK8.out; have := HI.out; omega
      obtain ⟨g, off, rfl, hg, hd, hri0⟩ := RdL.at R i HI.out
      have hri := range_later hri0 hg T.below
      have hl := HLT.out i hi
      obtain ⟨d, hgi⟩ : ∃ d, x.ls.getD i LS.z = d := ⟨_, rfl⟩
      have HDD : Hid (x.ls.getD i LS.z = d) := hgi
      rw [hgi] at hri hl
      clear hgi hri0 hd
      have hnm := LS.name_cell hri
      have hl2 : Op.bytesLess d.name.toList name.toList = true := hl
      have kc3 : ∀ X, Below (w.heap.size + 1) wr X → X.cell? ⟨w.heap.size, 3, none⟩ = some (.slice (some ⟨g, off, none⟩) x.ls.length c) := fun X b => (b.cell (p := ⟨w.heap.size, 3, none⟩) (Nat.lt_succ_self _)).trans c03
      have krow : ∀ X, Below (w.heap.size + 1) wr X → X.rangeAt g (off + i * 4) d.cells := fun X b j u hj => (b.cell (p := ⟨g, off + i * 4 + j, none⟩) (Nat.lt_succ_of_lt hg)).trans (hri j u hj)
      have T5 := T.later (((Below.refl _ _).alloc (Nat.le_refl _) (.cells #[.string d.name, .int .i64 d.v, .int .i64 d.p, .int .i64 d.f] 62)).drew)
      have X8 : (wr.alloc (.cells #[.string d.name, .int .i64 d.v, .int .i64 d.p, .int .i64 d.f] 62)).drew.heap[wr.heap.size]? = some (.cells d.cells.toArray 62 (0, 0)) := heap_new rfl
      clear hl hi
      go_wp2_with (fail)
      refine wp_region_any (by kernel_rfl) ?_
      change wpAny _ _ _ _ _ _ _ (World.drew _)
      refine wpAny_narrow (fun W' => Below (w.heap.size + 1) wr W') _ _ _ _ ?_
      refine anyH_take 0 28 (.pointer (some ⟨qb, 3, none⟩)) rfl rfl (by kernel_rfl) (by kernel_rfl) (by kernel_rfl) (fun _ _ _ h => h) (Or.inl ⟨by rfl, by intro w hSw; go_simp⟩) ((Below.refl _ _).drew) ?_
      try simp only [Act.put, List.setIfInBounds_toArray, List.set_cons_zero, List.set_cons_succ]
      refine anyH_take 2 30 (.pointer (some ⟨w.heap.size, 3, none⟩)) rfl rfl (by kernel_rfl) (by kernel_rfl) (by kernel_rfl) (fun _ _ _ h => h) (Or.inl ⟨by rfl, by intro w hSw; go_simp⟩) ((Below.refl _ _).drew) ?_
      try simp only [Act.put, List.setIfInBounds_toArray, List.set_cons_zero, List.set_cons_succ]
      refine anyH_take 3 31 (.slice (some ⟨g, off, none⟩) x.ls.length c) rfl rfl (by kernel_rfl) (by kernel_rfl) (by kernel_rfl) (fun _ _ _ h => h) (Or.inl ⟨by rfl, by intro w hSw; have s1 := kc3 _ hSw; go_simp⟩) ((Below.refl _ _).drew) ?_
      try simp only [Act.put, List.setIfInBounds_toArray, List.set_cons_zero, List.set_cons_succ]
      refine anyH_take 4 32 (.int .i64 (i : Int)) rfl rfl (by kernel_rfl) (by kernel_rfl) (by kernel_rfl) (fun _ _ _ h => h) (Or.inl ⟨by rfl, by intro w hSw; go_simp⟩) ((Below.refl _ _).drew) ?_
      try simp only [Act.put, List.setIfInBounds_toArray, List.set_cons_zero, List.set_cons_succ]
      refine anyH_take 5 33 (.pointer (some ⟨g, off + i * 4, none⟩)) rfl rfl (by kernel_rfl) (by kernel_rfl) (by kernel_rfl) (fun _ _ _ h => h) (Or.inl ⟨by rfl, by intro w hSw; go_simp⟩) ((Below.refl _ _).drew) ?_
      try simp only [Act.put, List.setIfInBounds_toArray, List.set_cons_zero, List.set_cons_succ]
      refine anyH_take 6 34 (d.val) rfl rfl (by kernel_rfl) (by kernel_rfl) (by kernel_rfl) (fun _ _ _ h => h) (Or.inl ⟨by rfl, fun X hSw => exec_load44 rfl g (off + i * 4) d rfl (krow X hSw)⟩) ((Below.refl _ _).drew) ?_
      try simp only [Act.put, List.setIfInBounds_toArray, List.set_cons_zero, List.set_cons_succ]
      refine wpAnyH_ready (rs := [1, 7]) (by kernel_rfl) (by simp) ?_
      refine AllReadyH.cons rfl (fun K hK => ?_) (AllReadyH.cons rfl (fun K hK => ?_) AllReadyH.nil)
      · go_simp
        go_wp2_with (fail)
        refine hK.out _ _ ((Below.refl _ _).drew) (fun hS => ?_)
        clear hK
        try simp only [Act.put, List.setIfInBounds_toArray, List.set_cons_zero, List.set_cons_succ]
        refine wpAnyH_ready (rs := [7]) (by kernel_rfl) (by simp) ?_
        refine AllReadyH.cons rfl (fun K hK => ?_) AllReadyH.nil
        dsimp only [LS.val]
        go_simp
        go_wp2_with (fail)
        refine hK.out _ _ (((Below.refl _ _).alloc (Nat.succ_le_of_lt (row_lt T.t0)) _).drew) (fun hS => ?_)
        clear hK
        try simp only [Act.put, List.setIfInBounds_toArray, List.set_cons_zero, List.set_cons_succ]
        obtain ⟨W5, hW5⟩ : ∃ W5, (wr.alloc (.cells #[.string d.name, .int .i64 d.v, .int .i64 d.p, .int .i64 d.f] 62)).drew = W5 := ⟨_, rfl⟩
        rw [hW5] at T5 X8 hS ⊢
        clear hW5
        have hS5 := hS
        refine wpAnyH_ready (rs := [8]) (by kernel_rfl) (by simp) ?_
        refine AllReadyH.cons rfl (fun K hK => ?_) AllReadyH.nil
        refine wp_more_lstL (base := qb + 1) (v := (.slice aL es.length cL)) (k := es.length) (es := es) (ds := [d]) (ad := ⟨wr.heap.size, 0, none⟩) _ _ rfl rfl rfl T5.row rfl (fun j u hj => by rw [add_plain, Nat.zero_add]; exact row_cell X8 j u (by simpa [csL, LS.cells] using hj)) (by have := HEL.out; have := HK8.out; omega) (Nat.succ_le_of_lt (row_lt T5.tq)) ?_
        intro v8 w8 O8 g8 b8
        obtain ⟨a8, c8, rfl, _, _⟩ := own_lstL O8 (by simp)
        have T8 := T5.grown (es' := es ++ [d]) b8 (by rw [List.length_append]; exact O8)
        have b9 : Below (w.heap.size + 1) wr w8 := hS5.trans (b8.mono (by have := T.hq; omega))
        refine hK.out _ _ (b9) (fun hS => ?_)
        clear hK
        try simp only [Act.put, List.setIfInBounds_toArray, List.set_cons_zero, List.set_cons_succ]
        have cq8 : w8.cell? ⟨qb, 3, none⟩ = some (.slice aL es.length cL) := (b8.cell (p := ⟨qb, 3, none⟩) (Nat.lt_succ_self _)).trans (row_cell T5.tq 3 _ rfl)
        have fq8 : w8.frozen? ⟨qb, 3, none⟩ = false := row_free ((b8.block _ (Nat.lt_succ_self _)).trans T5.tq) 3
        refine anyH_take 9 37 (.pointer (some ⟨qb, 3, none⟩)) rfl rfl (by kernel_rfl) (by kernel_rfl) (by kernel_rfl) (fun _ _ _ h => h) (Or.inl ⟨by rfl, by intro w hSw; go_simp⟩) (hS) ?_
        try simp only [Act.put, List.setIfInBounds_toArray, List.set_cons_zero, List.set_cons_succ]
        refine wpAnyH_ready (rs := [10]) (by kernel_rfl) (by simp) ?_
        refine AllReadyH.cons rfl (fun K hK => ?_) AllReadyH.nil
        go_simp
        go_wp2_with (fail)
        refine hK.out _ _ (b9.setCell (p := ⟨qb, 3, none⟩) (by show w.heap.size + 1 ≤ qb; have := T.hq; omega) _) (fun hS => ?_)
        clear hK
        try simp only [Act.put, List.setIfInBounds_toArray, List.set_cons_zero, List.set_cons_succ]
        refine wpAnyH_done (by kernel_rfl) ?_ _
        have HEQ : Hid (es ++ [d] = x.ls.take (i + 1)) := by show _ = _; rw [HES.out, ← HDD.out]; exact (take_next (HI.out)).symm
        clear kc3 krow c03 cq3 fq3 hnm hl2 hiI hri cq8 fq8
        go_wp2
        go_roundg (gk - 1)
        case measure => have := HIK.out; omega
        case rel => exact ⟨i + 1, _, _, by first | rfl | go_num, by have := HIK.out; omega, HEQ.out, T8⟩
      · dsimp only [LS.val]
        go_simp
        go_wp2_with (fail)
        refine hK.out _ _ (((Below.refl _ _).alloc (Nat.succ_le_of_lt (row_lt T.t0)) _).drew) (fun hS => ?_)
        clear hK
        try simp only [Act.put, List.setIfInBounds_toArray, List.set_cons_zero, List.set_cons_succ]
        obtain ⟨W5, hW5⟩ : ∃ W5, (wr.alloc (.cells #[.string d.name, .int .i64 d.v, .int .i64 d.p, .int .i64 d.f] 62)).drew = W5 := ⟨_, rfl⟩
        rw [hW5] at T5 X8 hS ⊢
        clear hW5
        have hS5 := hS
        refine wpAnyH_ready (rs := [1]) (by kernel_rfl) (by simp) ?_
        refine AllReadyH.cons rfl (fun K hK => ?_) AllReadyH.nil
        have cq4 : W5.cell? ⟨qb, 3, none⟩ = some (.slice aL es.length cL) := row_cell (T5.tq) 3 _ rfl
        go_simp
        go_wp2_with (fail)
        refine hK.out _ _ (hS5) (fun hS => ?_)
        clear hK
        try simp only [Act.put, List.setIfInBounds_toArray, List.set_cons_zero, List.set_cons_succ]
        refine wpAnyH_ready (rs := [8]) (by kernel_rfl) (by simp) ?_
        refine AllReadyH.cons rfl (fun K hK => ?_) AllReadyH.nil
        refine wp_more_lstL (base := qb + 1) (v := (.slice aL es.length cL)) (k := es.length) (es := es) (ds := [d]) (ad := ⟨wr.heap.size, 0, none⟩) _ _ rfl rfl rfl T5.row rfl (fun j u hj => by rw [add_plain, Nat.zero_add]; exact row_cell X8 j u (by simpa [csL, LS.cells] using hj)) (by have := HEL.out; have := HK8.out; omega) (Nat.succ_le_of_lt (row_lt T5.tq)) ?_
        intro v8 w8 O8 g8 b8
        obtain ⟨a8, c8, rfl, _, _⟩ := own_lstL O8 (by simp)
        have T8 := T5.grown (es' := es ++ [d]) b8 (by rw [List.length_append]; exact O8)
        have b9 : Below (w.heap.size + 1) wr w8 := hS5.trans (b8.mono (by have := T.hq; omega))
        refine hK.out _ _ (b9) (fun hS => ?_)
        clear hK
        try simp only [Act.put, List.setIfInBounds_toArray, List.set_cons_zero, List.set_cons_succ]
        have cq8 : w8.cell? ⟨qb, 3, none⟩ = some (.slice aL es.length cL) := (b8.cell (p := ⟨qb, 3, none⟩) (Nat.lt_succ_self _)).trans (row_cell T5.tq 3 _ rfl)
        have fq8 : w8.frozen? ⟨qb, 3, none⟩ = false := row_free ((b8.block _ (Nat.lt_succ_self _)).trans T5.tq) 3
        refine anyH_take 9 37 (.pointer (some ⟨qb, 3, none⟩)) rfl rfl (by kernel_rfl) (by kernel_rfl) (by kernel_rfl) (fun _ _ _ h => h) (Or.inl ⟨by rfl, by intro w hSw; go_simp⟩) (hS) ?_
        try simp only [Act.put, List.setIfInBounds_toArray, List.set_cons_zero, List.set_cons_succ]
        refine wpAnyH_ready (rs := [10]) (by kernel_rfl) (by simp) ?_
        refine AllReadyH.cons rfl (fun K hK => ?_) AllReadyH.nil
        go_simp
        go_wp2_with (fail)
        refine hK.out _ _ (b9.setCell (p := ⟨qb, 3, none⟩) (by show w.heap.size + 1 ≤ qb; have := T.hq; omega) _) (fun hS => ?_)
        clear hK
        try simp only [Act.put, List.setIfInBounds_toArray, List.set_cons_zero, List.set_cons_succ]
        refine wpAnyH_done (by kernel_rfl) ?_ _
        have HEQ : Hid (es ++ [d] = x.ls.take (i + 1)) := by show _ = _; rw [HES.out, ← HDD.out]; exact (take_next (HI.out)).symm
        clear kc3 krow c03 cq3 fq3 hnm hl2 hiI hri cq8 fq8
        go_wp2
        go_roundg (gk - 1)
        case measure => have := HIK.out; omega
        case rel => exact ⟨i + 1, _, _, by first | rfl | go_num, by have := HIK.out; omega, HEQ.out, T8⟩
    case neg =>
      have hik : i = k := by omega
      subst hik
      clear hi hgk
      have hiI : (i : Int) < (x.ls.length : Int) := by have := HKL.out; omega
      have hwr : IntKind.i64.wrap ((i : Int) + 1) = ((i + 1 : Nat) : Int) := by rw [IntKind.wrap_i64]; have := HK8.out; have := HKL.out; omega
      obtain ⟨g, off, rfl, hg, hd, hri0⟩ := RdL.at R i HKL.out
      have hri := range_later hri0 hg T.below
      have hl := HAT.out
      have he := HEQK.out
      obtain ⟨d, hgi⟩ : ∃ d, x.ls.getD i LS.z = d := ⟨_, rfl⟩
      rw [hgi] at hri hl he
      clear hgi hri0 hd
      have hnm := LS.name_cell hri
      have hl2 : Op.bytesLess d.name.toList name.toList = false := hl
      have he2 : (d.name.toList == name.toList) = false := he
      clear hl he
      have h8I : (8 : Int) ≤ (x.ls.length : Int) := by have := HF8.out; omega
      go_wp2_with (first
        | ((with_reducible show wpList _ _ _ (Oper.mk _ (Op.load 50 _) _ _ _ _ :: _) _ _); refine wpList_yieldg (by rfl) _ (exec_load42 rfl (w.heap.size + 1) v p f rfl T.t1) ?_)
        | ((with_reducible show wpList _ _ _ (Oper.mk _ (Op.binOp .neq 50 _ _ 50) _ _ _ _ :: _) _ _); refine wpList_yieldg (by rfl) _ (exec_neq42 rfl v p f 0 0 0 rfl rfl _) ?_; rw [hzz])
        | ((with_reducible show wpList _ _ _ (Oper.mk _ (Op.load 43 _) _ _ _ _ :: _) _ _); refine wpList_load24 rfl _ rfl w.heap.size 0 (x.on (some ⟨g, off, none⟩) c) rfl (range_rowH T.t0) ?_)
        | (go_at_call 33; refine (one_any x (some ⟨g, off, none⟩) c _ (RdL.below R T.below)).mono ?_; rintro e w5 ⟨a2, c2, rfl, O5, b5⟩; have X5 := (b5.block _ (row_lt T.t2)).trans T.t2; have hz3 := row_lt T.t2; have B5 := T.below.trans (b5.mono T.below.size))
        | ((with_reducible show wpList _ _ _ (Oper.mk _ (Op.store 43 _ _) _ _ _ _ :: _) _ _); refine wpList_store24row rfl _ _ rfl (x.on a2 c2) X5 rfl rfl rfl ?_))
      have hw8 : x.wr name v p f = x := by
        unfold HS.wr
        rw [HWR.out]
      rw [hw8]
      refine bodyPost_ret (results_row1 rfl _ _ (w.heap.size + 2) _ rfl (load_24 (d := x.on a2 c2) (setRow_heap _ _ _ _ _ _ X5))) rfl ⟨a2, c2, rfl, ⟨O5.lst.of_block fun g off e => setRow_other _ _ _ _ (by have := O5.new g off e; omega), fun g off e => by have := O5.new g off e; have := T.below.size; omega⟩, below_row B5 (by omega) _⟩

set_option maxRecDepth 100000 in
set_option maxHeartbeats 8000000 in
theorem rwrite_bf (x : HS) (a : Option Addr) (c : Nat) (name : ByteArray) (v p f : Int) (w : World) (R : RdO w x a c) (hn : x.ls.length + 1 ≤ 65536) (hz : zeroB v p f = false) (hh : hitN name x.ls = false) (hkl : ¬ posN name x.ls < x.ls.length) (h8 : ¬ x.ls.length < 8) :
    Calls Try.prog 21 #[(x.on a c).val, .string name, rg v p f] w fun e w' => ∃ a' c', e = .returned ((x.wr name v p f).on a' c').val ∧ Own w.heap.size w' (x.wr name v p f) a' c' ∧ Below w.heap.size w w' := by
  have C0 : Bx w [.cells (x.on a c).cells.toArray 43, .cells #[.int .i64 v, .int .i64 p, .int .i64 f] 50, .cells z6 43] _ := (((Bx.nil w).add rfl (.cells (x.on a c).cells.toArray 43)).add (by simp) (.cells #[.int .i64 v, .int .i64 p, .int .i64 f] 50)).add (by simp) (.cells z6 43)
  have HOW := wr_doc name v p f x.ls
  have hlt : ∀ j, j < posN name x.ls → ltN (x.ls.getD j LS.z).name name = true := fun j hj => lt_of_pos (lt := fun y : LS => ltN y.name name) LS.z (l := x.ls) hj
  have hpl : posN name x.ls ≤ x.ls.length := pos_le _ _
  rw [hh, hz] at HOW
  obtain ⟨k, hk⟩ : ∃ k : Nat, posN name x.ls = k := ⟨_, rfl⟩
  rw [hk] at HOW hlt hpl hkl
  have HLT : Hid (∀ j, j < k → ltN (x.ls.getD j LS.z).name name = true) := hlt
  have HPL : Hid (k ≤ x.ls.length) := hpl
  have HKL : Hid (¬ k < x.ls.length) := hkl
  have HK8 : Hid (x.ls.length + 1 ≤ 65536) := hn
  have HWR : Hid (wrL name v p f x.ls = x.ls) := HOW.trans (show _ = _ from if_neg h8)
  have hzz : sameB v p f 0 0 0 = false := hz
  have HF8 : Hid (¬ x.ls.length < 8) := h8
  clear h8
  clear HOW hlt hpl hkl hn hk hh hz
  rw [show (x.on a c).val = .agg #[.int .i64 x.peer, .int .i64 x.boot, .int .i64 x.life, .slice a x.ls.length c, .bool x.pend, .int .i64 x.miss] from rfl]
  go_enter Try.func21, Try.ntmps21
  go_wp2_with (first
    | ((with_reducible show wpList _ _ _ (Oper.mk _ (Op.load 43 _) _ _ _ _ :: _) _ _); refine wpList_load24 rfl _ rfl w.heap.size 0 (x.on a c) rfl (range_rowH (C0.at0 _ rfl)) ?_)
    | (go_at_call 33; refine (one_any x a c _ (RdL.below R C0.below)).mono ?_; rintro e w1 ⟨a1, c1, rfl, O1, b1⟩; dsimp only [HS.on, HR.val]; have T1 := Wt.start (C0.later b1)))
  clear O1 b1 C0
  obtain ⟨qb, hqb⟩ : ∃ qb : Nat, w1.heap.size = qb := ⟨_, rfl⟩
  rw [hqb] at T1
  simp only [hqb]
  clear hqb
  go_loopg [8] k (fun gk v8 wr => ∃ (i : Nat) (L : Value) (es : List LS), v8 = .int .i64 (i : Int) ∧ i + gk = k ∧ es = x.ls.take i ∧ Wt w x a c v p f qb L es wr)
  case atStart => exact ⟨0, _, [], by first | rfl | go_num, by omega, rfl, T1⟩
  case round =>
    obtain ⟨i, L, es, rfl, hgk, hes, T⟩ := hrel
    obtain ⟨aL, cL, rfl, _, _⟩ := own_lstL T.row rfl
    have HES : Hid (es = x.ls.take i) := hes
    have HEL : Hid (es.length ≤ x.ls.length) := by show _ ≤ _; rw [hes, List.length_take]; omega
    have c03 : wr.cell? ⟨w.heap.size, 3, none⟩ = some (.slice a x.ls.length c) := row_cell T.t0 3 _ rfl
    have cq3 : wr.cell? ⟨qb, 3, none⟩ = some (.slice aL es.length cL) := row_cell T.tq 3 _ rfl
    have fq3 : wr.frozen? ⟨qb, 3, none⟩ = false := row_free T.tq 3
    clear hes
    by_cases hi : i < k
    case pos =>
      have HI : Hid (i < x.ls.length) := by have := HPL.out; show _ < _; omega
      have HIK : Hid (i < k) := hi
      have hiI : (i : Int) < (x.ls.length : Int) := by have := HI.out; omega
      have hwr : IntKind.i64.wrap ((i : Int) + 1) = (i : Int) + 1 := by rw [IntKind.wrap_i64]; have := HK8.out; have := HI.out; omega
      obtain ⟨g, off, rfl, hg, hd, hri0⟩ := RdL.at R i HI.out
      have hri := range_later hri0 hg T.below
      have hl := HLT.out i hi
      obtain ⟨d, hgi⟩ : ∃ d, x.ls.getD i LS.z = d := ⟨_, rfl⟩
      have HDD : Hid (x.ls.getD i LS.z = d) := hgi
      rw [hgi] at hri hl
      clear hgi hri0 hd
      have hnm := LS.name_cell hri
      have hl2 : Op.bytesLess d.name.toList name.toList = true := hl
      have kc3 : ∀ X, Below (w.heap.size + 1) wr X → X.cell? ⟨w.heap.size, 3, none⟩ = some (.slice (some ⟨g, off, none⟩) x.ls.length c) := fun X b => (b.cell (p := ⟨w.heap.size, 3, none⟩) (Nat.lt_succ_self _)).trans c03
      have krow : ∀ X, Below (w.heap.size + 1) wr X → X.rangeAt g (off + i * 4) d.cells := fun X b j u hj => (b.cell (p := ⟨g, off + i * 4 + j, none⟩) (Nat.lt_succ_of_lt hg)).trans (hri j u hj)
      have T5 := T.later (((Below.refl _ _).alloc (Nat.le_refl _) (.cells #[.string d.name, .int .i64 d.v, .int .i64 d.p, .int .i64 d.f] 62)).drew)
      have X8 : (wr.alloc (.cells #[.string d.name, .int .i64 d.v, .int .i64 d.p, .int .i64 d.f] 62)).drew.heap[wr.heap.size]? = some (.cells d.cells.toArray 62 (0, 0)) := heap_new rfl
      clear hl hi
      go_wp2_with (fail)
      refine wp_region_any (by kernel_rfl) ?_
      change wpAny _ _ _ _ _ _ _ (World.drew _)
      refine wpAny_narrow (fun W' => Below (w.heap.size + 1) wr W') _ _ _ _ ?_
      refine anyH_take 0 28 (.pointer (some ⟨qb, 3, none⟩)) rfl rfl (by kernel_rfl) (by kernel_rfl) (by kernel_rfl) (fun _ _ _ h => h) (Or.inl ⟨by rfl, by intro w hSw; go_simp⟩) ((Below.refl _ _).drew) ?_
      try simp only [Act.put, List.setIfInBounds_toArray, List.set_cons_zero, List.set_cons_succ]
      refine anyH_take 2 30 (.pointer (some ⟨w.heap.size, 3, none⟩)) rfl rfl (by kernel_rfl) (by kernel_rfl) (by kernel_rfl) (fun _ _ _ h => h) (Or.inl ⟨by rfl, by intro w hSw; go_simp⟩) ((Below.refl _ _).drew) ?_
      try simp only [Act.put, List.setIfInBounds_toArray, List.set_cons_zero, List.set_cons_succ]
      refine anyH_take 3 31 (.slice (some ⟨g, off, none⟩) x.ls.length c) rfl rfl (by kernel_rfl) (by kernel_rfl) (by kernel_rfl) (fun _ _ _ h => h) (Or.inl ⟨by rfl, by intro w hSw; have s1 := kc3 _ hSw; go_simp⟩) ((Below.refl _ _).drew) ?_
      try simp only [Act.put, List.setIfInBounds_toArray, List.set_cons_zero, List.set_cons_succ]
      refine anyH_take 4 32 (.int .i64 (i : Int)) rfl rfl (by kernel_rfl) (by kernel_rfl) (by kernel_rfl) (fun _ _ _ h => h) (Or.inl ⟨by rfl, by intro w hSw; go_simp⟩) ((Below.refl _ _).drew) ?_
      try simp only [Act.put, List.setIfInBounds_toArray, List.set_cons_zero, List.set_cons_succ]
      refine anyH_take 5 33 (.pointer (some ⟨g, off + i * 4, none⟩)) rfl rfl (by kernel_rfl) (by kernel_rfl) (by kernel_rfl) (fun _ _ _ h => h) (Or.inl ⟨by rfl, by intro w hSw; go_simp⟩) ((Below.refl _ _).drew) ?_
      try simp only [Act.put, List.setIfInBounds_toArray, List.set_cons_zero, List.set_cons_succ]
      refine anyH_take 6 34 (d.val) rfl rfl (by kernel_rfl) (by kernel_rfl) (by kernel_rfl) (fun _ _ _ h => h) (Or.inl ⟨by rfl, fun X hSw => exec_load44 rfl g (off + i * 4) d rfl (krow X hSw)⟩) ((Below.refl _ _).drew) ?_
      try simp only [Act.put, List.setIfInBounds_toArray, List.set_cons_zero, List.set_cons_succ]
      refine wpAnyH_ready (rs := [1, 7]) (by kernel_rfl) (by simp) ?_
      refine AllReadyH.cons rfl (fun K hK => ?_) (AllReadyH.cons rfl (fun K hK => ?_) AllReadyH.nil)
      · go_simp
        go_wp2_with (fail)
        refine hK.out _ _ ((Below.refl _ _).drew) (fun hS => ?_)
        clear hK
        try simp only [Act.put, List.setIfInBounds_toArray, List.set_cons_zero, List.set_cons_succ]
        refine wpAnyH_ready (rs := [7]) (by kernel_rfl) (by simp) ?_
        refine AllReadyH.cons rfl (fun K hK => ?_) AllReadyH.nil
        dsimp only [LS.val]
        go_simp
        go_wp2_with (fail)
        refine hK.out _ _ (((Below.refl _ _).alloc (Nat.succ_le_of_lt (row_lt T.t0)) _).drew) (fun hS => ?_)
        clear hK
        try simp only [Act.put, List.setIfInBounds_toArray, List.set_cons_zero, List.set_cons_succ]
        obtain ⟨W5, hW5⟩ : ∃ W5, (wr.alloc (.cells #[.string d.name, .int .i64 d.v, .int .i64 d.p, .int .i64 d.f] 62)).drew = W5 := ⟨_, rfl⟩
        rw [hW5] at T5 X8 hS ⊢
        clear hW5
        have hS5 := hS
        refine wpAnyH_ready (rs := [8]) (by kernel_rfl) (by simp) ?_
        refine AllReadyH.cons rfl (fun K hK => ?_) AllReadyH.nil
        refine wp_more_lstL (base := qb + 1) (v := (.slice aL es.length cL)) (k := es.length) (es := es) (ds := [d]) (ad := ⟨wr.heap.size, 0, none⟩) _ _ rfl rfl rfl T5.row rfl (fun j u hj => by rw [add_plain, Nat.zero_add]; exact row_cell X8 j u (by simpa [csL, LS.cells] using hj)) (by have := HEL.out; have := HK8.out; omega) (Nat.succ_le_of_lt (row_lt T5.tq)) ?_
        intro v8 w8 O8 g8 b8
        obtain ⟨a8, c8, rfl, _, _⟩ := own_lstL O8 (by simp)
        have T8 := T5.grown (es' := es ++ [d]) b8 (by rw [List.length_append]; exact O8)
        have b9 : Below (w.heap.size + 1) wr w8 := hS5.trans (b8.mono (by have := T.hq; omega))
        refine hK.out _ _ (b9) (fun hS => ?_)
        clear hK
        try simp only [Act.put, List.setIfInBounds_toArray, List.set_cons_zero, List.set_cons_succ]
        have cq8 : w8.cell? ⟨qb, 3, none⟩ = some (.slice aL es.length cL) := (b8.cell (p := ⟨qb, 3, none⟩) (Nat.lt_succ_self _)).trans (row_cell T5.tq 3 _ rfl)
        have fq8 : w8.frozen? ⟨qb, 3, none⟩ = false := row_free ((b8.block _ (Nat.lt_succ_self _)).trans T5.tq) 3
        refine anyH_take 9 37 (.pointer (some ⟨qb, 3, none⟩)) rfl rfl (by kernel_rfl) (by kernel_rfl) (by kernel_rfl) (fun _ _ _ h => h) (Or.inl ⟨by rfl, by intro w hSw; go_simp⟩) (hS) ?_
        try simp only [Act.put, List.setIfInBounds_toArray, List.set_cons_zero, List.set_cons_succ]
        refine wpAnyH_ready (rs := [10]) (by kernel_rfl) (by simp) ?_
        refine AllReadyH.cons rfl (fun K hK => ?_) AllReadyH.nil
        go_simp
        go_wp2_with (fail)
        refine hK.out _ _ (b9.setCell (p := ⟨qb, 3, none⟩) (by show w.heap.size + 1 ≤ qb; have := T.hq; omega) _) (fun hS => ?_)
        clear hK
        try simp only [Act.put, List.setIfInBounds_toArray, List.set_cons_zero, List.set_cons_succ]
        refine wpAnyH_done (by kernel_rfl) ?_ _
        have HEQ : Hid (es ++ [d] = x.ls.take (i + 1)) := by show _ = _; rw [HES.out, ← HDD.out]; exact (take_next (HI.out)).symm
        clear kc3 krow c03 cq3 fq3 hnm hl2 hiI hri cq8 fq8
        go_wp2
        go_roundg (gk - 1)
        case measure => have := HIK.out; omega
        case rel => exact ⟨i + 1, _, _, by first | rfl | go_num, by have := HIK.out; omega, HEQ.out, T8⟩
      · dsimp only [LS.val]
        go_simp
        go_wp2_with (fail)
        refine hK.out _ _ (((Below.refl _ _).alloc (Nat.succ_le_of_lt (row_lt T.t0)) _).drew) (fun hS => ?_)
        clear hK
        try simp only [Act.put, List.setIfInBounds_toArray, List.set_cons_zero, List.set_cons_succ]
        obtain ⟨W5, hW5⟩ : ∃ W5, (wr.alloc (.cells #[.string d.name, .int .i64 d.v, .int .i64 d.p, .int .i64 d.f] 62)).drew = W5 := ⟨_, rfl⟩
        rw [hW5] at T5 X8 hS ⊢
        clear hW5
        have hS5 := hS
        refine wpAnyH_ready (rs := [1]) (by kernel_rfl) (by simp) ?_
        refine AllReadyH.cons rfl (fun K hK => ?_) AllReadyH.nil
        have cq4 : W5.cell? ⟨qb, 3, none⟩ = some (.slice aL es.length cL) := row_cell (T5.tq) 3 _ rfl
        go_simp
        go_wp2_with (fail)
        refine hK.out _ _ (hS5) (fun hS => ?_)
        clear hK
        try simp only [Act.put, List.setIfInBounds_toArray, List.set_cons_zero, List.set_cons_succ]
        refine wpAnyH_ready (rs := [8]) (by kernel_rfl) (by simp) ?_
        refine AllReadyH.cons rfl (fun K hK => ?_) AllReadyH.nil
        refine wp_more_lstL (base := qb + 1) (v := (.slice aL es.length cL)) (k := es.length) (es := es) (ds := [d]) (ad := ⟨wr.heap.size, 0, none⟩) _ _ rfl rfl rfl T5.row rfl (fun j u hj => by rw [add_plain, Nat.zero_add]; exact row_cell X8 j u (by simpa [csL, LS.cells] using hj)) (by have := HEL.out; have := HK8.out; omega) (Nat.succ_le_of_lt (row_lt T5.tq)) ?_
        intro v8 w8 O8 g8 b8
        obtain ⟨a8, c8, rfl, _, _⟩ := own_lstL O8 (by simp)
        have T8 := T5.grown (es' := es ++ [d]) b8 (by rw [List.length_append]; exact O8)
        have b9 : Below (w.heap.size + 1) wr w8 := hS5.trans (b8.mono (by have := T.hq; omega))
        refine hK.out _ _ (b9) (fun hS => ?_)
        clear hK
        try simp only [Act.put, List.setIfInBounds_toArray, List.set_cons_zero, List.set_cons_succ]
        have cq8 : w8.cell? ⟨qb, 3, none⟩ = some (.slice aL es.length cL) := (b8.cell (p := ⟨qb, 3, none⟩) (Nat.lt_succ_self _)).trans (row_cell T5.tq 3 _ rfl)
        have fq8 : w8.frozen? ⟨qb, 3, none⟩ = false := row_free ((b8.block _ (Nat.lt_succ_self _)).trans T5.tq) 3
        refine anyH_take 9 37 (.pointer (some ⟨qb, 3, none⟩)) rfl rfl (by kernel_rfl) (by kernel_rfl) (by kernel_rfl) (fun _ _ _ h => h) (Or.inl ⟨by rfl, by intro w hSw; go_simp⟩) (hS) ?_
        try simp only [Act.put, List.setIfInBounds_toArray, List.set_cons_zero, List.set_cons_succ]
        refine wpAnyH_ready (rs := [10]) (by kernel_rfl) (by simp) ?_
        refine AllReadyH.cons rfl (fun K hK => ?_) AllReadyH.nil
        go_simp
        go_wp2_with (fail)
        refine hK.out _ _ (b9.setCell (p := ⟨qb, 3, none⟩) (by show w.heap.size + 1 ≤ qb; have := T.hq; omega) _) (fun hS => ?_)
        clear hK
        try simp only [Act.put, List.setIfInBounds_toArray, List.set_cons_zero, List.set_cons_succ]
        refine wpAnyH_done (by kernel_rfl) ?_ _
        have HEQ : Hid (es ++ [d] = x.ls.take (i + 1)) := by show _ = _; rw [HES.out, ← HDD.out]; exact (take_next (HI.out)).symm
        clear kc3 krow c03 cq3 fq3 hnm hl2 hiI hri cq8 fq8
        go_wp2
        go_roundg (gk - 1)
        case measure => have := HIK.out; omega
        case rel => exact ⟨i + 1, _, _, by first | rfl | go_num, by have := HIK.out; omega, HEQ.out, T8⟩
    case neg =>
      have hik : i = k := by omega
      subst hik
      clear hi hgk
      have hiI : ¬ (i : Int) < (x.ls.length : Int) := by have := HKL.out; omega
      have h8I : (8 : Int) ≤ (x.ls.length : Int) := by have := HF8.out; omega
      go_wp2_with (first
        | ((with_reducible show wpList _ _ _ (Oper.mk _ (Op.load 50 _) _ _ _ _ :: _) _ _); refine wpList_yieldg (by rfl) _ (exec_load42 rfl (w.heap.size + 1) v p f rfl T.t1) ?_)
        | ((with_reducible show wpList _ _ _ (Oper.mk _ (Op.binOp .neq 50 _ _ 50) _ _ _ _ :: _) _ _); refine wpList_yieldg (by rfl) _ (exec_neq42 rfl v p f 0 0 0 rfl rfl _) ?_; rw [hzz])
        | ((with_reducible show wpList _ _ _ (Oper.mk _ (Op.load 43 _) _ _ _ _ :: _) _ _); refine wpList_load24 rfl _ rfl w.heap.size 0 (x.on a c) rfl (range_rowH T.t0) ?_)
        | (go_at_call 33; refine (one_any x a c _ (RdL.below R T.below)).mono ?_; rintro e w5 ⟨a2, c2, rfl, O5, b5⟩; have X5 := (b5.block _ (row_lt T.t2)).trans T.t2; have hz3 := row_lt T.t2; have B5 := T.below.trans (b5.mono T.below.size))
        | ((with_reducible show wpList _ _ _ (Oper.mk _ (Op.store 43 _ _) _ _ _ _ :: _) _ _); refine wpList_store24row rfl _ _ rfl (x.on a2 c2) X5 rfl rfl rfl ?_))
      have hw8 : x.wr name v p f = x := by
        unfold HS.wr
        rw [HWR.out]
      rw [hw8]
      refine bodyPost_ret (results_row1 rfl _ _ (w.heap.size + 2) _ rfl (load_24 (d := x.on a2 c2) (setRow_heap _ _ _ _ _ _ X5))) rfl ⟨a2, c2, rfl, ⟨O5.lst.of_block fun g off e => setRow_other _ _ _ _ (by have := O5.new g off e; omega), fun g off e => by have := O5.new g off e; have := T.below.size; omega⟩, below_row B5 (by omega) _⟩

end Go.Proofs.Ytcacocndcfbmaaa

namespace Go.Proofs.Ytcacocndcfbmaaa
open Go.ChangeShapes Go.WideShapes Go.ChangeAt Go.RowKit
set_option linter.unusedVariables false

theorem rwrite_any (x : HS) (a : Option Addr) (c : Nat) (name : ByteArray) (v p f : Int) (w : World) (R : RdO w x a c) (hn : x.ls.length + 1 ≤ 65536) : Calls Try.prog 21 #[(x.on a c).val, .string name, rg v p f] w fun e w' => ∃ a' c', e = .returned ((x.wr name v p f).on a' c').val ∧ Own w.heap.size w' (x.wr name v p f) a' c' ∧ Below w.heap.size w w' := by
  cases hz : zeroB v p f with
  | true =>
    cases hh : hitN name x.ls with
    | true => exact rwrite_hz x a c name v p f w R hn hz hh (hit_lt hh)
    | false =>
      by_cases hk : posN name x.ls < x.ls.length
      · exact rwrite_az x a c name v p f w R hn hz hh hk
      · exact rwrite_bz x a c name v p f w R hn hz hh hk
  | false =>
    cases hh : hitN name x.ls with
    | true => exact rwrite_hn x a c name v p f w R hn hz hh (hit_lt hh)
    | false =>
      by_cases hk : posN name x.ls < x.ls.length
      · by_cases h8 : x.ls.length < 8
        · exact rwrite_an x a c name v p f w R hn hz hh hk h8
        · exact rwrite_af x a c name v p f w R hn hz hh hk h8
      · by_cases h8 : x.ls.length < 8
        · exact rwrite_bn x a c name v p f w R hn hz hh hk h8
        · exact rwrite_bf x a c name v p f w R hn hz hh hk h8
end Go.Proofs.Ytcacocndcfbmaaa
