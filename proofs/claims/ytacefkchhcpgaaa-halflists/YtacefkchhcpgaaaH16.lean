/-
  The document's Put of rising half-edges.
-/
import Derived.Test.YtacefkchhcpgaaaH15
import Derived.Deep.Onto
namespace Go.Proofs.Ytacefkchhcpgaaa
open Go.ChangeShapes Go.WideShapes Go.ChangeAt Go.RowKit Go.Maps Go.Shelf
set_option linter.unusedVariables false
set_option linter.unusedSimpArgs false
attribute [local go_sem] Oper.semAt_some

theorem own_grow' {b0 base i : Nat} {W W' : World} {v : Value} {es : List HR} {h : HS} {a : Option Addr} {c : Nat} (row : W.ownsRow base 24 6 v i (csH es)) (r : W.grownBy W' v.ownBlock) (o : Own b0 W h a c) : Own b0 W' h a c := by
  refine ⟨?_, o.new⟩
  refine o.lst.of_block fun g off e => ?_
  rcases o.lst.mem with ⟨e', _⟩ | ⟨g', off', cur, e', hh, _⟩
  · rw [e'] at e; cases e
  · rw [e'] at e; cases e
    exact r.block g (row_lt hh) (owns_ne row hh (by decide))
theorem Ech.grow {b0 base i : Nat} {W W' : World} {v : Value} {es fs : List HR} {hs : List HS} (row : W.ownsRow base 24 6 v i (csH es)) (r : W.grownBy W' v.ownBlock) (h : Ech b0 W fs hs) : Ech b0 W' fs hs := fun j hj => by
  obtain ⟨a, c, e, O⟩ := h j hj
  exact ⟨a, c, e, own_grow' row r O⟩
theorem getD_take {α : Type} (l : List α) (k i : Nat) (z : α) (h : i < k) : (l.take k).getD i z = l.getD i z := by
  rw [List.getD_eq_getElem?_getD, List.getElem?_take, if_pos h, List.getD_eq_getElem?_getD]
theorem getD_drop {α : Type} (l : List α) (k i : Nat) (z : α) : (l.drop k).getD i z = l.getD (k + i) z := by
  rw [List.getD_eq_getElem?_getD, List.getElem?_drop, List.getD_eq_getElem?_getD]
theorem Ech.take {b0 : Nat} {W : World} {es : List HR} {hs : List HS} (h : Ech b0 W es hs) (k : Nat) (hk : k ≤ hs.length) : Ech b0 W (es.take k) (hs.take k) := fun i hi => by
  rw [List.length_take] at hi
  rw [getD_take _ _ _ _ (by omega), getD_take _ _ _ _ (by omega)]
  exact h i (by omega)
theorem Ech.drop {b0 : Nat} {W : World} {es : List HR} {hs : List HS} (h : Ech b0 W es hs) (k : Nat) : Ech b0 W (es.drop k) (hs.drop k) := fun i hi => by
  rw [List.length_drop] at hi
  rw [getD_drop, getD_drop]
  exact h (k + i) (by omega)
theorem Ech.one {b0 : Nat} {W : World} {x : HS} {a : Option Addr} {c : Nat} (O : Own b0 W x a c) : Ech b0 W [x.on a c] [x] := fun i hi => by
  have : i = 0 := by simpa using hi
  subst this
  exact ⟨a, c, rfl, O⟩
theorem Ech.append {b0 : Nat} {W : World} {es fs : List HR} {hs xs : List HS} (h : Ech b0 W es hs) (k : Ech b0 W fs xs) (hl : es.length = hs.length) : Ech b0 W (es ++ fs) (hs ++ xs) := fun i hi => by
  rw [List.length_append] at hi
  by_cases c : i < hs.length
  · rw [List.getD_eq_getElem?_getD, List.getElem?_append_left (by omega), ← List.getD_eq_getElem?_getD, List.getD_eq_getElem?_getD (l := hs ++ xs), List.getElem?_append_left c, ← List.getD_eq_getElem?_getD]
    exact h i c
  · rw [List.getD_eq_getElem?_getD, List.getElem?_append_right (by omega), ← List.getD_eq_getElem?_getD, List.getD_eq_getElem?_getD (l := hs ++ xs), List.getElem?_append_right (by omega), ← List.getD_eq_getElem?_getD, hl]
    exact k (i - hs.length) (by omega)
/-- A list of one's own that is being put together, since W0. -/
structure Mid (b0 : Nat) (W0 : World) (ds : List HS) (v : Value) (es : List HR) (W : World) : Prop where
  row : W.ownsRow W0.heap.size 24 6 v ds.length (csH es)
  len : es.length = ds.length
  ech : Ech b0 W es ds
  below : Below W0.heap.size W0 W
theorem Mid.nil (b0 : Nat) (W : World) : Mid b0 W [] (.slice none 0 0) [] W := ⟨World.ownsRow_nil _ _ 24 6, rfl, fun i hi => (by cases hi), Below.refl _ _⟩
theorem Mid.later {b0 : Nat} {W0 : World} {ds : List HS} {v : Value} {es : List HR} {W W' : World} (M : Mid b0 W0 ds v es W) (b : Below W.heap.size W W') : Mid b0 W0 ds v es W' :=
  ⟨owns_later M.row b, M.len, M.ech.below b, M.below.trans (b.mono M.below.size)⟩
theorem Mid.more {b0 : Nat} {W0 : World} {ds xs : List HS} {v v' : Value} {es fs : List HR} {W W' : World} (M : Mid b0 W0 ds v es W) (E : Ech b0 W fs xs) (hl : fs.length = xs.length) (r : W.grownBy W' v.ownBlock) (b : Below W0.heap.size W W') (o : W'.ownsRow W0.heap.size 24 6 v' (ds.length + xs.length) (csH (es ++ fs))) : Mid b0 W0 (ds ++ xs) v' (es ++ fs) W' :=
  ⟨by rw [List.length_append]; exact o, by rw [List.length_append, List.length_append, M.len, hl], (M.ech.grow M.row r).append (E.grow M.row r) M.len, M.below.trans b⟩
/-- Half-edges with lines of their own that lay there at the start still do. -/
theorem Ech.ofs {b0 : Nat} {W0 : World} {ds ds' : List HS} {v v' : Value} {es es' : List HR} {fs : List HR} {hs : List HS} {W : World} (h : Ech b0 W0 fs hs) (M0 : Mid b0 W0 ds' v' es' W0) (M : Mid b0 W0 ds v es W) : Ech b0 W fs hs := h.below M.below
theorem Mid.cpy {w W0 : World} {ds : List HS} {v : Value} {es : List HR} {W : World} (M : Mid w.heap.size W0 ds v es W) (b : Below w.heap.size w W0) : Cpy w ds ds.length v es W :=
  ⟨b.trans (M.below.mono b.size), M.row.mono b.size, M.len, M.ech⟩
theorem drop_few {k : Int} {hs : List HS} (h : ∀ j, j < hs.length → (hs.getD j HS.z).ls.length * 40 ≤ 140737488355328) : (dropH k hs).length ≤ hs.length ∧ ∀ j, j < (dropH k hs).length → ((dropH k hs).getD j HS.z).ls.length * 40 ≤ 140737488355328 := by
  unfold dropH
  split
  · rename_i hh
    have hp : posH k hs < hs.length := hit_lt hh
    refine ⟨by rw [List.length_eraseIdx, if_pos hp]; omega, erase_few _ hp h⟩
  · exact ⟨Nat.le_refl _, h⟩
/-- What is put among the others is where it belongs. -/
theorem drop_ins {x : HS} {hs : List HS} (hr : Rise hs) {i : Nat} (hi : i ≤ (dropH x.peer hs).length) (h0 : ∀ j, j < i → ((dropH x.peer hs).getD j HS.z).peer < x.peer) (h1 : i < (dropH x.peer hs).length → ¬ ((dropH x.peer hs).getD i HS.z).peer < x.peer) : (dropH x.peer hs).take i ++ ([x] ++ (dropH x.peer hs).drop i) = putH x hs := by
  cases hh : hitH x.peer hs with
  | false =>
    have e : dropH x.peer hs = hs := by unfold dropH; rw [if_neg (by rw [hh]; decide)]
    rw [e] at hi h0 h1 ⊢
    have hp : posH x.peer hs = i := pos_unique HS.z hi (fun j hj => decide_eq_true (h0 j hj)) (fun k => decide_eq_false (h1 k))
    rw [put_no hh, hp]
    rfl
  | true =>
    obtain ⟨hp, he⟩ := hit_peer hh
    have e : dropH x.peer hs = hs.eraseIdx (posH x.peer hs) := by unfold dropH; rw [if_pos hh]
    rw [e] at hi h0 h1 ⊢
    rw [put_hit hh]
    obtain ⟨p, hpp⟩ : ∃ p : Nat, posH x.peer hs = p := ⟨_, rfl⟩
    have hbl := fun j (hj : j < posH x.peer hs) => below_pos (k := x.peer) (hs := hs) j hj
    rw [hpp] at hi h0 h1 hp he hbl ⊢
    have hl : (hs.eraseIdx p).length = hs.length - 1 := by rw [List.length_eraseIdx, if_pos hp]
    have hip : i = p := by
      rcases Nat.lt_trichotomy i p with c | c | c
      · have := h1 (by omega)
        rw [getD_erase, if_pos c] at this
        exact absurd (hbl i c) this
      · exact c
      · have := h0 p c
        rw [getD_erase, if_neg (by omega)] at this
        have h3 := hr p (p + 1) (by omega) (by omega)
        omega
    subst hip
    have hti : (hs.take i).length = i := by rw [List.length_take]; omega
    rw [List.eraseIdx_eq_take_drop_succ, List.take_left' hti, List.drop_left' hti, List.set_eq_take_append_cons_drop, if_pos hp]
    rfl
set_option maxRecDepth 100000 in
set_option maxHeartbeats 16000000 in
theorem rput_any (x : HS) (a : Option Addr) (c1 : Nat) (A : Option Addr) (c : Nat) (hs : List HS) (w : World) (R0 : RdO w x a c1) (P0 : Hs w A hs.length c hs) (hr : Rise hs) (hn : hs.length + 1 ≤ 65536) : Calls Try.prog 22 #[.slice A hs.length c, (x.on a c1).val] w fun e w' => ∃ v es, e = .returned v ∧ Cpy w (putH x hs) (putH x hs).length v es w' := by
  obtain ⟨W0, hW0⟩ : ∃ X, w.alloc (.cells #[.int .i64 x.peer, .int .i64 x.boot, .int .i64 x.life, .slice a x.ls.length c1, .bool x.pend, .int .i64 x.miss] 24) = X := ⟨_, rfl⟩
  have BW : Below w.heap.size w W0 := by rw [← hW0]; exact (Below.refl _ _).alloc (Nat.le_refl _) _
  have T : W0.heap[w.heap.size]? = some (.cells (x.on a c1).cells.toArray 24 (0, 0)) := by rw [← hW0]; exact heap_new rfl
  have P := P0.below BW
  have K19 := rdrop_any x.peer A c hs W0 P hr
  have kp0 : ∀ X, Below W0.heap.size W0 X → X.cell? ⟨w.heap.size, 0, none⟩ = some (.int .i64 x.peer) := fun X b => (b.cell (p := ⟨w.heap.size, 0, none⟩) (row_lt T)).trans (row_cell T 0 _ rfl)
  have kp1 := kp0 _ (Below.refl _ _)
  obtain ⟨dl, df⟩ := drop_few (k := x.peer) P.few
  have hins := fun i hi h0 h1 => drop_ins (x := x) hr (i := i) hi h0 h1
  obtain ⟨DD, hDD⟩ : ∃ DD, dropH x.peer hs = DD := ⟨_, rfl⟩
  rw [hDD] at K19 dl df
  simp only [hDD] at hins
  have HINS : Hid (∀ i, i ≤ DD.length → (∀ j, j < i → (DD.getD j HS.z).peer < x.peer) → (i < DD.length → ¬ (DD.getD i HS.z).peer < x.peer) → DD.take i ++ ([x] ++ DD.drop i) = putH x hs) := hins
  have HSM : Hid (DD.length ≤ 65535) := by show _ ≤ _; omega
  have HDF : Hid (∀ j, j < DD.length → (DD.getD j HS.z).ls.length * 40 ≤ 140737488355328) := df
  have HW : Hid (w.alloc (.cells #[.int .i64 x.peer, .int .i64 x.boot, .int .i64 x.life, .slice a x.ls.length c1, .bool x.pend, .int .i64 x.miss] 24) = W0) := hW0
  clear hDD hins dl df hW0 P P0 hn hr
  rw [show (x.on a c1).val = .agg #[.int .i64 x.peer, .int .i64 x.boot, .int .i64 x.life, .slice a x.ls.length c1, .bool x.pend, .int .i64 x.miss] from rfl]
  go_enter Try.func22, Try.ntmps22
  go_wp2_with (fail)
  rw [HW.out]
  clear HW
  go_wp2_with (go_at_call 19; refine K19.mono ?_; rintro e w1 ⟨v1, es, rfl, C1⟩; obtain ⟨aD, cD, rfl, LL, ND⟩ := own_lstH C1.row C1.len; clear K19)
  have H1 : Hs w1 aD DD.length cD DD := by
    obtain ⟨a', c', e, h⟩ := C1.hs (by have := HSM.out; omega) HDF.out
    cases e
    exact h
  have HLC : Hid (DD.length ≤ cD) := LL.le
  have HLN : Hid (es.length = DD.length) := C1.len
  have L0 : RdH w1 aD DD.length cD es := LL.rd (by have := HSM.out; omega)
  have E0 : Ech W0.heap.size w1 es DD := C1.each
  clear LL ND kp1
  go_loopg [8] DD.length (fun gk v8 wr => ∃ i : Nat, v8 = .int .i64 (i : Int) ∧ i + gk = DD.length ∧ (∀ j, j < i → (DD.getD j HS.z).peer < x.peer) ∧ Below w1.heap.size w1 wr)
  case atStart => exact ⟨0, by first | rfl | go_num, by omega, fun j hj => by omega, Below.refl _ _⟩
  case round =>
    obtain ⟨i, rfl, hgk, hok, Br⟩ := hrel
    have HOK : Hid (∀ j, j < i → (DD.getD j HS.z).peer < x.peer) := hok
    have HKN : Hid (i ≤ DD.length) := by show _ ≤ _; omega
    have HKC : Hid (i ≤ cD) := by have := HLC.out; show _ ≤ _; omega
    have BB0 : Below W0.heap.size W0 wr.drew := C1.below.trans (Br.drew.mono C1.below.size)
    have kp : ∀ X, Below wr.heap.size wr X → X.cell? ⟨w.heap.size, 0, none⟩ = some (.int .i64 x.peer) := fun X b => kp0 _ ((C1.below.trans (Br.mono C1.below.size)).trans (b.mono (Nat.le_trans C1.below.size Br.size)))
    have L1 : RdH wr.drew aD DD.length cD es := L0.below Br.drew
    have E1 : Ech w.heap.size wr.drew es DD := (E0.mono BW.size).below Br.drew
    clear hok
    by_cases hi : i < DD.length
    case pos =>
      have hiI : (i : Int) < (DD.length : Int) := by omega
      have hwr : IntKind.i64.wrap ((i : Int) + 1) = (i : Int) + 1 := by rw [IntKind.wrap_i64]; have := HSM.out; omega
      obtain ⟨g, o, ai, ci, rfl, k10, r10, R10⟩ := H1.at i hi
      obtain ⟨y, ey⟩ : ∃ y, DD.getD i HS.z = y := ⟨_, rfl⟩
      rw [ey] at r10
      have HY : Hid (DD.getD i HS.z = y) := ey
      have r1 := range_later r10 k10 Br
      have k1 := Nat.lt_of_lt_of_le k10 Br.size
      have kc : ∀ X, Below wr.heap.size wr X → X.cell? ⟨g, o + i * 6, none⟩ = some (.int .i64 y.peer) := fun X b => peer_cell (range_later r1 k1 b)
      clear ey r10 R10 r1
      by_cases hcmp : y.peer < x.peer
      case pos =>
        go_wp2_with (fail)
        refine wp_region_any (by kernel_rfl) ?_
        change wpAny _ _ _ _ _ _ _ (World.drew _)
        refine wpAny_narrow (fun W' => Below wr.heap.size wr W') _ _ _ _ ?_
        refine anyH_take 0 16 (.int .i64 (i : Int)) rfl rfl (by kernel_rfl) (by kernel_rfl) (by kernel_rfl) (fun _ _ _ h => h) (Or.inl ⟨by rfl, by intro w hSw; go_simp⟩) ((Below.refl _ _).drew) ?_
        try simp only [Act.put, List.setIfInBounds_toArray, List.set_cons_zero, List.set_cons_succ]
        refine anyH_take 1 17 (.slice (some ⟨g, o, none⟩) DD.length cD) rfl rfl (by kernel_rfl) (by kernel_rfl) (by kernel_rfl) (fun _ _ _ h => h) (Or.inl ⟨by rfl, by intro w hSw; go_simp⟩) ((Below.refl _ _).drew) ?_
        try simp only [Act.put, List.setIfInBounds_toArray, List.set_cons_zero, List.set_cons_succ]
        refine anyH_take 2 18 (.int .i64 (DD.length : Int)) rfl rfl (by kernel_rfl) (by kernel_rfl) (by kernel_rfl) (fun _ _ _ h => h) (Or.inl ⟨by rfl, by intro w hSw; go_simp⟩) ((Below.refl _ _).drew) ?_
        try simp only [Act.put, List.setIfInBounds_toArray, List.set_cons_zero, List.set_cons_succ]
        refine anyH_take 3 19 (.bool true) rfl rfl (by kernel_rfl) (by kernel_rfl) (by kernel_rfl) (fun _ _ _ h => h) (Or.inl ⟨by rfl, by intro w hSw; have s1 := hiI; go_simp⟩) ((Below.refl _ _).drew) ?_
        try simp only [Act.put, List.setIfInBounds_toArray, List.set_cons_zero, List.set_cons_succ]
        refine anyH_take 4 20 (.bool true) rfl rfl (by kernel_rfl) (by kernel_rfl) (by kernel_rfl) (fun _ _ _ h => h) (Or.inl ⟨by rfl, by intro w hSw; go_simp⟩) ((Below.refl _ _).drew) ?_
        try simp only [Act.put, List.setIfInBounds_toArray, List.set_cons_zero, List.set_cons_succ]
        refine anyH_take 5 21 (.slice (some ⟨g, o, none⟩) DD.length cD) rfl rfl (by kernel_rfl) (by kernel_rfl) (by kernel_rfl) (fun _ _ _ h => h) (Or.inl ⟨by rfl, by intro w hSw; go_simp⟩) ((Below.refl _ _).drew) ?_
        try simp only [Act.put, List.setIfInBounds_toArray, List.set_cons_zero, List.set_cons_succ]
        refine anyH_take 6 22 (.int .i64 (i : Int)) rfl rfl (by kernel_rfl) (by kernel_rfl) (by kernel_rfl) (fun _ _ _ h => h) (Or.inl ⟨by rfl, by intro w hSw; go_simp⟩) ((Below.refl _ _).drew) ?_
        try simp only [Act.put, List.setIfInBounds_toArray, List.set_cons_zero, List.set_cons_succ]
        refine anyH_take 7 23 (.pointer (some ⟨g, o + i * 6, none⟩)) rfl rfl (by kernel_rfl) (by kernel_rfl) (by kernel_rfl) (fun _ _ _ h => h) (Or.inl ⟨by rfl, by intro w hSw; go_simp⟩) ((Below.refl _ _).drew) ?_
        try simp only [Act.put, List.setIfInBounds_toArray, List.set_cons_zero, List.set_cons_succ]
        refine anyH_take 8 24 (.pointer (some ⟨g, o + i * 6, none⟩)) rfl rfl (by kernel_rfl) (by kernel_rfl) (by kernel_rfl) (fun _ _ _ h => h) (Or.inl ⟨by rfl, by intro w hSw; go_simp⟩) ((Below.refl _ _).drew) ?_
        try simp only [Act.put, List.setIfInBounds_toArray, List.set_cons_zero, List.set_cons_succ]
        refine anyH_take 9 25 (.int .i64 y.peer) rfl rfl (by kernel_rfl) (by kernel_rfl) (by kernel_rfl) (fun _ _ _ h => h) (Or.inl ⟨by rfl, by intro w hSw; have s1 := kc _ hSw; go_simp⟩) ((Below.refl _ _).drew) ?_
        try simp only [Act.put, List.setIfInBounds_toArray, List.set_cons_zero, List.set_cons_succ]
        refine anyH_take 10 26 (.pointer (some ⟨w.heap.size, 0, none⟩)) rfl rfl (by kernel_rfl) (by kernel_rfl) (by kernel_rfl) (fun _ _ _ h => h) (Or.inl ⟨by rfl, by intro w hSw; go_simp⟩) ((Below.refl _ _).drew) ?_
        try simp only [Act.put, List.setIfInBounds_toArray, List.set_cons_zero, List.set_cons_succ]
        refine anyH_take 11 27 (.int .i64 x.peer) rfl rfl (by kernel_rfl) (by kernel_rfl) (by kernel_rfl) (fun _ _ _ h => h) (Or.inl ⟨by rfl, by intro w hSw; have s1 := kp _ hSw; go_simp⟩) ((Below.refl _ _).drew) ?_
        try simp only [Act.put, List.setIfInBounds_toArray, List.set_cons_zero, List.set_cons_succ]
        refine anyH_take 12 28 (.bool true) rfl rfl (by kernel_rfl) (by kernel_rfl) (by kernel_rfl) (fun _ _ _ h => h) (Or.inl ⟨by rfl, by intro w hSw; have s3 := hcmp; go_simp⟩) ((Below.refl _ _).drew) ?_
        try simp only [Act.put, List.setIfInBounds_toArray, List.set_cons_zero, List.set_cons_succ]
        refine anyH_take 13 29 (.bool true) rfl rfl (by kernel_rfl) (by kernel_rfl) (by kernel_rfl) (fun _ _ _ h => h) (Or.inl ⟨by rfl, by intro w hSw; go_simp⟩) ((Below.refl _ _).drew) ?_
        try simp only [Act.put, List.setIfInBounds_toArray, List.set_cons_zero, List.set_cons_succ]
        refine wpAnyH_done (by kernel_rfl) ?_ _
        go_wp2
        go_roundg (gk - 1)
        case measure => omega
        case rel => exact ⟨i + 1, by first | rfl | go_num, by omega, fun j hj => (Nat.lt_succ_iff_lt_or_eq.1 hj).elim (HOK.out j) (fun e => by rw [e, HY.out]; exact hcmp), Br.drew⟩
      case neg =>
        have HPT : Hid (DD.take i ++ ([x] ++ DD.drop i) = putH x hs) := HINS.out i HKN.out HOK.out (fun _ => by rw [HY.out]; omega)
        go_wp2_with (fail)
        refine wp_region_any (by kernel_rfl) ?_
        change wpAny _ _ _ _ _ _ _ (World.drew _)
        refine wpAny_narrow (fun W' => Below wr.heap.size wr W') _ _ _ _ ?_
        refine anyH_take 0 16 (.int .i64 (i : Int)) rfl rfl (by kernel_rfl) (by kernel_rfl) (by kernel_rfl) (fun _ _ _ h => h) (Or.inl ⟨by rfl, by intro w hSw; go_simp⟩) ((Below.refl _ _).drew) ?_
        try simp only [Act.put, List.setIfInBounds_toArray, List.set_cons_zero, List.set_cons_succ]
        refine anyH_take 1 17 (.slice (some ⟨g, o, none⟩) DD.length cD) rfl rfl (by kernel_rfl) (by kernel_rfl) (by kernel_rfl) (fun _ _ _ h => h) (Or.inl ⟨by rfl, by intro w hSw; go_simp⟩) ((Below.refl _ _).drew) ?_
        try simp only [Act.put, List.setIfInBounds_toArray, List.set_cons_zero, List.set_cons_succ]
        refine anyH_take 2 18 (.int .i64 (DD.length : Int)) rfl rfl (by kernel_rfl) (by kernel_rfl) (by kernel_rfl) (fun _ _ _ h => h) (Or.inl ⟨by rfl, by intro w hSw; go_simp⟩) ((Below.refl _ _).drew) ?_
        try simp only [Act.put, List.setIfInBounds_toArray, List.set_cons_zero, List.set_cons_succ]
        refine anyH_take 3 19 (.bool true) rfl rfl (by kernel_rfl) (by kernel_rfl) (by kernel_rfl) (fun _ _ _ h => h) (Or.inl ⟨by rfl, by intro w hSw; have s1 := hiI; go_simp⟩) ((Below.refl _ _).drew) ?_
        try simp only [Act.put, List.setIfInBounds_toArray, List.set_cons_zero, List.set_cons_succ]
        refine anyH_take 4 20 (.bool true) rfl rfl (by kernel_rfl) (by kernel_rfl) (by kernel_rfl) (fun _ _ _ h => h) (Or.inl ⟨by rfl, by intro w hSw; go_simp⟩) ((Below.refl _ _).drew) ?_
        try simp only [Act.put, List.setIfInBounds_toArray, List.set_cons_zero, List.set_cons_succ]
        refine anyH_take 5 21 (.slice (some ⟨g, o, none⟩) DD.length cD) rfl rfl (by kernel_rfl) (by kernel_rfl) (by kernel_rfl) (fun _ _ _ h => h) (Or.inl ⟨by rfl, by intro w hSw; go_simp⟩) ((Below.refl _ _).drew) ?_
        try simp only [Act.put, List.setIfInBounds_toArray, List.set_cons_zero, List.set_cons_succ]
        refine anyH_take 6 22 (.int .i64 (i : Int)) rfl rfl (by kernel_rfl) (by kernel_rfl) (by kernel_rfl) (fun _ _ _ h => h) (Or.inl ⟨by rfl, by intro w hSw; go_simp⟩) ((Below.refl _ _).drew) ?_
        try simp only [Act.put, List.setIfInBounds_toArray, List.set_cons_zero, List.set_cons_succ]
        refine anyH_take 7 23 (.pointer (some ⟨g, o + i * 6, none⟩)) rfl rfl (by kernel_rfl) (by kernel_rfl) (by kernel_rfl) (fun _ _ _ h => h) (Or.inl ⟨by rfl, by intro w hSw; go_simp⟩) ((Below.refl _ _).drew) ?_
        try simp only [Act.put, List.setIfInBounds_toArray, List.set_cons_zero, List.set_cons_succ]
        refine anyH_take 8 24 (.pointer (some ⟨g, o + i * 6, none⟩)) rfl rfl (by kernel_rfl) (by kernel_rfl) (by kernel_rfl) (fun _ _ _ h => h) (Or.inl ⟨by rfl, by intro w hSw; go_simp⟩) ((Below.refl _ _).drew) ?_
        try simp only [Act.put, List.setIfInBounds_toArray, List.set_cons_zero, List.set_cons_succ]
        refine anyH_take 9 25 (.int .i64 y.peer) rfl rfl (by kernel_rfl) (by kernel_rfl) (by kernel_rfl) (fun _ _ _ h => h) (Or.inl ⟨by rfl, by intro w hSw; have s1 := kc _ hSw; go_simp⟩) ((Below.refl _ _).drew) ?_
        try simp only [Act.put, List.setIfInBounds_toArray, List.set_cons_zero, List.set_cons_succ]
        refine anyH_take 10 26 (.pointer (some ⟨w.heap.size, 0, none⟩)) rfl rfl (by kernel_rfl) (by kernel_rfl) (by kernel_rfl) (fun _ _ _ h => h) (Or.inl ⟨by rfl, by intro w hSw; go_simp⟩) ((Below.refl _ _).drew) ?_
        try simp only [Act.put, List.setIfInBounds_toArray, List.set_cons_zero, List.set_cons_succ]
        refine anyH_take 11 27 (.int .i64 x.peer) rfl rfl (by kernel_rfl) (by kernel_rfl) (by kernel_rfl) (fun _ _ _ h => h) (Or.inl ⟨by rfl, by intro w hSw; have s1 := kp _ hSw; go_simp⟩) ((Below.refl _ _).drew) ?_
        try simp only [Act.put, List.setIfInBounds_toArray, List.set_cons_zero, List.set_cons_succ]
        refine anyH_take 12 28 (.bool false) rfl rfl (by kernel_rfl) (by kernel_rfl) (by kernel_rfl) (fun _ _ _ h => h) (Or.inl ⟨by rfl, by intro w hSw; have s3 := hcmp; go_simp⟩) ((Below.refl _ _).drew) ?_
        try simp only [Act.put, List.setIfInBounds_toArray, List.set_cons_zero, List.set_cons_succ]
        refine anyH_take 13 29 (.bool false) rfl rfl (by kernel_rfl) (by kernel_rfl) (by kernel_rfl) (fun _ _ _ h => h) (Or.inl ⟨by rfl, by intro w hSw; go_simp⟩) ((Below.refl _ _).drew) ?_
        try simp only [Act.put, List.setIfInBounds_toArray, List.set_cons_zero, List.set_cons_succ]
        refine wpAnyH_done (by kernel_rfl) ?_ _
        clear HINS hi hiI hcmp kc H1
        have BB : Below w.heap.size w wr.drew := (BW.trans (C1.below.mono BW.size)).trans (Br.drew.mono (Nat.le_trans BW.size C1.below.size))
        have T5 := (BB0.block _ (row_lt T)).trans T
        clear kp kp0 Br BB0
        obtain ⟨w5, h5⟩ : ∃ w5, wr.drew = w5 := ⟨_, rfl⟩
        have E5 : Ech w.heap.size w5 es DD := by rw [← h5]; exact E1
        have L5 : RdH w5 (some ⟨g, o, none⟩) DD.length cD es := by rw [← h5]; exact L1
        have R5 : RdO w5 x a c1 := by rw [← h5]; exact RdL.below R0 BB
        have T6 : w5.heap[w.heap.size]? = some (.cells (x.on a c1).cells.toArray 24 (0, 0)) := by rw [← h5]; exact T5
        have BB5 : Below w.heap.size w w5 := by rw [← h5]; exact BB
        have M5 : Mid w.heap.size w5 [] (.slice none 0 0) [] w5 := Mid.nil _ _
        have HH5 : Hid (wr.drew = w5) := h5
        clear h5 T5 BB E1 L1 R0
        rw [HH5.out]
        go_wp2_with (first
          | ((with_reducible show wpList _ _ _ (Oper.mk _ (Op.slice 25 _ none _ none) _ _ _ _ :: _) _ _); refine wpList_toH rfl _ _ rfl rfl rfl HKC.out ?_)
          | ((with_reducible show wpList _ _ _ (Oper.mk _ (Op.call { callee := Callee.builtin Builtin.append, args := #[Operand.tmp 32, Operand.tmp 35], argTypes := #[25, 25] }) _ _ _ _ :: _) _ _); go_must (refine wpList_grow_lstH (base := w5.heap.size) (k := 0) (es := []) (ds := es.take i) rfl _ _ rfl rfl rfl M5.row (L5.to i HKN.out) (by have := HSM.out; have := HKN.out; omega) (Nat.le_refl _) ?_; intro v6 w6 O6 g6 b6; rw [Nat.zero_add] at O6; have M6 := M5.more (xs := DD.take i) (E5.take i HKN.out) (by rw [List.length_take, List.length_take]; have := HLN.out; have := HKN.out; omega) g6 b6 (by rw [List.length_take, Nat.min_eq_left HKN.out]; exact (by rw [show ([] : List HS).length + i = i from Nat.zero_add i]; exact O6))))
          | ((with_reducible show wpList _ _ _ (Oper.mk _ (Op.load 24 _) _ _ _ _ :: _) _ _); refine wpList_load24 rfl _ rfl w.heap.size 0 (x.on a c1) rfl (range_rowH ((M6.below.block _ (row_lt T6)).trans T6)) ?_)
          | (go_at_call 29; refine (one_any x a c1 _ (RdL.below R5 M6.below)).mono ?_; rintro e w7 ⟨a2, c2, rfl, O7, b7⟩; dsimp only [HS.on, HR.val])
          | ((with_reducible show wpList _ _ _ (Oper.mk _ (Op.call { callee := Callee.builtin Builtin.append, args := #[Operand.tmp 37, Operand.tmp 40], argTypes := #[25, 25] }) _ _ _ _ :: _) _ _); go_must (have M7 := (M6.later b7).later ((Below.refl _ _).alloc (Nat.le_refl _) (.cells #[.int .i64 x.peer, .int .i64 x.boot, .int .i64 x.life, .slice a2 x.ls.length c2, .bool x.pend, .int .i64 x.miss] 24)); have X8 := World.alloc_heap_new w7 (.cells #[.int .i64 x.peer, .int .i64 x.boot, .int .i64 x.life, .slice a2 x.ls.length c2, .bool x.pend, .int .i64 x.miss] 24); refine wpList_more_lstH (base := w5.heap.size) (v := v6) (k := ([] ++ DD.take i).length) (es := [] ++ es.take i) (ds := [x.on a2 c2]) (ad := ⟨w7.heap.size, 0, none⟩) rfl _ _ rfl rfl rfl M7.row rfl (fun j u hj => by rw [add_plain, Nat.zero_add]; exact row_cell X8 j u (by simpa [csH, HR.cells, HS.on] using hj)) (by have := HSM.out; have := HKN.out; rw [List.nil_append, List.length_take]; omega) M7.below.size ?_; intro v8 w8 O8 g8 b8; have M8 := M7.more (xs := [x]) (fs := [x.on a2 c2]) (Ech.one (((O7.mono (Nat.le_trans BB5.size M6.below.size)).below ((Below.refl _ _).alloc (Nat.le_refl _) _)))) rfl g8 b8 O8))
          | ((with_reducible show wpList _ _ _ (Oper.mk _ (Op.slice 25 _ _ none none) _ _ _ _ :: _) _ _); go_must (refine wpList_fromH rfl _ _ rfl rfl rfl (L5.below M8.below) HKN.out ?_; intro a9 L9))
          | ((with_reducible show wpList _ _ _ (Oper.mk _ (Op.call { callee := Callee.builtin Builtin.append, args := #[Operand.tmp 42, Operand.tmp 45], argTypes := #[25, 25] }) _ _ _ _ :: _) _ _); go_must (refine wpList_grow_lstH (base := w5.heap.size) (v := v8) (k := ([] ++ DD.take i ++ [x]).length) (es := [] ++ es.take i ++ [x.on a2 c2]) (ds := es.drop i) rfl _ _ rfl rfl rfl M8.row L9 (by have := HSM.out; have := HKN.out; rw [List.nil_append, List.length_append, List.length_take]; show _; simp only [List.length_singleton]; omega) M8.below.size ?_; intro v9 w9 O9 g9 b9; have M9 := M8.more (xs := DD.drop i) (((E5.drop i).ofs M5 M8)) (by rw [List.length_drop, List.length_drop]; have := HLN.out; omega) g9 b9 (by rw [List.length_drop]; exact O9))))
        go_ret
        refine ⟨v9, rfl, [] ++ es.take i ++ [x.on a2 c2] ++ es.drop i, ?_⟩
        have e9 : [] ++ DD.take i ++ [x] ++ DD.drop i = putH x hs := by rw [List.nil_append, List.append_assoc]; exact HPT.out
        rw [← e9]
        exact M9.cpy BB5

    case neg =>
      have hiI : ¬ (i : Int) < (DD.length : Int) := by omega
      have HPT : Hid (DD.take i ++ ([x] ++ DD.drop i) = putH x hs) := HINS.out i HKN.out HOK.out (fun k => absurd k hi)
      go_wp2_with (fail)
      refine wp_region_any (by kernel_rfl) ?_
      change wpAny _ _ _ _ _ _ _ (World.drew _)
      refine wpAny_narrow (fun W' => Below wr.heap.size wr W') _ _ _ _ ?_
      refine anyH_take 0 16 (.int .i64 (i : Int)) rfl rfl (by kernel_rfl) (by kernel_rfl) (by kernel_rfl) (fun _ _ _ h => h) (Or.inl ⟨by rfl, by intro w hSw; go_simp⟩) ((Below.refl _ _).drew) ?_
      try simp only [Act.put, List.setIfInBounds_toArray, List.set_cons_zero, List.set_cons_succ]
      refine anyH_take 1 17 (.slice aD DD.length cD) rfl rfl (by kernel_rfl) (by kernel_rfl) (by kernel_rfl) (fun _ _ _ h => h) (Or.inl ⟨by rfl, by intro w hSw; go_simp⟩) ((Below.refl _ _).drew) ?_
      try simp only [Act.put, List.setIfInBounds_toArray, List.set_cons_zero, List.set_cons_succ]
      refine anyH_take 2 18 (.int .i64 (DD.length : Int)) rfl rfl (by kernel_rfl) (by kernel_rfl) (by kernel_rfl) (fun _ _ _ h => h) (Or.inl ⟨by rfl, by intro w hSw; go_simp⟩) ((Below.refl _ _).drew) ?_
      try simp only [Act.put, List.setIfInBounds_toArray, List.set_cons_zero, List.set_cons_succ]
      refine anyH_take 3 19 (.bool false) rfl rfl (by kernel_rfl) (by kernel_rfl) (by kernel_rfl) (fun _ _ _ h => h) (Or.inl ⟨by rfl, by intro w hSw; have s1 := hiI; go_simp⟩) ((Below.refl _ _).drew) ?_
      try simp only [Act.put, List.setIfInBounds_toArray, List.set_cons_zero, List.set_cons_succ]
      refine anyH_take 4 20 (.bool false) rfl rfl (by kernel_rfl) (by kernel_rfl) (by kernel_rfl) (fun _ _ _ h => h) (Or.inl ⟨by rfl, by intro w hSw; go_simp⟩) ((Below.refl _ _).drew) ?_
      try simp only [Act.put, List.setIfInBounds_toArray, List.set_cons_zero, List.set_cons_succ]
      refine anyH_take 5 21 (undef) rfl rfl (by kernel_rfl) (by kernel_rfl) (by kernel_rfl) (fun _ _ _ h => h) (Or.inr ⟨by rfl, rfl⟩) ((Below.refl _ _).drew) ?_
      try simp only [Act.put, List.setIfInBounds_toArray, List.set_cons_zero, List.set_cons_succ]
      refine anyH_take 6 22 (undef) rfl rfl (by kernel_rfl) (by kernel_rfl) (by kernel_rfl) (fun _ _ _ h => h) (Or.inr ⟨by rfl, rfl⟩) ((Below.refl _ _).drew) ?_
      try simp only [Act.put, List.setIfInBounds_toArray, List.set_cons_zero, List.set_cons_succ]
      refine anyH_take 7 23 (undef) rfl rfl (by kernel_rfl) (by kernel_rfl) (by kernel_rfl) (fun _ _ _ h => h) (Or.inr ⟨by rfl, rfl⟩) ((Below.refl _ _).drew) ?_
      try simp only [Act.put, List.setIfInBounds_toArray, List.set_cons_zero, List.set_cons_succ]
      refine anyH_take 8 24 (undef) rfl rfl (by kernel_rfl) (by kernel_rfl) (by kernel_rfl) (fun _ _ _ h => h) (Or.inr ⟨by rfl, rfl⟩) ((Below.refl _ _).drew) ?_
      try simp only [Act.put, List.setIfInBounds_toArray, List.set_cons_zero, List.set_cons_succ]
      refine anyH_take 9 25 (undef) rfl rfl (by kernel_rfl) (by kernel_rfl) (by kernel_rfl) (fun _ _ _ h => h) (Or.inr ⟨by rfl, rfl⟩) ((Below.refl _ _).drew) ?_
      try simp only [Act.put, List.setIfInBounds_toArray, List.set_cons_zero, List.set_cons_succ]
      refine anyH_take 10 26 (undef) rfl rfl (by kernel_rfl) (by kernel_rfl) (by kernel_rfl) (fun _ _ _ h => h) (Or.inr ⟨by rfl, rfl⟩) ((Below.refl _ _).drew) ?_
      try simp only [Act.put, List.setIfInBounds_toArray, List.set_cons_zero, List.set_cons_succ]
      refine anyH_take 11 27 (undef) rfl rfl (by kernel_rfl) (by kernel_rfl) (by kernel_rfl) (fun _ _ _ h => h) (Or.inr ⟨by rfl, rfl⟩) ((Below.refl _ _).drew) ?_
      try simp only [Act.put, List.setIfInBounds_toArray, List.set_cons_zero, List.set_cons_succ]
      refine anyH_take 12 28 (undef) rfl rfl (by kernel_rfl) (by kernel_rfl) (by kernel_rfl) (fun _ _ _ h => h) (Or.inr ⟨by rfl, rfl⟩) ((Below.refl _ _).drew) ?_
      try simp only [Act.put, List.setIfInBounds_toArray, List.set_cons_zero, List.set_cons_succ]
      refine anyH_take 13 29 (.bool false) rfl rfl (by kernel_rfl) (by kernel_rfl) (by kernel_rfl) (fun _ _ _ h => h) (Or.inl ⟨by rfl, by intro w hSw; go_simp⟩) ((Below.refl _ _).drew) ?_
      try simp only [Act.put, List.setIfInBounds_toArray, List.set_cons_zero, List.set_cons_succ]
      refine wpAnyH_done (by kernel_rfl) ?_ _
      clear HINS hi hiI H1
      have BB : Below w.heap.size w wr.drew := (BW.trans (C1.below.mono BW.size)).trans (Br.drew.mono (Nat.le_trans BW.size C1.below.size))
      have T5 := (BB0.block _ (row_lt T)).trans T
      clear kp kp0 Br BB0
      obtain ⟨w5, h5⟩ : ∃ w5, wr.drew = w5 := ⟨_, rfl⟩
      have E5 : Ech w.heap.size w5 es DD := by rw [← h5]; exact E1
      have L5 : RdH w5 aD DD.length cD es := by rw [← h5]; exact L1
      have R5 : RdO w5 x a c1 := by rw [← h5]; exact RdL.below R0 BB
      have T6 : w5.heap[w.heap.size]? = some (.cells (x.on a c1).cells.toArray 24 (0, 0)) := by rw [← h5]; exact T5
      have BB5 : Below w.heap.size w w5 := by rw [← h5]; exact BB
      have M5 : Mid w.heap.size w5 [] (.slice none 0 0) [] w5 := Mid.nil _ _
      have HH5 : Hid (wr.drew = w5) := h5
      clear h5 T5 BB E1 L1 R0
      rw [HH5.out]
      go_wp2_with (first
        | ((with_reducible show wpList _ _ _ (Oper.mk _ (Op.slice 25 _ none _ none) _ _ _ _ :: _) _ _); refine wpList_toH rfl _ _ rfl rfl rfl HKC.out ?_)
        | ((with_reducible show wpList _ _ _ (Oper.mk _ (Op.call { callee := Callee.builtin Builtin.append, args := #[Operand.tmp 32, Operand.tmp 35], argTypes := #[25, 25] }) _ _ _ _ :: _) _ _); go_must (refine wpList_grow_lstH (base := w5.heap.size) (k := 0) (es := []) (ds := es.take i) rfl _ _ rfl rfl rfl M5.row (L5.to i HKN.out) (by have := HSM.out; have := HKN.out; omega) (Nat.le_refl _) ?_; intro v6 w6 O6 g6 b6; rw [Nat.zero_add] at O6; have M6 := M5.more (xs := DD.take i) (E5.take i HKN.out) (by rw [List.length_take, List.length_take]; have := HLN.out; have := HKN.out; omega) g6 b6 (by rw [List.length_take, Nat.min_eq_left HKN.out]; exact (by rw [show ([] : List HS).length + i = i from Nat.zero_add i]; exact O6))))
        | ((with_reducible show wpList _ _ _ (Oper.mk _ (Op.load 24 _) _ _ _ _ :: _) _ _); refine wpList_load24 rfl _ rfl w.heap.size 0 (x.on a c1) rfl (range_rowH ((M6.below.block _ (row_lt T6)).trans T6)) ?_)
        | (go_at_call 29; refine (one_any x a c1 _ (RdL.below R5 M6.below)).mono ?_; rintro e w7 ⟨a2, c2, rfl, O7, b7⟩; dsimp only [HS.on, HR.val])
        | ((with_reducible show wpList _ _ _ (Oper.mk _ (Op.call { callee := Callee.builtin Builtin.append, args := #[Operand.tmp 37, Operand.tmp 40], argTypes := #[25, 25] }) _ _ _ _ :: _) _ _); go_must (have M7 := (M6.later b7).later ((Below.refl _ _).alloc (Nat.le_refl _) (.cells #[.int .i64 x.peer, .int .i64 x.boot, .int .i64 x.life, .slice a2 x.ls.length c2, .bool x.pend, .int .i64 x.miss] 24)); have X8 := World.alloc_heap_new w7 (.cells #[.int .i64 x.peer, .int .i64 x.boot, .int .i64 x.life, .slice a2 x.ls.length c2, .bool x.pend, .int .i64 x.miss] 24); refine wpList_more_lstH (base := w5.heap.size) (v := v6) (k := ([] ++ DD.take i).length) (es := [] ++ es.take i) (ds := [x.on a2 c2]) (ad := ⟨w7.heap.size, 0, none⟩) rfl _ _ rfl rfl rfl M7.row rfl (fun j u hj => by rw [add_plain, Nat.zero_add]; exact row_cell X8 j u (by simpa [csH, HR.cells, HS.on] using hj)) (by have := HSM.out; have := HKN.out; rw [List.nil_append, List.length_take]; omega) M7.below.size ?_; intro v8 w8 O8 g8 b8; have M8 := M7.more (xs := [x]) (fs := [x.on a2 c2]) (Ech.one (((O7.mono (Nat.le_trans BB5.size M6.below.size)).below ((Below.refl _ _).alloc (Nat.le_refl _) _)))) rfl g8 b8 O8))
        | ((with_reducible show wpList _ _ _ (Oper.mk _ (Op.slice 25 _ _ none none) _ _ _ _ :: _) _ _); go_must (refine wpList_fromH rfl _ _ rfl rfl rfl (L5.below M8.below) HKN.out ?_; intro a9 L9))
        | ((with_reducible show wpList _ _ _ (Oper.mk _ (Op.call { callee := Callee.builtin Builtin.append, args := #[Operand.tmp 42, Operand.tmp 45], argTypes := #[25, 25] }) _ _ _ _ :: _) _ _); go_must (refine wpList_grow_lstH (base := w5.heap.size) (v := v8) (k := ([] ++ DD.take i ++ [x]).length) (es := [] ++ es.take i ++ [x.on a2 c2]) (ds := es.drop i) rfl _ _ rfl rfl rfl M8.row L9 (by have := HSM.out; have := HKN.out; rw [List.nil_append, List.length_append, List.length_take]; show _; simp only [List.length_singleton]; omega) M8.below.size ?_; intro v9 w9 O9 g9 b9; have M9 := M8.more (xs := DD.drop i) (((E5.drop i).ofs M5 M8)) (by rw [List.length_drop, List.length_drop]; have := HLN.out; omega) g9 b9 (by rw [List.length_drop]; exact O9))))
      go_ret
      refine ⟨v9, rfl, [] ++ es.take i ++ [x.on a2 c2] ++ es.drop i, ?_⟩
      have e9 : [] ++ DD.take i ++ [x] ++ DD.drop i = putH x hs := by rw [List.nil_append, List.append_assoc]; exact HPT.out
      rw [← e9]
      exact M9.cpy BB5

end Go.Proofs.Ytacefkchhcpgaaa
