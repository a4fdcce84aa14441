/-
  Of two half-edges with one register, at its two ends, what the one takes the other one gives, and all estimates together are all inputs together (P11.7): the law BookPairs returns true for every input.
-/
import Derived.Test.YtcacocndcfbmaaaH15
import Derived.Deep.Onto
import Derived.Test.YtcacocndcfbmaaaB9
import Derived.Test.YtcacocndcfbmaaaIH
import Derived.Test.YtcacocndcfbmaaaF40
import Derived.OwnWalk
import Derived.Deep.Slices
import Derived.ChangeSame
import Derived.OpenShut
import Derived.Deep.LoopGhost
import Derived.WalkLawsBesides
import Derived.Test.YtcacocndcfbmaaaHeld
import Derived.Test.YtcacocndcfbmaaaGrW
import Derived.Deep.Cut
import Derived.Test.YtcacocndcfbmaaaRows
import Derived.WalkKit
import Derived.ProofKit
import Derived.ChangeOld
import Derived.Below
import Derived.SizedLaws
import Derived.ShutString
namespace Go.Proofs.Ytcacocndcfbmaaa
open Go.ChangeShapes Go.WideShapes Go.ChangeAt Go.RowKit Go.Maps Go.Shelf
set_option linter.unusedVariables false
set_option linter.unusedSimpArgs false
attribute [local go_sem] Oper.semAt_some

theorem own_grow' {b0 base i : Nat} {W W' : World} {v : Value} {es : List HR} {h : HS} {a : Option Addr} {c : Nat} (row : W.ownsRow base 43 6 v i (csH es)) (r : W.grownBy W' v.ownBlock) (o : Own b0 W h a c) : Own b0 W' h a c := by
  refine ⟨?_, o.new⟩
  refine o.lst.of_block fun g off e => ?_
  rcases o.lst.mem with ⟨e', _⟩ | ⟨g', off', cur, e', hh, _⟩
  · rw [e'] at e; cases e
  · rw [e'] at e; cases e
    exact r.block g (row_lt hh) (owns_ne row hh (by decide))
theorem Ech.grow {b0 base i : Nat} {W W' : World} {v : Value} {es fs : List HR} {hs : List HS} (row : W.ownsRow base 43 6 v i (csH es)) (r : W.grownBy W' v.ownBlock) (h : Ech b0 W fs hs) : Ech b0 W' fs hs := fun j hj => by
  obtain ⟨a, c, e, O⟩ := h j hj
  exact ⟨a, c, e, own_grow' row r O⟩
theorem getD_take {α : Type} (l : List α) (k i : Nat) (z : α) (h : i < k) : (l.take k).getD i z = l.getD i z := by
  rw [List.getD_eq_getElem?_getD, List.getElem?_take, if_pos h, List.getD_eq_getElem?_getD]
theorem getD_drop {α : Type} (l : List α) (k i : Nat) (z : α) : (l.drop k).getD i z = l.getD (k + i) z := by
  rw [List.getD_eq_getElem?_getD, List.getElem?_drop, List.getD_eq_getElem?_getD]
theorem Ech.take {b0 : Nat} {W : World} {es : List HR} {hs : List HS} (h : Ech b0 W es hs) (k : Nat) (hk : k ≤ hs.length) : Ech b0 W (es.take k) (hs.take k) := fun i hi => by
  rw [List.length_take] at hi
  rw [getD_take _ _ _ _ (by omega), getD_take _ _ _ _ (by omega)]
  exact h i (by omega)
theorem Ech.drop {b0 : Nat} {W : World} {es : List HR} {hs : List HS} (h : Ech b0 W es hs) (k : Nat) : Ech b0 W (es.drop k) (hs.drop k) := fun i hi => by
  rw [List.length_drop] at hi
  rw [getD_drop, getD_drop]
  exact h (k + i) (by omega)
theorem Ech.one {b0 : Nat} {W : World} {x : HS} {a : Option Addr} {c : Nat} (O : Own b0 W x a c) : Ech b0 W [x.on a c] [x] := fun i hi => by
  have : i = 0 := by simpa using hi
  subst this
  exact ⟨a, c, rfl, O⟩
theorem Ech.append {b0 : Nat} {W : World} {es fs : List HR} {hs xs : List HS} (h : Ech b0 W es hs) (k : Ech b0 W fs xs) (hl : es.length = hs.length) : Ech b0 W (es ++ fs) (hs ++ xs) := fun i hi => by
  rw [List.length_append] at hi
  by_cases c : i < hs.length
  · rw [List.getD_eq_getElem?_getD, List.getElem?_append_left (by omega), ← List.getD_eq_getElem?_getD, List.getD_eq_getElem?_getD (l := hs ++ xs), List.getElem?_append_left c, ← List.getD_eq_getElem?_getD]
    exact h i c
  · rw [List.getD_eq_getElem?_getD, List.getElem?_append_right (by omega), ← List.getD_eq_getElem?_getD, List.getD_eq_getElem?_getD (l := hs ++ xs), List.getElem?_append_right (by omega), ← List.getD_eq_getElem?_getD, hl]
    exact k (i - hs.length) (by omega)
/-- A list of one's own that is being put together, since W0. -/
structure Mid (b0 : Nat) (W0 : World) (ds : List HS) (v : Value) (es : List HR) (W : World) : Prop where
  row : W.ownsRow W0.heap.size 43 6 v ds.length (csH es)
  len : es.length = ds.length
  ech : Ech b0 W es ds
  below : Below W0.heap.size W0 W
theorem Mid.nil (b0 : Nat) (W : World) : Mid b0 W [] (.slice none 0 0) [] W := ⟨World.ownsRow_nil _ _ 43 6, rfl, fun i hi => (by cases hi), Below.refl _ _⟩
theorem Mid.later {b0 : Nat} {W0 : World} {ds : List HS} {v : Value} {es : List HR} {W W' : World} (M : Mid b0 W0 ds v es W) (b : Below W.heap.size W W') : Mid b0 W0 ds v es W' :=
  ⟨owns_later M.row b, M.len, M.ech.below b, M.below.trans (b.mono M.below.size)⟩
theorem Mid.more {b0 : Nat} {W0 : World} {ds xs : List HS} {v v' : Value} {es fs : List HR} {W W' : World} (M : Mid b0 W0 ds v es W) (E : Ech b0 W fs xs) (hl : fs.length = xs.length) (r : W.grownBy W' v.ownBlock) (b : Below W0.heap.size W W') (o : W'.ownsRow W0.heap.size 43 6 v' (ds.length + xs.length) (csH (es ++ fs))) : Mid b0 W0 (ds ++ xs) v' (es ++ fs) W' :=
  ⟨by rw [List.length_append]; exact o, by rw [List.length_append, List.length_append, M.len, hl], (M.ech.grow M.row r).append (E.grow M.row r) M.len, M.below.trans b⟩
/-- Half-edges with lines of their own that lay there at the start still do. -/
theorem Ech.ofs {b0 : Nat} {W0 : World} {ds ds' : List HS} {v v' : Value} {es es' : List HR} {fs : List HR} {hs : List HS} {W : World} (h : Ech b0 W0 fs hs) (M0 : Mid b0 W0 ds' v' es' W0) (M : Mid b0 W0 ds v es W) : Ech b0 W fs hs := h.below M.below
theorem Mid.cpy {w W0 : World} {ds : List HS} {v : Value} {es : List HR} {W : World} (M : Mid w.heap.size W0 ds v es W) (b : Below w.heap.size w W0) : Cpy w ds ds.length v es W :=
  ⟨b.trans (M.below.mono b.size), M.row.mono b.size, M.len, M.ech⟩
theorem drop_few {k : Int} {hs : List HS} (h : ∀ j, j < hs.length → (hs.getD j HS.z).ls.length * 40 ≤ 140737488355328) : (dropH k hs).length ≤ hs.length ∧ ∀ j, j < (dropH k hs).length → ((dropH k hs).getD j HS.z).ls.length * 40 ≤ 140737488355328 := by
  unfold dropH
  split
  · rename_i hh
    have hp : posH k hs < hs.length := hit_lt hh
    refine ⟨by rw [List.length_eraseIdx, if_pos hp]; omega, erase_few _ hp h⟩
  · exact ⟨Nat.le_refl _, h⟩
/-- What is put among the others is where it belongs. -/
theorem drop_ins {x : HS} {hs : List HS} (hr : Rise hs) {i : Nat} (hi : i ≤ (dropH x.peer hs).length) (h0 : ∀ j, j < i → ((dropH x.peer hs).getD j HS.z).peer < x.peer) (h1 : i < (dropH x.peer hs).length → ¬ ((dropH x.peer hs).getD i HS.z).peer < x.peer) : (dropH x.peer hs).take i ++ ([x] ++ (dropH x.peer hs).drop i) = putH x hs := by
  cases hh : hitH x.peer hs with
  | false =>
    have e : dropH x.peer hs = hs := by unfold dropH; rw [if_neg (by rw [hh]; decide)]
    rw [e] at hi h0 h1 ⊢
    have hp : posH x.peer hs = i := pos_unique HS.z hi (fun j hj => decide_eq_true (h0 j hj)) (fun k => decide_eq_false (h1 k))
    rw [put_no hh, hp]
    rfl
  | true =>
    obtain ⟨hp, he⟩ := hit_peer hh
    have e : dropH x.peer hs = hs.eraseIdx (posH x.peer hs) := by unfold dropH; rw [if_pos hh]
    rw [e] at hi h0 h1 ⊢
    rw [put_hit hh]
    obtain ⟨p, hpp⟩ : ∃ p : Nat, posH x.peer hs = p := ⟨_, rfl⟩
    have hbl := fun j (hj : j < posH x.peer hs) => below_pos (k := x.peer) (hs := hs) j hj
    rw [hpp] at hi h0 h1 hp he hbl ⊢
    have hl : (hs.eraseIdx p).length = hs.length - 1 := by rw [List.length_eraseIdx, if_pos hp]
    have hip : i = p := by
      rcases Nat.lt_trichotomy i p with c | c | c
      · have := h1 (by omega)
        rw [getD_erase, if_pos c] at this
        exact absurd (hbl i c) this
      · exact c
      · have := h0 p c
        rw [getD_erase, if_neg (by omega)] at this
        have h3 := hr p (p + 1) (by omega) (by omega)
        omega
    subst hip
    have hti : (hs.take i).length = i := by rw [List.length_take]; omega
    rw [List.eraseIdx_eq_take_drop_succ, List.take_left' hti, List.drop_left' hti, List.set_eq_take_append_cons_drop, if_pos hp]
    rfl
set_option maxRecDepth 100000 in
set_option maxHeartbeats 16000000 in
theorem rput_any (x : HS) (a : Option Addr) (c1 : Nat) (A : Option Addr) (c : Nat) (hs : List HS) (w : World) (R0 : RdO w x a c1) (P0 : Hs w A hs.length c hs) (hr : Rise hs) (hn : hs.length + 1 ≤ 65536) : Calls Try.prog 20 #[.slice A hs.length c, (x.on a c1).val] w fun e w' => ∃ v es, e = .returned v ∧ Cpy w (putH x hs) (putH x hs).length v es w' := by
  obtain ⟨W0, hW0⟩ : ∃ X, w.alloc (.cells #[.int .i64 x.peer, .int .i64 x.boot, .int .i64 x.life, .slice a x.ls.length c1, .bool x.pend, .int .i64 x.miss] 43) = X := ⟨_, rfl⟩
  have BW : Below w.heap.size w W0 := by rw [← hW0]; exact (Below.refl _ _).alloc (Nat.le_refl _) _
  have T : W0.heap[w.heap.size]? = some (.cells (x.on a c1).cells.toArray 43 (0, 0)) := by rw [← hW0]; exact heap_new rfl
  have P := P0.below BW
  have K19 := rdrop_any x.peer A c hs W0 P hr
  have kp0 : ∀ X, Below W0.heap.size W0 X → X.cell? ⟨w.heap.size, 0, none⟩ = some (.int .i64 x.peer) := fun X b => (b.cell (p := ⟨w.heap.size, 0, none⟩) (row_lt T)).trans (row_cell T 0 _ rfl)
  have kp1 := kp0 _ (Below.refl _ _)
  obtain ⟨dl, df⟩ := drop_few (k := x.peer) P.few
  have hins := fun i hi h0 h1 => drop_ins (x := x) hr (i := i) hi h0 h1
  obtain ⟨DD, hDD⟩ : ∃ DD, dropH x.peer hs = DD := ⟨_, rfl⟩
  rw [hDD] at K19 dl df
  simp only [hDD] at hins
  have HINS : Hid (∀ i, i ≤ DD.length → (∀ j, j < i → (DD.getD j HS.z).peer < x.peer) → (i < DD.length → ¬ (DD.getD i HS.z).peer < x.peer) → DD.take i ++ ([x] ++ DD.drop i) = putH x hs) := hins
  have HSM : Hid (DD.length ≤ 65535) := by show _ ≤ _; omega
  have HDF : Hid (∀ j, j < DD.length → (DD.getD j HS.z).ls.length * 40 ≤ 140737488355328) := df
  have HW : Hid (w.alloc (.cells #[.int .i64 x.peer, .int .i64 x.boot, .int .i64 x.life, .slice a x.ls.length c1, .bool x.pend, .int .i64 x.miss] 43) = W0) := hW0
  clear hDD hins dl df hW0 P P0 hn hr
  rw [show (x.on a c1).val = .agg #[.int .i64 x.peer, .int .i64 x.boot, .int .i64 x.life, .slice a x.ls.length c1, .bool x.pend, .int .i64 x.miss] from rfl]
  go_enter Try.func20, Try.ntmps20
  go_wp2_with (fail)
  rw [HW.out]
  clear HW
  go_wp2_with (go_at_call 34; refine K19.mono ?_; rintro e w1 ⟨v1, es, rfl, C1⟩; obtain ⟨aD, cD, rfl, LL, ND⟩ := own_lstH C1.row C1.len; clear K19)
  have H1 : Hs w1 aD DD.length cD DD := by
    obtain ⟨a', c', e, h⟩ := C1.hs (by have := HSM.out; omega) HDF.out
    cases e
    exact h
  have HLC : Hid (DD.length ≤ cD) := LL.le
  have HLN : Hid (es.length = DD.length) := C1.len
  have L0 : RdH w1 aD DD.length cD es := LL.rd (by have := HSM.out; omega)
  have E0 : Ech W0.heap.size w1 es DD := C1.each
  clear LL ND kp1
  go_loopg [8] DD.length (fun gk v8 wr => ∃ i : Nat, v8 = .int .i64 (i : Int) ∧ i + gk = DD.length ∧ (∀ j, j < i → (DD.getD j HS.z).peer < x.peer) ∧ Below w1.heap.size w1 wr)
  case atStart => exact ⟨0, by first | rfl | go_num, by omega, fun j hj => by omega, Below.refl _ _⟩
  case round =>
    obtain ⟨i, rfl, hgk, hok, Br⟩ := hrel
    have HOK : Hid (∀ j, j < i → (DD.getD j HS.z).peer < x.peer) := hok
    have HKN : Hid (i ≤ DD.length) := by show _ ≤ _; omega
    have HKC : Hid (i ≤ cD) := by have := HLC.out; show _ ≤ _; omega
    have BB0 : Below W0.heap.size W0 wr.drew := C1.below.trans (Br.drew.mono C1.below.size)
    have kp : ∀ X, Below wr.heap.size wr X → X.cell? ⟨w.heap.size, 0, none⟩ = some (.int .i64 x.peer) := fun X b => kp0 _ ((C1.below.trans (Br.mono C1.below.size)).trans (b.mono (Nat.le_trans C1.below.size Br.size)))
    have L1 : RdH wr.drew aD DD.length cD es := L0.below Br.drew
    have E1 : Ech w.heap.size wr.drew es DD := (E0.mono BW.size).below Br.drew
    clear hok
    by_cases hi : i < DD.length
    case pos =>
      have hiI : (i : Int) < (DD.length : Int) := by omega
      have hwr : IntKind.i64.wrap ((i : Int) + 1) = (i : Int) + 1 := by rw [IntKind.wrap_i64]; have := HSM.out; omega
      obtain ⟨g, o, ai, ci, rfl, k10, r10, R10⟩ := H1.at i hi
      obtain ⟨y, ey⟩ : ∃ y, DD.getD i HS.z = y := ⟨_, rfl⟩
      rw [ey] at r10
      have HY : Hid (DD.getD i HS.z = y) := ey
      have r1 := range_later r10 k10 Br
      have k1 := Nat.lt_of_lt_of_le k10 Br.size
      have kc : ∀ X, Below wr.heap.size wr X → X.cell? ⟨g, o + i * 6, none⟩ = some (.int .i64 y.peer) := fun X b => peer_cell (range_later r1 k1 b)
      clear ey r10 R10 r1
      by_cases hcmp : y.peer < x.peer
      case pos =>
        go_wp2_with (fail)
        refine wp_region_any (by kernel_rfl) ?_
        change wpAny _ _ _ _ _ _ _ (World.drew _)
        refine wpAny_narrow (fun W' => Below wr.heap.size wr W') _ _ _ _ ?_
        refine anyH_take 0 16 (.int .i64 (i : Int)) rfl rfl (by kernel_rfl) (by kernel_rfl) (by kernel_rfl) (fun _ _ _ h => h) (Or.inl ⟨by rfl, by intro w hSw; go_simp⟩) ((Below.refl _ _).drew) ?_
        try simp only [Act.put, List.setIfInBounds_toArray, List.set_cons_zero, List.set_cons_succ]
        refine anyH_take 1 17 (.slice (some ⟨g, o, none⟩) DD.length cD) rfl rfl (by kernel_rfl) (by kernel_rfl) (by kernel_rfl) (fun _ _ _ h => h) (Or.inl ⟨by rfl, by intro w hSw; go_simp⟩) ((Below.refl _ _).drew) ?_
        try simp only [Act.put, List.setIfInBounds_toArray, List.set_cons_zero, List.set_cons_succ]
        refine anyH_take 2 18 (.int .i64 (DD.length : Int)) rfl rfl (by kernel_rfl) (by kernel_rfl) (by kernel_rfl) (fun _ _ _ h => h) (Or.inl ⟨by rfl, by intro w hSw; go_simp⟩) ((Below.refl _ _).drew) ?_
        try simp only [Act.put, List.setIfInBounds_toArray, List.set_cons_zero, List.set_cons_succ]
        refine anyH_take 3 19 (.bool true) rfl rfl (by kernel_rfl) (by kernel_rfl) (by kernel_rfl) (fun _ _ _ h => h) (Or.inl ⟨by rfl, by intro w hSw; have s1 := hiI; go_simp⟩) ((Below.refl _ _).drew) ?_
        try simp only [Act.put, List.setIfInBounds_toArray, List.set_cons_zero, List.set_cons_succ]
        refine anyH_take 4 20 (.bool true) rfl rfl (by kernel_rfl) (by kernel_rfl) (by kernel_rfl) (fun _ _ _ h => h) (Or.inl ⟨by rfl, by intro w hSw; go_simp⟩) ((Below.refl _ _).drew) ?_
        try simp only [Act.put, List.setIfInBounds_toArray, List.set_cons_zero, List.set_cons_succ]
        refine anyH_take 5 21 (.slice (some ⟨g, o, none⟩) DD.length cD) rfl rfl (by kernel_rfl) (by kernel_rfl) (by kernel_rfl) (fun _ _ _ h => h) (Or.inl ⟨by rfl, by intro w hSw; go_simp⟩) ((Below.refl _ _).drew) ?_
        try simp only [Act.put, List.setIfInBounds_toArray, List.set_cons_zero, List.set_cons_succ]
        refine anyH_take 6 22 (.int .i64 (i : Int)) rfl rfl (by kernel_rfl) (by kernel_rfl) (by kernel_rfl) (fun _ _ _ h => h) (Or.inl ⟨by rfl, by intro w hSw; go_simp⟩) ((Below.refl _ _).drew) ?_
        try simp only [Act.put, List.setIfInBounds_toArray, List.set_cons_zero, List.set_cons_succ]
        refine anyH_take 7 23 (.pointer (some ⟨g, o + i * 6, none⟩)) rfl rfl (by kernel_rfl) (by kernel_rfl) (by kernel_rfl) (fun _ _ _ h => h) (Or.inl ⟨by rfl, by intro w hSw; go_simp⟩) ((Below.refl _ _).drew) ?_
        try simp only [Act.put, List.setIfInBounds_toArray, List.set_cons_zero, List.set_cons_succ]
        refine anyH_take 8 24 (.pointer (some ⟨g, o + i * 6, none⟩)) rfl rfl (by kernel_rfl) (by kernel_rfl) (by kernel_rfl) (fun _ _ _ h => h) (Or.inl ⟨by rfl, by intro w hSw; go_simp⟩) ((Below.refl _ _).drew) ?_
        try simp only [Act.put, List.setIfInBounds_toArray, List.set_cons_zero, List.set_cons_succ]
        refine anyH_take 9 25 (.int .i64 y.peer) rfl rfl (by kernel_rfl) (by kernel_rfl) (by kernel_rfl) (fun _ _ _ h => h) (Or.inl ⟨by rfl, by intro w hSw; have s1 := kc _ hSw; go_simp⟩) ((Below.refl _ _).drew) ?_
        try simp only [Act.put, List.setIfInBounds_toArray, List.set_cons_zero, List.set_cons_succ]
        refine anyH_take 10 26 (.pointer (some ⟨w.heap.size, 0, none⟩)) rfl rfl (by kernel_rfl) (by kernel_rfl) (by kernel_rfl) (fun _ _ _ h => h) (Or.inl ⟨by rfl, by intro w hSw; go_simp⟩) ((Below.refl _ _).drew) ?_
        try simp only [Act.put, List.setIfInBounds_toArray, List.set_cons_zero, List.set_cons_succ]
        refine anyH_take 11 27 (.int .i64 x.peer) rfl rfl (by kernel_rfl) (by kernel_rfl) (by kernel_rfl) (fun _ _ _ h => h) (Or.inl ⟨by rfl, by intro w hSw; have s1 := kp _ hSw; go_simp⟩) ((Below.refl _ _).drew) ?_
        try simp only [Act.put, List.setIfInBounds_toArray, List.set_cons_zero, List.set_cons_succ]
        refine anyH_take 12 28 (.bool true) rfl rfl (by kernel_rfl) (by kernel_rfl) (by kernel_rfl) (fun _ _ _ h => h) (Or.inl ⟨by rfl, by intro w hSw; have s3 := hcmp; go_simp⟩) ((Below.refl _ _).drew) ?_
        try simp only [Act.put, List.setIfInBounds_toArray, List.set_cons_zero, List.set_cons_succ]
        refine anyH_take 13 29 (.bool true) rfl rfl (by kernel_rfl) (by kernel_rfl) (by kernel_rfl) (fun _ _ _ h => h) (Or.inl ⟨by rfl, by intro w hSw; go_simp⟩) ((Below.refl _ _).drew) ?_
        try simp only [Act.put, List.setIfInBounds_toArray, List.set_cons_zero, List.set_cons_succ]
        refine wpAnyH_done (by kernel_rfl) ?_ _
        go_wp2
        go_roundg (gk - 1)
        case measure => omega
        case rel => exact ⟨i + 1, by first | rfl | go_num, by omega, fun j hj => (Nat.lt_succ_iff_lt_or_eq.1 hj).elim (HOK.out j) (fun e => by rw [e, HY.out]; exact hcmp), Br.drew⟩
      case neg =>
        have HPT : Hid (DD.take i ++ ([x] ++ DD.drop i) = putH x hs) := HINS.out i HKN.out HOK.out (fun _ => by rw [HY.out]; omega)
        go_wp2_with (fail)
        refine wp_region_any (by kernel_rfl) ?_
        change wpAny _ _ _ _ _ _ _ (World.drew _)
        refine wpAny_narrow (fun W' => Below wr.heap.size wr W') _ _ _ _ ?_
        refine anyH_take 0 16 (.int .i64 (i : Int)) rfl rfl (by kernel_rfl) (by kernel_rfl) (by kernel_rfl) (fun _ _ _ h => h) (Or.inl ⟨by rfl, by intro w hSw; go_simp⟩) ((Below.refl _ _).drew) ?_
        try simp only [Act.put, List.setIfInBounds_toArray, List.set_cons_zero, List.set_cons_succ]
        refine anyH_take 1 17 (.slice (some ⟨g, o, none⟩) DD.length cD) rfl rfl (by kernel_rfl) (by kernel_rfl) (by kernel_rfl) (fun _ _ _ h => h) (Or.inl ⟨by rfl, by intro w hSw; go_simp⟩) ((Below.refl _ _).drew) ?_
        try simp only [Act.put, List.setIfInBounds_toArray, List.set_cons_zero, List.set_cons_succ]
        refine anyH_take 2 18 (.int .i64 (DD.length : Int)) rfl rfl (by kernel_rfl) (by kernel_rfl) (by kernel_rfl) (fun _ _ _ h => h) (Or.inl ⟨by rfl, by intro w hSw; go_simp⟩) ((Below.refl _ _).drew) ?_
        try simp only [Act.put, List.setIfInBounds_toArray, List.set_cons_zero, List.set_cons_succ]
        refine anyH_take 3 19 (.bool true) rfl rfl (by kernel_rfl) (by kernel_rfl) (by kernel_rfl) (fun _ _ _ h => h) (Or.inl ⟨by rfl, by intro w hSw; have s1 := hiI; go_simp⟩) ((Below.refl _ _).drew) ?_
        try simp only [Act.put, List.setIfInBounds_toArray, List.set_cons_zero, List.set_cons_succ]
        refine anyH_take 4 20 (.bool true) rfl rfl (by kernel_rfl) (by kernel_rfl) (by kernel_rfl) (fun _ _ _ h => h) (Or.inl ⟨by rfl, by intro w hSw; go_simp⟩) ((Below.refl _ _).drew) ?_
        try simp only [Act.put, List.setIfInBounds_toArray, List.set_cons_zero, List.set_cons_succ]
        refine anyH_take 5 21 (.slice (some ⟨g, o, none⟩) DD.length cD) rfl rfl (by kernel_rfl) (by kernel_rfl) (by kernel_rfl) (fun _ _ _ h => h) (Or.inl ⟨by rfl, by intro w hSw; go_simp⟩) ((Below.refl _ _).drew) ?_
        try simp only [Act.put, List.setIfInBounds_toArray, List.set_cons_zero, List.set_cons_succ]
        refine anyH_take 6 22 (.int .i64 (i : Int)) rfl rfl (by kernel_rfl) (by kernel_rfl) (by kernel_rfl) (fun _ _ _ h => h) (Or.inl ⟨by rfl, by intro w hSw; go_simp⟩) ((Below.refl _ _).drew) ?_
        try simp only [Act.put, List.setIfInBounds_toArray, List.set_cons_zero, List.set_cons_succ]
        refine anyH_take 7 23 (.pointer (some ⟨g, o + i * 6, none⟩)) rfl rfl (by kernel_rfl) (by kernel_rfl) (by kernel_rfl) (fun _ _ _ h => h) (Or.inl ⟨by rfl, by intro w hSw; go_simp⟩) ((Below.refl _ _).drew) ?_
        try simp only [Act.put, List.setIfInBounds_toArray, List.set_cons_zero, List.set_cons_succ]
        refine anyH_take 8 24 (.pointer (some ⟨g, o + i * 6, none⟩)) rfl rfl (by kernel_rfl) (by kernel_rfl) (by kernel_rfl) (fun _ _ _ h => h) (Or.inl ⟨by rfl, by intro w hSw; go_simp⟩) ((Below.refl _ _).drew) ?_
        try simp only [Act.put, List.setIfInBounds_toArray, List.set_cons_zero, List.set_cons_succ]
        refine anyH_take 9 25 (.int .i64 y.peer) rfl rfl (by kernel_rfl) (by kernel_rfl) (by kernel_rfl) (fun _ _ _ h => h) (Or.inl ⟨by rfl, by intro w hSw; have s1 := kc _ hSw; go_simp⟩) ((Below.refl _ _).drew) ?_
        try simp only [Act.put, List.setIfInBounds_toArray, List.set_cons_zero, List.set_cons_succ]
        refine anyH_take 10 26 (.pointer (some ⟨w.heap.size, 0, none⟩)) rfl rfl (by kernel_rfl) (by kernel_rfl) (by kernel_rfl) (fun _ _ _ h => h) (Or.inl ⟨by rfl, by intro w hSw; go_simp⟩) ((Below.refl _ _).drew) ?_
        try simp only [Act.put, List.setIfInBounds_toArray, List.set_cons_zero, List.set_cons_succ]
        refine anyH_take 11 27 (.int .i64 x.peer) rfl rfl (by kernel_rfl) (by kernel_rfl) (by kernel_rfl) (fun _ _ _ h => h) (Or.inl ⟨by rfl, by intro w hSw; have s1 := kp _ hSw; go_simp⟩) ((Below.refl _ _).drew) ?_
        try simp only [Act.put, List.setIfInBounds_toArray, List.set_cons_zero, List.set_cons_succ]
        refine anyH_take 12 28 (.bool false) rfl rfl (by kernel_rfl) (by kernel_rfl) (by kernel_rfl) (fun _ _ _ h => h) (Or.inl ⟨by rfl, by intro w hSw; have s3 := hcmp; go_simp⟩) ((Below.refl _ _).drew) ?_
        try simp only [Act.put, List.setIfInBounds_toArray, List.set_cons_zero, List.set_cons_succ]
        refine anyH_take 13 29 (.bool false) rfl rfl (by kernel_rfl) (by kernel_rfl) (by kernel_rfl) (fun _ _ _ h => h) (Or.inl ⟨by rfl, by intro w hSw; go_simp⟩) ((Below.refl _ _).drew) ?_
        try simp only [Act.put, List.setIfInBounds_toArray, List.set_cons_zero, List.set_cons_succ]
        refine wpAnyH_done (by kernel_rfl) ?_ _
        clear HINS hi hiI hcmp kc H1
        have BB : Below w.heap.size w wr.drew := (BW.trans (C1.below.mono BW.size)).trans (Br.drew.mono (Nat.le_trans BW.size C1.below.size))
        have T5 := (BB0.block _ (row_lt T)).trans T
        clear kp kp0 Br BB0
        obtain ⟨w5, h5⟩ : ∃ w5, wr.drew = w5 := ⟨_, rfl⟩
        have E5 : Ech w.heap.size w5 es DD := by rw [← h5]; exact E1
        have L5 : RdH w5 (some ⟨g, o, none⟩) DD.length cD es := by rw [← h5]; exact L1
        have R5 : RdO w5 x a c1 := by rw [← h5]; exact RdL.below R0 BB
        have T6 : w5.heap[w.heap.size]? = some (.cells (x.on a c1).cells.toArray 43 (0, 0)) := by rw [← h5]; exact T5
        have BB5 : Below w.heap.size w w5 := by rw [← h5]; exact BB
        have M5 : Mid w.heap.size w5 [] (.slice none 0 0) [] w5 := Mid.nil _ _
        have HH5 : Hid (wr.drew = w5) := h5
        clear h5 T5 BB E1 L1 R0
        rw [HH5.out]
        go_wp2_with (first
          | ((with_reducible show wpList _ _ _ (Oper.mk _ (Op.slice 22 _ none _ none) _ _ _ _ :: _) _ _); refine wpList_toH rfl _ _ rfl rfl rfl HKC.out ?_)
          | ((with_reducible show wpList _ _ _ (Oper.mk _ (Op.call { callee := Callee.builtin Builtin.append, args := #[Operand.tmp 32, Operand.tmp 35], argTypes := #[22, 22] }) _ _ _ _ :: _) _ _); go_must (refine wpList_grow_lstH (base := w5.heap.size) (k := 0) (es := []) (ds := es.take i) rfl _ _ rfl rfl rfl M5.row (L5.to i HKN.out) (by have := HSM.out; have := HKN.out; omega) (Nat.le_refl _) ?_; intro v6 w6 O6 g6 b6; rw [Nat.zero_add] at O6; have M6 := M5.more (xs := DD.take i) (E5.take i HKN.out) (by rw [List.length_take, List.length_take]; have := HLN.out; have := HKN.out; omega) g6 b6 (by rw [List.length_take, Nat.min_eq_left HKN.out]; exact (by rw [show ([] : List HS).length + i = i from Nat.zero_add i]; exact O6))))
          | ((with_reducible show wpList _ _ _ (Oper.mk _ (Op.load 43 _) _ _ _ _ :: _) _ _); refine wpList_load24 rfl _ rfl w.heap.size 0 (x.on a c1) rfl (range_rowH ((M6.below.block _ (row_lt T6)).trans T6)) ?_)
          | (go_at_call 33; refine (one_any x a c1 _ (RdL.below R5 M6.below)).mono ?_; rintro e w7 ⟨a2, c2, rfl, O7, b7⟩; dsimp only [HS.on, HR.val])
          | ((with_reducible show wpList _ _ _ (Oper.mk _ (Op.call { callee := Callee.builtin Builtin.append, args := #[Operand.tmp 37, Operand.tmp 40], argTypes := #[22, 22] }) _ _ _ _ :: _) _ _); go_must (have M7 := (M6.later b7).later ((Below.refl _ _).alloc (Nat.le_refl _) (.cells #[.int .i64 x.peer, .int .i64 x.boot, .int .i64 x.life, .slice a2 x.ls.length c2, .bool x.pend, .int .i64 x.miss] 43)); have X8 := World.alloc_heap_new w7 (.cells #[.int .i64 x.peer, .int .i64 x.boot, .int .i64 x.life, .slice a2 x.ls.length c2, .bool x.pend, .int .i64 x.miss] 43); refine wpList_more_lstH (base := w5.heap.size) (v := v6) (k := ([] ++ DD.take i).length) (es := [] ++ es.take i) (ds := [x.on a2 c2]) (ad := ⟨w7.heap.size, 0, none⟩) rfl _ _ rfl rfl rfl M7.row rfl (fun j u hj => by rw [add_plain, Nat.zero_add]; exact row_cell X8 j u (by simpa [csH, HR.cells, HS.on] using hj)) (by have := HSM.out; have := HKN.out; rw [List.nil_append, List.length_take]; omega) M7.below.size ?_; intro v8 w8 O8 g8 b8; have M8 := M7.more (xs := [x]) (fs := [x.on a2 c2]) (Ech.one (((O7.mono (Nat.le_trans BB5.size M6.below.size)).below ((Below.refl _ _).alloc (Nat.le_refl _) _)))) rfl g8 b8 O8))
          | ((with_reducible show wpList _ _ _ (Oper.mk _ (Op.slice 22 _ _ none none) _ _ _ _ :: _) _ _); go_must (refine wpList_fromH rfl _ _ rfl rfl rfl (L5.below M8.below) HKN.out ?_; intro a9 L9))
          | ((with_reducible show wpList _ _ _ (Oper.mk _ (Op.call { callee := Callee.builtin Builtin.append, args := #[Operand.tmp 42, Operand.tmp 45], argTypes := #[22, 22] }) _ _ _ _ :: _) _ _); go_must (refine wpList_grow_lstH (base := w5.heap.size) (v := v8) (k := ([] ++ DD.take i ++ [x]).length) (es := [] ++ es.take i ++ [x.on a2 c2]) (ds := es.drop i) rfl _ _ rfl rfl rfl M8.row L9 (by have := HSM.out; have := HKN.out; rw [List.nil_append, List.length_append, List.length_take]; show _; simp only [List.length_singleton]; omega) M8.below.size ?_; intro v9 w9 O9 g9 b9; have M9 := M8.more (xs := DD.drop i) (((E5.drop i).ofs M5 M8)) (by rw [List.length_drop, List.length_drop]; have := HLN.out; omega) g9 b9 (by rw [List.length_drop]; exact O9))))
        go_ret
        refine ⟨v9, rfl, [] ++ es.take i ++ [x.on a2 c2] ++ es.drop i, ?_⟩
        have e9 : [] ++ DD.take i ++ [x] ++ DD.drop i = putH x hs := by rw [List.nil_append, List.append_assoc]; exact HPT.out
        rw [← e9]
        exact M9.cpy BB5

    case neg =>
      have hiI : ¬ (i : Int) < (DD.length : Int) := by omega
      have HPT : Hid (DD.take i ++ ([x] ++ DD.drop i) = putH x hs) := HINS.out i HKN.out HOK.out (fun k => absurd k hi)
      go_wp2_with (fail)
      refine wp_region_any (by kernel_rfl) ?_
      change wpAny _ _ _ _ _ _ _ (World.drew _)
      refine wpAny_narrow (fun W' => Below wr.heap.size wr W') _ _ _ _ ?_
      refine anyH_take 0 16 (.int .i64 (i : Int)) rfl rfl (by kernel_rfl) (by kernel_rfl) (by kernel_rfl) (fun _ _ _ h => h) (Or.inl ⟨by rfl, by intro w hSw; go_simp⟩) ((Below.refl _ _).drew) ?_
      try simp only [Act.put, List.setIfInBounds_toArray, List.set_cons_zero, List.set_cons_succ]
      refine anyH_take 1 17 (.slice aD DD.length cD) rfl rfl (by kernel_rfl) (by kernel_rfl) (by kernel_rfl) (fun _ _ _ h => h) (Or.inl ⟨by rfl, by intro w hSw; go_simp⟩) ((Below.refl _ _).drew) ?_
      try simp only [Act.put, List.setIfInBounds_toArray, List.set_cons_zero, List.set_cons_succ]
      refine anyH_take 2 18 (.int .i64 (DD.length : Int)) rfl rfl (by kernel_rfl) (by kernel_rfl) (by kernel_rfl) (fun _ _ _ h => h) (Or.inl ⟨by rfl, by intro w hSw; go_simp⟩) ((Below.refl _ _).drew) ?_
      try simp only [Act.put, List.setIfInBounds_toArray, List.set_cons_zero, List.set_cons_succ]
      refine anyH_take 3 19 (.bool false) rfl rfl (by kernel_rfl) (by kernel_rfl) (by kernel_rfl) (fun _ _ _ h => h) (Or.inl ⟨by rfl, by intro w hSw; have s1 := hiI; go_simp⟩) ((Below.refl _ _).drew) ?_
      try simp only [Act.put, List.setIfInBounds_toArray, List.set_cons_zero, List.set_cons_succ]
      refine anyH_take 4 20 (.bool false) rfl rfl (by kernel_rfl) (by kernel_rfl) (by kernel_rfl) (fun _ _ _ h => h) (Or.inl ⟨by rfl, by intro w hSw; go_simp⟩) ((Below.refl _ _).drew) ?_
      try simp only [Act.put, List.setIfInBounds_toArray, List.set_cons_zero, List.set_cons_succ]
      refine anyH_take 5 21 (undef) rfl rfl (by kernel_rfl) (by kernel_rfl) (by kernel_rfl) (fun _ _ _ h => h) (Or.inr ⟨by rfl, rfl⟩) ((Below.refl _ _).drew) ?_
      try simp only [Act.put, List.setIfInBounds_toArray, List.set_cons_zero, List.set_cons_succ]
      refine anyH_take 6 22 (undef) rfl rfl (by kernel_rfl) (by kernel_rfl) (by kernel_rfl) (fun _ _ _ h => h) (Or.inr ⟨by rfl, rfl⟩) ((Below.refl _ _).drew) ?_
      try simp only [Act.put, List.setIfInBounds_toArray, List.set_cons_zero, List.set_cons_succ]
      refine anyH_take 7 23 (undef) rfl rfl (by kernel_rfl) (by kernel_rfl) (by kernel_rfl) (fun _ _ _ h => h) (Or.inr ⟨by rfl, rfl⟩) ((Below.refl _ _).drew) ?_
      try simp only [Act.put, List.setIfInBounds_toArray, List.set_cons_zero, List.set_cons_succ]
      refine anyH_take 8 24 (undef) rfl rfl (by kernel_rfl) (by kernel_rfl) (by kernel_rfl) (fun _ _ _ h => h) (Or.inr ⟨by rfl, rfl⟩) ((Below.refl _ _).drew) ?_
      try simp only [Act.put, List.setIfInBounds_toArray, List.set_cons_zero, List.set_cons_succ]
      refine anyH_take 9 25 (undef) rfl rfl (by kernel_rfl) (by kernel_rfl) (by kernel_rfl) (fun _ _ _ h => h) (Or.inr ⟨by rfl, rfl⟩) ((Below.refl _ _).drew) ?_
      try simp only [Act.put, List.setIfInBounds_toArray, List.set_cons_zero, List.set_cons_succ]
      refine anyH_take 10 26 (undef) rfl rfl (by kernel_rfl) (by kernel_rfl) (by kernel_rfl) (fun _ _ _ h => h) (Or.inr ⟨by rfl, rfl⟩) ((Below.refl _ _).drew) ?_
      try simp only [Act.put, List.setIfInBounds_toArray, List.set_cons_zero, List.set_cons_succ]
      refine anyH_take 11 27 (undef) rfl rfl (by kernel_rfl) (by kernel_rfl) (by kernel_rfl) (fun _ _ _ h => h) (Or.inr ⟨by rfl, rfl⟩) ((Below.refl _ _).drew) ?_
      try simp only [Act.put, List.setIfInBounds_toArray, List.set_cons_zero, List.set_cons_succ]
      refine anyH_take 12 28 (undef) rfl rfl (by kernel_rfl) (by kernel_rfl) (by kernel_rfl) (fun _ _ _ h => h) (Or.inr ⟨by rfl, rfl⟩) ((Below.refl _ _).drew) ?_
      try simp only [Act.put, List.setIfInBounds_toArray, List.set_cons_zero, List.set_cons_succ]
      refine anyH_take 13 29 (.bool false) rfl rfl (by kernel_rfl) (by kernel_rfl) (by kernel_rfl) (fun _ _ _ h => h) (Or.inl ⟨by rfl, by intro w hSw; go_simp⟩) ((Below.refl _ _).drew) ?_
      try simp only [Act.put, List.setIfInBounds_toArray, List.set_cons_zero, List.set_cons_succ]
      refine wpAnyH_done (by kernel_rfl) ?_ _
      clear HINS hi hiI H1
      have BB : Below w.heap.size w wr.drew := (BW.trans (C1.below.mono BW.size)).trans (Br.drew.mono (Nat.le_trans BW.size C1.below.size))
      have T5 := (BB0.block _ (row_lt T)).trans T
      clear kp kp0 Br BB0
      obtain ⟨w5, h5⟩ : ∃ w5, wr.drew = w5 := ⟨_, rfl⟩
      have E5 : Ech w.heap.size w5 es DD := by rw [← h5]; exact E1
      have L5 : RdH w5 aD DD.length cD es := by rw [← h5]; exact L1
      have R5 : RdO w5 x a c1 := by rw [← h5]; exact RdL.below R0 BB
      have T6 : w5.heap[w.heap.size]? = some (.cells (x.on a c1).cells.toArray 43 (0, 0)) := by rw [← h5]; exact T5
      have BB5 : Below w.heap.size w w5 := by rw [← h5]; exact BB
      have M5 : Mid w.heap.size w5 [] (.slice none 0 0) [] w5 := Mid.nil _ _
      have HH5 : Hid (wr.drew = w5) := h5
      clear h5 T5 BB E1 L1 R0
      rw [HH5.out]
      go_wp2_with (first
        | ((with_reducible show wpList _ _ _ (Oper.mk _ (Op.slice 22 _ none _ none) _ _ _ _ :: _) _ _); refine wpList_toH rfl _ _ rfl rfl rfl HKC.out ?_)
        | ((with_reducible show wpList _ _ _ (Oper.mk _ (Op.call { callee := Callee.builtin Builtin.append, args := #[Operand.tmp 32, Operand.tmp 35], argTypes := #[22, 22] }) _ _ _ _ :: _) _ _); go_must (refine wpList_grow_lstH (base := w5.heap.size) (k := 0) (es := []) (ds := es.take i) rfl _ _ rfl rfl rfl M5.row (L5.to i HKN.out) (by have := HSM.out; have := HKN.out; omega) (Nat.le_refl _) ?_; intro v6 w6 O6 g6 b6; rw [Nat.zero_add] at O6; have M6 := M5.more (xs := DD.take i) (E5.take i HKN.out) (by rw [List.length_take, List.length_take]; have := HLN.out; have := HKN.out; omega) g6 b6 (by rw [List.length_take, Nat.min_eq_left HKN.out]; exact (by rw [show ([] : List HS).length + i = i from Nat.zero_add i]; exact O6))))
        | ((with_reducible show wpList _ _ _ (Oper.mk _ (Op.load 43 _) _ _ _ _ :: _) _ _); refine wpList_load24 rfl _ rfl w.heap.size 0 (x.on a c1) rfl (range_rowH ((M6.below.block _ (row_lt T6)).trans T6)) ?_)
        | (go_at_call 33; refine (one_any x a c1 _ (RdL.below R5 M6.below)).mono ?_; rintro e w7 ⟨a2, c2, rfl, O7, b7⟩; dsimp only [HS.on, HR.val])
        | ((with_reducible show wpList _ _ _ (Oper.mk _ (Op.call { callee := Callee.builtin Builtin.append, args := #[Operand.tmp 37, Operand.tmp 40], argTypes := #[22, 22] }) _ _ _ _ :: _) _ _); go_must (have M7 := (M6.later b7).later ((Below.refl _ _).alloc (Nat.le_refl _) (.cells #[.int .i64 x.peer, .int .i64 x.boot, .int .i64 x.life, .slice a2 x.ls.length c2, .bool x.pend, .int .i64 x.miss] 43)); have X8 := World.alloc_heap_new w7 (.cells #[.int .i64 x.peer, .int .i64 x.boot, .int .i64 x.life, .slice a2 x.ls.length c2, .bool x.pend, .int .i64 x.miss] 43); refine wpList_more_lstH (base := w5.heap.size) (v := v6) (k := ([] ++ DD.take i).length) (es := [] ++ es.take i) (ds := [x.on a2 c2]) (ad := ⟨w7.heap.size, 0, none⟩) rfl _ _ rfl rfl rfl M7.row rfl (fun j u hj => by rw [add_plain, Nat.zero_add]; exact row_cell X8 j u (by simpa [csH, HR.cells, HS.on] using hj)) (by have := HSM.out; have := HKN.out; rw [List.nil_append, List.length_take]; omega) M7.below.size ?_; intro v8 w8 O8 g8 b8; have M8 := M7.more (xs := [x]) (fs := [x.on a2 c2]) (Ech.one (((O7.mono (Nat.le_trans BB5.size M6.below.size)).below ((Below.refl _ _).alloc (Nat.le_refl _) _)))) rfl g8 b8 O8))
        | ((with_reducible show wpList _ _ _ (Oper.mk _ (Op.slice 22 _ _ none none) _ _ _ _ :: _) _ _); go_must (refine wpList_fromH rfl _ _ rfl rfl rfl (L5.below M8.below) HKN.out ?_; intro a9 L9))
        | ((with_reducible show wpList _ _ _ (Oper.mk _ (Op.call { callee := Callee.builtin Builtin.append, args := #[Operand.tmp 42, Operand.tmp 45], argTypes := #[22, 22] }) _ _ _ _ :: _) _ _); go_must (refine wpList_grow_lstH (base := w5.heap.size) (v := v8) (k := ([] ++ DD.take i ++ [x]).length) (es := [] ++ es.take i ++ [x.on a2 c2]) (ds := es.drop i) rfl _ _ rfl rfl rfl M8.row L9 (by have := HSM.out; have := HKN.out; rw [List.nil_append, List.length_append, List.length_take]; show _; simp only [List.length_singleton]; omega) M8.below.size ?_; intro v9 w9 O9 g9 b9; have M9 := M8.more (xs := DD.drop i) (((E5.drop i).ofs M5 M8)) (by rw [List.length_drop, List.length_drop]; have := HLN.out; omega) g9 b9 (by rw [List.length_drop]; exact O9))))
      go_ret
      refine ⟨v9, rfl, [] ++ es.take i ++ [x.on a2 c2] ++ es.drop i, ?_⟩
      have e9 : [] ++ DD.take i ++ [x] ++ DD.drop i = putH x hs := by rw [List.nil_append, List.append_assoc]; exact HPT.out
      rw [← e9]
      exact M9.cpy BB5

end Go.Proofs.Ytcacocndcfbmaaa

namespace Go.Proofs.Ytcacocndcfbmaaa
open Go.ChangeShapes Go.WideShapes Go.ChangeAt Go.RowKit
set_option linter.unusedVariables false
set_option linter.unusedSimpArgs false

theorem sum_neg (l : List (Int × Int)) (f g : Int × Int → Int) (h : ∀ p ∈ l, f p = -g p) : (l.map f).sum = -(l.map g).sum := by
  induction l with
  | nil => rfl
  | cons p r ih =>
    have h0 := h p (by simp)
    have hr := ih (fun q hq => h q (by simp [hq]))
    simp only [List.map_cons, List.sum_cons, h0, hr]
    omega
theorem sum_same (l : List (Int × Int)) (f g : Int × Int → Int) (h : ∀ p ∈ l, f p = g p) : (l.map f).sum = (l.map g).sum := by
  rw [List.map_congr_left h]
theorem ents_peer {id : Int} {name : ByteArray} {hs : List HS} {p : Int × Int} (hf : fitsB id hs = true) (h : p ∈ ents id name hs) : 0 ≤ p.1 := by
  obtain ⟨x, hx, e⟩ := List.mem_filterMap.1 h
  obtain ⟨n, hn, e2⟩ := List.getElem_of_mem hx
  have := (fit_top (fits_each hf n hn)).1
  rw [List.getD_eq_getElem?_getD, List.getElem?_eq_getElem hn, e2] at this
  unfold ent1 at e
  split at e
  · cases e
  · cases e
    exact this
/-- Entries' peers rise with the half-edges'. -/
theorem back_sum {peer : Int} : ∀ {hs : List HS} {id : Int} {name : ByteArray}, Rise hs → ((ents id name hs).map (cntB peer)).sum = backD peer (ents id name hs)
  | [], _, _, _ => rfl
  | x :: r, id, name, h => by
    obtain ⟨hr, hx⟩ := rise_cons h
    have ih := back_sum (peer := peer) (id := id) (name := name) hr
    have e : ents id name (x :: r) = (ent1 id name x).toList ++ ents id name r := by
      unfold ents
      rw [List.filterMap_cons]
      cases ent1 id name x <;> rfl
    cases he : ent1 id name x with
    | none => rw [e, he]; exact ih
    | some p =>
      have hp : p.1 = x.peer := by
        unfold ent1 at he
        split at he
        · cases he
        · cases he; rfl
      rw [e, he]
      show (cntB peer p :: (ents id name r).map (cntB peer)).sum = (if p.1 = peer then p.2 else backD peer (ents id name r))
      rw [List.sum_cons]
      by_cases c : p.1 = peer
      · rw [if_pos c]
        have z : ((ents id name r).map (cntB peer)).sum = 0 := by
          have : ∀ q ∈ ents id name r, cntB peer q = 0 := fun q hq => by
            obtain ⟨y, hy, ey⟩ := List.mem_filterMap.1 hq
            have := hx y hy
            have hq1 : q.1 = y.peer := by
              unfold ent1 at ey
              split at ey
              · cases ey
              · cases ey; rfl
            unfold cntB
            rw [if_neg (by omega)]
          rw [sum_same _ _ (fun _ => 0) this]
          clear this
          induction ents id name r with
          | nil => rfl
          | cons q s ihs => rw [List.map_cons, List.sum_cons, ihs]; rfl
        rw [z]
        unfold cntB
        rw [if_pos c]
        omega
      · rw [if_neg c, ← ih]
        unfold cntB
        rw [if_neg c]
        omega
theorem backD_rng {peer : Int} {l : List (Int × Int)} (h : ∀ p ∈ l, -2147483647 ≤ p.2 ∧ p.2 ≤ 2147483647) : -2147483647 ≤ backD peer l ∧ backD peer l ≤ 2147483647 := by
  induction l with
  | nil => exact ⟨by show (-2147483647 : Int) ≤ 0; decide, by show (0 : Int) ≤ 2147483647; decide⟩
  | cons p r ih =>
    unfold backD
    split
    · exact h p (by simp)
    · exact ih (fun q hq => h q (by simp [hq]))
theorem chk_in {x : Int} (h : -2147483647 ≤ x ∧ x ≤ 2147483647) : chkV x = x ∧ chkE x = 0 := by
  have : okI x = true := decide_eq_true h
  unfold chkV chkE
  rw [this]
  exact ⟨rfl, rfl⟩
set_option maxRecDepth 100000 in
set_option maxHeartbeats 8000000 in
theorem tells_walk (id input : Int) (A : Option Addr) (c : Nat) (hs : List HS) (name : ByteArray) (peer : Int) (w : World) (P : Hs w A hs.length c hs) : Calls Try.prog 3 #[.int .i64 id, .int .i64 input, .slice A hs.length c, .string name, .int .i64 peer] w fun e w' => e = .returned (.bool true) ∧ Below w.heap.size w w' := by
  have K6 := bfit_any id input A c hs w P
  cases hfit : (inI input && fitsB id hs) with
  | false =>
    rw [hfit] at K6
    clear hfit
    go_enter Try.func3, Try.ntmps3
    go_wp2_with (first
      | (go_at_call 6; refine K6.mono ?_; rintro e w1 ⟨rfl, b1⟩; clear K6)
      | (go_at_call 7; refine (awake_any _).mono ?_; rintro e w2 ⟨rfl, b2⟩))
    go_ret
    exact ⟨rfl, b1.trans (b2.mono b1.size)⟩
  | true =>
    rw [hfit] at K6
    rw [Bool.and_eq_true] at hfit
    obtain ⟨hi, hf⟩ := hfit
    have hin : -2147483647 ≤ input ∧ input ≤ 2147483647 := of_decide_eq_true hi
    have h16 := fits_few hf
    have hfe := fits_each hf
    have h8 := fun j hj => fit_lines (hfe j hj)
    have de := doc_eq (name := name) hfe
    have hle := ents_len id name hs
    have K9 := fun W (b : Below w.heap.size w W) => page_any id A c hs name W (P.below b)
    have K10 := fun W (b : Below w.heap.size w W) => rpage_any id A c hs name W (P.below b) h16 h8
    have K11 := fun W (b : Below w.heap.size w W) => taken_any id A c hs name W (P.below b) (by omega)
    have K12 := fun W (b : Below w.heap.size w W) => rTaken_any id A c hs name W (P.below b) h16 h8
    have K13 := fun W (b : Below w.heap.size w W) => estimate_any id input A c hs name W (P.below b) (by omega) hin
    have K14 := fun W (b : Below w.heap.size w W) => restimate_any id input A c hs name W (P.below b) h16 h8 hin
    have K15 := fun W (b : Below w.heap.size w W) => rest_any id input peer A c hs name W (P.below b) (by omega) hin
    have K16 := fun W (b : Below w.heap.size w W) => rrest_any id input peer A c hs name W (P.below b) h16 h8 hin
    have K17 := fun W (b : Below w.heap.size w W) => back_any id peer A c hs name W (P.below b) (by omega)
    have K18 := fun W (b : Below w.heap.size w W) => rback_any id A c hs name peer W (P.below b) h16 h8
    have e1 : (0 :: (ents id name hs).map cntT).sum = ((ents id name hs).map (cntN (-1))).sum := by
      rw [List.sum_cons, Int.zero_add]
      exact sum_same _ _ _ (fun p hp => by have := ents_peer hf hp; unfold cntT cntN; rw [if_neg (by omega)])
    have e2 : (input :: (ents id name hs).map cntE).sum = input - ((ents id name hs).map (cntN (-1))).sum := by
      rw [List.sum_cons, sum_neg _ cntE (cntN (-1)) (fun p hp => by have := ents_peer hf hp; unfold cntE cntN; rw [if_neg (by omega)])]
      omega
    have e3 : (input :: (ents id name hs).map (cntR peer)).sum = input - ((ents id name hs).map (cntN peer)).sum := by
      rw [List.sum_cons, sum_neg _ (cntR peer) (cntN peer) (fun p hp => by unfold cntR cntN; split <;> omega)]
      omega
    have e4 : (0 :: (ents id name hs).map (cntB peer)).sum = backD peer (ents id name hs) := by
      rw [List.sum_cons, Int.zero_add]
      exact back_sum (fits_rise hf)
    have e5 := chk_in (backD_rng (peer := peer) (l := ents id name hs) (fun p hp => ents_rng hp))
    simp only [de] at K10 K12 K14 K16 K18
    simp only [e1] at K11
    simp only [e2] at K13
    simp only [e3] at K15
    simp only [e4, e5.1, e5.2] at K17
    obtain ⟨l, el⟩ : ∃ l, ents id name hs = l := ⟨_, rfl⟩
    rw [el] at hle
    have HL : Hid (l.length ≤ 1000) := by show _ ≤ _; omega
    simp only [el] at K9 K10 K12 K14 K16 K18 K11 K13 K15 K17
    obtain ⟨s1, hs1⟩ : ∃ s, (l.map (cntN (-1))).sum = s := ⟨_, rfl⟩
    obtain ⟨s3, hs3⟩ : ∃ s, (l.map (cntN peer)).sum = s := ⟨_, rfl⟩
    obtain ⟨s4, hs4⟩ : ∃ s, backD peer l = s := ⟨_, rfl⟩
    simp only [hs1] at K11 K12 K13 K14
    simp only [hs3] at K15 K16
    simp only [hs4] at K17 K18
    clear hs1 hs3 hs4 el e1 e2 e3 e4 e5 de hle h8 hfe h16 hin hf hi
    go_enter Try.func3, Try.ntmps3
    go_wp2_with (first
      | (go_at_call 6; refine K6.mono ?_; rintro e w1 ⟨rfl, B1⟩; clear K6)
      | (go_at_call 9; refine (K9 _ B1).mono ?_; rintro e w2 ⟨v2, rfl, O2, b2⟩; clear K9; have B2 := B1.trans (b2.mono B1.size))
      | (go_at_call 10; refine (K10 _ B2).mono ?_; rintro e w3 ⟨v3, rfl, O3, b3⟩; clear K10; have B3 := B2.trans (b3.mono B2.size); obtain ⟨a3, c3, rfl, R3⟩ := ent_row O3 HL.out; obtain ⟨a2, c2, rfl, R2'⟩ := ent_row O2 HL.out; have R2 := R2'.below b3; clear O2 O3 R2')
      | (go_at_call 8; refine (same_self a2 a3 c2 c3 l _ R2 R3 HL.out).mono ?_; rintro e w4 ⟨rfl, b4⟩; clear R2 R3; have B4 := B3.trans (b4.mono B3.size))
      | (go_at_call 11; refine (K11 _ B4).mono ?_; rintro e w5 ⟨rfl, b5⟩; clear K11; have B5 := B4.trans (b5.mono B4.size))
      | (go_at_call 12; refine (K12 _ B5).mono ?_; rintro e w6 ⟨rfl, b6⟩; clear K12; have B6 := B5.trans (b6.mono B5.size))
      | (go_at_call 13; refine (K13 _ B6).mono ?_; rintro e w7 ⟨rfl, b7⟩; clear K13; have B7 := B6.trans (b7.mono B6.size))
      | (go_at_call 14; refine (K14 _ B7).mono ?_; rintro e w8 ⟨rfl, b8⟩; clear K14; have B8 := B7.trans (b8.mono B7.size))
      | (go_at_call 15; refine (K15 _ B8).mono ?_; rintro e w9 ⟨rfl, b9⟩; clear K15; have B9 := B8.trans (b9.mono B8.size))
      | (go_at_call 16; refine (K16 _ B9).mono ?_; rintro e w10 ⟨rfl, b10⟩; clear K16; have B10 := B9.trans (b10.mono B9.size))
      | (go_at_call 17; refine (K17 _ B10).mono ?_; rintro e w11 ⟨rfl, b11⟩; clear K17; have B11 := B10.trans (b11.mono B10.size))
      | (go_at_call 18; refine (K18 _ B11).mono ?_; rintro e w12 ⟨rfl, b12⟩; clear K18; have B12 := B11.trans (b12.mono B11.size))
      | (go_at_call 7; refine (awake_any _).mono ?_; rintro e w13 ⟨rfl, b13⟩; have B13 := B12.trans (b13.mono B12.size)))
    go_ret
    exact ⟨rfl, B13⟩
end Go.Proofs.Ytcacocndcfbmaaa

namespace Go.Proofs.Ytcacocndcfbmaaa
open Go.ChangeShapes Go.WideShapes Go.ChangeAt Go.RowKit
set_option linter.unusedVariables false
set_option linter.unusedSimpArgs false

theorem ents_app (id : Int) (name : ByteArray) (a b : List HS) : ents id name (a ++ b) = ents id name a ++ ents id name b := by unfold ents; rw [List.filterMap_append]
theorem ents_mem {id : Int} {name : ByteArray} {l : List HS} {p : Int × Int} (h : p ∈ ents id name l) : ∃ y ∈ l, p.1 = y.peer := by
  obtain ⟨y, hy, e⟩ := List.mem_filterMap.1 h
  refine ⟨y, hy, ?_⟩
  unfold ent1 at e
  split at e
  · cases e
  · cases e; rfl
/-- Without a half-edge the estimate is the rest. -/
theorem ents_erase {id : Int} {name : ByteArray} {hs : List HS} (hr : Rise hs) {k : Nat} (hk : k < hs.length) : ((ents id name (hs.take k ++ hs.drop (k + 1))).map cntE).sum = ((ents id name hs).map (cntR (hs.getD k HS.z).peer)).sum := by
  have e : hs = hs.take k ++ (hs.getD k HS.z :: hs.drop (k + 1)) := by
    conv => lhs; rw [← List.take_append_drop k hs]
    rw [List.drop_eq_getElem_cons hk, List.getD_eq_getElem?_getD, List.getElem?_eq_getElem hk]
    rfl
  have h1 : ∀ p ∈ ents id name (hs.take k), cntE p = cntR (hs.getD k HS.z).peer p := fun p hp => by
    obtain ⟨y, hy, ey⟩ := ents_mem hp
    obtain ⟨n, hn, e2⟩ := List.getElem_of_mem hy
    have hn' : n < k := by rw [List.length_take] at hn; omega
    have := hr n k hn' hk
    rw [List.getElem_take] at e2
    rw [List.getD_eq_getElem?_getD, List.getElem?_eq_getElem (by omega), e2] at this
    have h9 : y.peer < (hs.getD k HS.z).peer := this
    unfold cntE cntR
    rw [if_neg (by omega)]
  have h2 : ∀ p ∈ ents id name (hs.drop (k + 1)), cntE p = cntR (hs.getD k HS.z).peer p := fun p hp => by
    obtain ⟨y, hy, ey⟩ := ents_mem hp
    obtain ⟨n, hn, e2⟩ := List.getElem_of_mem hy
    have hn' : k + 1 + n < hs.length := by rw [List.length_drop] at hn; omega
    have := hr k (k + 1 + n) (by omega) hn'
    rw [List.getElem_drop] at e2
    have e4 : hs.getD (k + 1 + n) HS.z = y := by rw [List.getD_eq_getElem?_getD, List.getElem?_eq_getElem hn', e2]; rfl
    rw [e4] at this
    have h9 : (hs.getD k HS.z).peer < y.peer := this
    unfold cntE cntR
    rw [if_neg (by omega)]
  have h3 : ((ents id name [hs.getD k HS.z]).map (cntR (hs.getD k HS.z).peer)).sum = 0 := by
    unfold ents
    rw [List.filterMap_cons]
    cases he : ent1 id name (hs.getD k HS.z) with
    | none => rfl
    | some p =>
      have hp : p.1 = (hs.getD k HS.z).peer := by
        unfold ent1 at he
        split at he
        · cases he
        · cases he; rfl
      show (cntR _ p :: _).sum = 0
      unfold cntR
      rw [if_pos hp]
      rfl
  have e3 : ents id name hs = ents id name (hs.take k) ++ (ents id name [hs.getD k HS.z] ++ ents id name (hs.drop (k + 1))) := by
    conv => lhs; rw [e]
    rw [show hs.take k ++ hs.getD k HS.z :: hs.drop (k + 1) = hs.take k ++ ([hs.getD k HS.z] ++ hs.drop (k + 1)) from rfl, ents_app, ents_app]
  rw [e3, ents_app, List.map_append, List.map_append, List.map_append, List.sum_append, List.sum_append, List.sum_append, h3, sum_same _ _ _ h1, sum_same _ _ _ h2]
  omega
theorem sum_split (l : List (Int × Int)) (peer : Int) : (l.map cntE).sum = (l.map (cntR peer)).sum - (l.map (cntB peer)).sum := by
  induction l with
  | nil => rfl
  | cons p r ih =>
    simp only [List.map_cons, List.sum_cons, ih]
    have : cntE p = cntR peer p - cntB peer p := by unfold cntE cntR cntB; split <;> omega
    omega
theorem chk_out {x : Int} (h : okI x = false) : chkV x = 0 ∧ chkE x = 10 := by
  unfold chkV chkE
  rw [h]
  exact ⟨rfl, rfl⟩
theorem hs_part {W : World} {A : Option Addr} {c : Nat} {hs : List HS} {rs : List HR} (k : Nat) (hk : k < hs.length) (hl : rs.length = hs.length) (each : ∀ i, i < hs.length → ∃ a c, rs.getD i HR.z = (hs.getD i HS.z).on a c ∧ RdO W (hs.getD i HS.z) a c)
    {n : Nat} (R : RdH W A n c (rs.take k ++ rs.drop (k + 1))) : n = (hs.take k ++ hs.drop (k + 1)).length ∧ Hs W A (hs.take k ++ hs.drop (k + 1)).length c (hs.take k ++ hs.drop (k + 1)) := by
  have e1 : (hs.take k ++ hs.drop (k + 1)).length = hs.length - 1 := by rw [List.length_append, List.length_take, List.length_drop]; omega
  have e2 : n = hs.length - 1 := by have := R.size; rw [List.length_append, List.length_take, List.length_drop] at this; omega
  refine ⟨by rw [e1, e2], ?_⟩
  rw [e1, ← e2]
  have g1 : ∀ i, (rs.take k ++ rs.drop (k + 1)).getD i HR.z = if i < k then rs.getD i HR.z else rs.getD (i + 1) HR.z := fun i => by rw [← List.eraseIdx_eq_take_drop_succ, getD_erase]
  have g2 : ∀ i, (hs.take k ++ hs.drop (k + 1)).getD i HS.z = if i < k then hs.getD i HS.z else hs.getD (i + 1) HS.z := fun i => by rw [← List.eraseIdx_eq_take_drop_succ, getD_erase]
  refine ⟨by rw [e1, e2], rs.take k ++ rs.drop (k + 1), R, fun i hi => ?_⟩
  have g2' := g2 i
  rw [show (⟨0, 0, 0, [], false, 0⟩ : HS) = HS.z from rfl, g1, g2']
  split
  · exact each i (by omega)
  · exact each (i + 1) (by omega)
set_option maxRecDepth 100000 in
set_option maxHeartbeats 8000000 in
theorem back_none (id input : Int) (A : Option Addr) (c : Nat) (hs : List HS) (name : ByteArray) (which : Int) (w : World) (P : Hs w A hs.length c hs) (h : (inI input && fitsB id hs) = false ∨ hs.length = 0) : Calls Try.prog 4 #[.int .i64 id, .int .i64 input, .slice A hs.length c, .string name, .int .i64 which] w fun e w' => e = .returned (.bool true) ∧ Below w.heap.size w w' := by
  have K6 := bfit_any id input A c hs w P
  cases hfit : (inI input && fitsB id hs) with
  | false =>
    rw [hfit] at K6
    clear hfit h
    go_enter Try.func4, Try.ntmps4
    go_wp2_with (first
      | (go_at_call 6; refine K6.mono ?_; rintro e w1 ⟨rfl, b1⟩; clear K6)
      | (go_at_call 7; refine (awake_any _).mono ?_; rintro e w2 ⟨rfl, b2⟩))
    go_ret
    exact ⟨rfl, b1.trans (b2.mono b1.size)⟩
  | true =>
    have h0 : hs.length = 0 := h.resolve_left (by rw [hfit]; decide)
    rw [hfit] at K6
    rw [h0] at K6 ⊢
    clear hfit h P
    go_enter Try.func4, Try.ntmps4
    go_wp2_with (first
      | (go_at_call 6; refine K6.mono ?_; rintro e w1 ⟨rfl, b1⟩; clear K6)
      | (go_at_call 7; refine (awake_any _).mono ?_; rintro e w2 ⟨rfl, b2⟩))
    go_ret
    exact ⟨rfl, b1.trans (b2.mono b1.size)⟩
end Go.Proofs.Ytcacocndcfbmaaa

namespace Go.Proofs.Ytcacocndcfbmaaa
open Go.ChangeShapes Go.WideShapes Go.ChangeAt Go.RowKit
set_option linter.unusedVariables false
set_option linter.unusedSimpArgs false

set_option maxRecDepth 100000 in
set_option maxHeartbeats 8000000 in
theorem back_a (id input : Int) (A : Option Addr) (c : Nat) (hs : List HS) (name : ByteArray) (which : Int) (w : World) (P : Hs w A hs.length c hs) (hfit : (inI input && fitsB id hs) = true) (k : Nat) (hk : k < hs.length) (hkk : IntKind.i64.wrap ((IntKind.u64.wrap which).tmod (IntKind.u64.wrap (hs.length : Int))) = (k : Int)) (hnz : IntKind.u64.wrap (hs.length : Int) ≠ 0) (xv xe yv ye zv : Int)
    (eX : chkV (input :: (ents id name hs).map cntE).sum = xv ∧ chkE (input :: (ents id name hs).map cntE).sum = xe) (eY : chkV (input :: (ents id name hs).map (cntR (hs.getD k HS.z).peer)).sum = yv ∧ chkE (input :: (ents id name hs).map (cntR (hs.getD k HS.z).peer)).sum = ye) (eZ : chkV (0 :: (ents id name hs).map (cntB (hs.getD k HS.z).peer)).sum = zv ∧ chkE (0 :: (ents id name hs).map (cntB (hs.getD k HS.z).peer)).sum = 0) (hx : (xe != 0) = true) : Calls Try.prog 4 #[.int .i64 id, .int .i64 input, .slice A hs.length c, .string name, .int .i64 which] w fun e w' => e = .returned (.bool true) ∧ Below w.heap.size w w' := by
  have K6 := bfit_any id input A c hs w P
  rw [hfit] at K6
  rw [Bool.and_eq_true] at hfit
  obtain ⟨hi, hf⟩ := hfit
  have hin : -2147483647 ≤ input ∧ input ≤ 2147483647 := of_decide_eq_true hi
  have h16 := fits_few hf
  have hln : (hs.take k ++ hs.drop (k + 1)).length ≤ 16 := by rw [List.length_append, List.length_take, List.length_drop]; omega
  have hz : ((hs.length : Int) == 0) = false := by simp; intro e; rw [e] at hk; simp at hk
  have K13 := fun W (b : Below w.heap.size w W) => estimate_any id input A c hs name W (P.below b) (by omega) hin
  have K15 := fun W (b : Below w.heap.size w W) => rest_any id input (hs.getD k HS.z).peer A c hs name W (P.below b) (by omega) hin
  have K17 := fun W (b : Below w.heap.size w W) => back_any id (hs.getD k HS.z).peer A c hs name W (P.below b) (by omega)
  have K13b := fun W a' c' (H : Hs W a' (hs.take k ++ hs.drop (k + 1)).length c' (hs.take k ++ hs.drop (k + 1))) => estimate_any id input a' c' (hs.take k ++ hs.drop (k + 1)) name W H (by omega) hin
  have er := ents_erase (id := id) (name := name) (fits_rise hf) hk
  have er2 : (input :: (ents id name (hs.take k ++ hs.drop (k + 1))).map cntE).sum = (input :: (ents id name hs).map (cntR (hs.getD k HS.z).peer)).sum := by rw [List.sum_cons, List.sum_cons, er]
  simp only [er2, eY.1, eY.2] at K13b
  simp only [eX.1, eX.2] at K13
  simp only [eY.1, eY.2] at K15
  simp only [eZ.1, eZ.2] at K17
  obtain ⟨rs, R0, PK⟩ := P.mem
  have HPK : Hid (∀ i, i < hs.length → ∃ a c, rs.getD i HR.z = (hs.getD i HS.z).on a c ∧ RdO w (hs.getD i HS.z) a c) := PK
  have HRL : Hid (rs.length = hs.length) := R0.size
  obtain ⟨g, o, a1, c1, eA, k10, r10, R10⟩ := P.at k hk
  obtain ⟨peer, ep⟩ : ∃ p, (hs.getD k HS.z).peer = p := ⟨_, rfl⟩
  have kc : ∀ X, Below w.heap.size w X → X.cell? ⟨g, o + k * 6, none⟩ = some (.int .i64 peer) := fun X b => by rw [← ep]; exact peer_cell (range_later r10 k10 b)
  rw [ep] at K15 K17
  have HK : Hid (k < hs.length) := hk
  have HLC : Hid (hs.length ≤ c) := R0.le
  have H16 : Hid (hs.length ≤ 16) := h16
  have hkI : (k : Int) < (hs.length : Int) := by omega
  have hwk : IntKind.i64.wrap ((k : Int) + 1) = ((k + 1 : Nat) : Int) := by rw [IntKind.wrap_i64]; omega
  have hyy : (yv != yv) = false := by simp
  have hee : (ye != ye) = false := by simp
  subst eA
  clear eX eY eZ er er2 PK hf hi hin h16 hln hk r10 R10 ep
  go_enter Try.func4, Try.ntmps4
  go_wp2_with (first
    | (go_at_call 6; refine K6.mono ?_; rintro e w1 ⟨rfl, B1⟩; clear K6; have kc1 := kc _ B1)
    | fail)
  have R1 := R0.below B1
  refine wp_region_any (by kernel_rfl) ?_
  change wpAny _ _ _ _ _ _ _ (World.drew _)
  refine wpAny_narrow (fun W' => Below w1.heap.size w1 W') _ _ _ _ ?_
  refine anyH_take 0 45 (.slice none 0 0) rfl rfl (by kernel_rfl) (by kernel_rfl) (by kernel_rfl) (fun _ _ _ h => h) (Or.inl ⟨by rfl, by intro w hSw; go_simp⟩) ((Below.refl _ _).drew) ?_
  try simp only [Act.put, List.setIfInBounds_toArray, List.set_cons_zero, List.set_cons_succ]
  refine anyH_take 1 46 (.slice (some ⟨g, o, none⟩) hs.length c) rfl rfl (by kernel_rfl) (by kernel_rfl) (by kernel_rfl) (fun _ _ _ h => h) (Or.inl ⟨by rfl, by intro w hSw; go_simp⟩) ((Below.refl _ _).drew) ?_
  try simp only [Act.put, List.setIfInBounds_toArray, List.set_cons_zero, List.set_cons_succ]
  refine anyH_take 2 47 (.int .i64 (k : Int)) rfl rfl (by kernel_rfl) (by kernel_rfl) (by kernel_rfl) (fun _ _ _ h => h) (Or.inl ⟨by rfl, by intro w hSw; go_simp⟩) ((Below.refl _ _).drew) ?_
  try simp only [Act.put, List.setIfInBounds_toArray, List.set_cons_zero, List.set_cons_succ]
  refine anyH_take 3 48 (.slice (some ⟨g, o, none⟩) k c) rfl rfl (by kernel_rfl) (by kernel_rfl) (by kernel_rfl) (fun _ _ _ h => h) (Or.inl ⟨by rfl, fun X hSw => exec_toH rfl rfl rfl (by have := HK.out; have := HLC.out; omega)⟩) ((Below.refl _ _).drew) ?_
  try simp only [Act.put, List.setIfInBounds_toArray, List.set_cons_zero, List.set_cons_succ]
  refine anyH_take 5 50 (.slice (some ⟨g, o, none⟩) hs.length c) rfl rfl (by kernel_rfl) (by kernel_rfl) (by kernel_rfl) (fun _ _ _ h => h) (Or.inl ⟨by rfl, by intro w hSw; go_simp⟩) ((Below.refl _ _).drew) ?_
  try simp only [Act.put, List.setIfInBounds_toArray, List.set_cons_zero, List.set_cons_succ]
  refine anyH_take 6 51 (.int .i64 (k : Int)) rfl rfl (by kernel_rfl) (by kernel_rfl) (by kernel_rfl) (fun _ _ _ h => h) (Or.inl ⟨by rfl, by intro w hSw; go_simp⟩) ((Below.refl _ _).drew) ?_
  try simp only [Act.put, List.setIfInBounds_toArray, List.set_cons_zero, List.set_cons_succ]
  refine anyH_take 7 52 (.int .i64 ((k + 1 : Nat) : Int)) rfl rfl (by kernel_rfl) (by kernel_rfl) (by kernel_rfl) (fun _ _ _ h => h) (Or.inl ⟨by rfl, by intro w hSw; have s1 := hwk; go_simp⟩) ((Below.refl _ _).drew) ?_
  try simp only [Act.put, List.setIfInBounds_toArray, List.set_cons_zero, List.set_cons_succ]
  obtain ⟨a9, h9⟩ : ∃ a9, (if c = k + 1 then some ⟨g, o, none⟩ else (some (⟨g, o, none⟩ : Addr)).map (·.add ((k + 1) * 6))) = a9 := ⟨_, rfl⟩
  have R9 := R1.from (k + 1) HK.out
  rw [h9] at R9
  have H9 : Hid ((if c = k + 1 then some ⟨g, o, none⟩ else (some (⟨g, o, none⟩ : Addr)).map (·.add ((k + 1) * 6))) = a9) := h9
  clear h9
  refine anyH_take 8 53 (.slice a9 (hs.length - (k + 1)) (c - (k + 1))) rfl rfl (by kernel_rfl) (by kernel_rfl) (by kernel_rfl) (fun _ _ _ h => h) (Or.inl ⟨by rfl, fun X hSw => (by rw [← H9.out]; exact exec_fromH rfl rfl rfl HK.out)⟩) ((Below.refl _ _).drew) ?_
  try simp only [Act.put, List.setIfInBounds_toArray, List.set_cons_zero, List.set_cons_succ]
  refine wpAnyH_ready (rs := [4]) (by kernel_rfl) (by simp) ?_
  refine AllReadyH.cons rfl (fun K hK => ?_) AllReadyH.nil
  refine wp_grow_lstH (base := w1.heap.size) (v := .slice none 0 0) (k := 0) (es := []) (ds := rs.take k) _ _ rfl rfl rfl (World.ownsRow_nil _ _ 43 6) ((R1.below (Below.refl _ _).drew).to k (Nat.le_of_lt HK.out)) (by have := H16.out; have := HK.out; omega) (Nat.le_refl _) ?_
  intro v2 w2 O2 g2 b2
  rw [Nat.zero_add, List.nil_append] at O2
  have b2' : Below w1.heap.size w1 w2 := (Below.refl _ _).drew.trans b2
  obtain ⟨a2, c2, e2, _, _⟩ := own_lstH O2 (by rw [List.length_take, HRL.out]; have := HK.out; omega)
  subst e2
  refine hK.out _ _ (b2') (fun hS => ?_)
  clear hK
  try simp only [Act.put, List.setIfInBounds_toArray, List.set_cons_zero, List.set_cons_succ]
  refine wpAnyH_ready (rs := [9]) (by kernel_rfl) (by simp) ?_
  refine AllReadyH.cons rfl (fun K hK => ?_) AllReadyH.nil
  refine wp_grow_lstH (base := w1.heap.size) (v := .slice a2 k c2) (k := k) (es := rs.take k) (ds := rs.drop (k + 1)) _ _ rfl rfl rfl O2 (R9.below b2') (by have := H16.out; have := HK.out; omega) b2'.size ?_
  intro v3 w3 O3 g3 b3
  obtain ⟨a3, c3, e3, LL, _⟩ := own_lstH O3 (by rw [List.length_append, List.length_take, List.length_drop, HRL.out]; have := HK.out; omega)
  subst e3
  refine hK.out _ _ (b2'.trans b3) (fun hS => ?_)
  clear hK
  try simp only [Act.put, List.setIfInBounds_toArray, List.set_cons_zero, List.set_cons_succ]
  refine anyH_take 10 13 (.slice a3 (k + (hs.length - (k + 1))) c3) rfl rfl (by kernel_rfl) (by kernel_rfl) (by kernel_rfl) (fun _ _ _ h => h) (Or.inl ⟨by rfl, by intro w hSw; go_simp⟩) (hS) ?_
  try simp only [Act.put, List.setIfInBounds_toArray, List.set_cons_zero, List.set_cons_succ]
  refine wpAnyH_done (by kernel_rfl) ?_ _
  have B3 : Below w.heap.size w w3 := B1.trans (hS.mono B1.size)
  obtain ⟨en, HL⟩ := hs_part k HK.out HRL.out (fun i hi => by obtain ⟨a, c, e, r⟩ := HPK.out i hi; exact ⟨a, c, e, RdL.below r B3⟩) (LL.rd (by have := H16.out; omega))
  simp only [en]
  clear hS O3 O2 LL en R1 R0 R9 kc kc1
  obtain ⟨nL, hnL⟩ : ∃ n : Nat, (hs.take k ++ hs.drop (k + 1)).length = n := ⟨_, rfl⟩
  rw [hnL] at HL
  simp only [hnL] at K13b ⊢
  clear hnL
  go_wp2_with (first
    | (go_at_call 13; refine (K13 _ B3).mono ?_; rintro e w4 ⟨rfl, b4⟩; clear K13; have B4 := B3.trans (b4.mono B3.size))
    | (go_at_call 15; refine (K15 _ B4).mono ?_; rintro e w5 ⟨rfl, b5⟩; clear K15; have B5 := B4.trans (b5.mono B4.size))
    | (go_at_call 17; refine (K17 _ B5).mono ?_; rintro e w6 ⟨rfl, b6⟩; clear K17; have B6 := B5.trans (b6.mono B5.size); have HL6 := ((HL.below b4).below b5).below b6)
    | (go_at_call 13; refine (K13b _ _ _ HL6).mono ?_; rintro e w7 ⟨rfl, b7⟩; clear K13b; have B7 := B6.trans (b7.mono B6.size))
    | (go_at_call 7; refine (awake_any _).mono ?_; rintro e w8 ⟨rfl, b8⟩; have B8 := B7.trans (b8.mono B7.size)))
  go_ret
  exact ⟨rfl, B8⟩
set_option maxRecDepth 100000 in
set_option maxHeartbeats 8000000 in
theorem back_b (id input : Int) (A : Option Addr) (c : Nat) (hs : List HS) (name : ByteArray) (which : Int) (w : World) (P : Hs w A hs.length c hs) (hfit : (inI input && fitsB id hs) = true) (k : Nat) (hk : k < hs.length) (hkk : IntKind.i64.wrap ((IntKind.u64.wrap which).tmod (IntKind.u64.wrap (hs.length : Int))) = (k : Int)) (hnz : IntKind.u64.wrap (hs.length : Int) ≠ 0) (xv xe yv ye zv : Int)
    (eX : chkV (input :: (ents id name hs).map cntE).sum = xv ∧ chkE (input :: (ents id name hs).map cntE).sum = xe) (eY : chkV (input :: (ents id name hs).map (cntR (hs.getD k HS.z).peer)).sum = yv ∧ chkE (input :: (ents id name hs).map (cntR (hs.getD k HS.z).peer)).sum = ye) (eZ : chkV (0 :: (ents id name hs).map (cntB (hs.getD k HS.z).peer)).sum = zv ∧ chkE (0 :: (ents id name hs).map (cntB (hs.getD k HS.z).peer)).sum = 0) (hx : (xe != 0) = false) (hy : (ye != 0) = true) : Calls Try.prog 4 #[.int .i64 id, .int .i64 input, .slice A hs.length c, .string name, .int .i64 which] w fun e w' => e = .returned (.bool true) ∧ Below w.heap.size w w' := by
  have K6 := bfit_any id input A c hs w P
  rw [hfit] at K6
  rw [Bool.and_eq_true] at hfit
  obtain ⟨hi, hf⟩ := hfit
  have hin : -2147483647 ≤ input ∧ input ≤ 2147483647 := of_decide_eq_true hi
  have h16 := fits_few hf
  have hln : (hs.take k ++ hs.drop (k + 1)).length ≤ 16 := by rw [List.length_append, List.length_take, List.length_drop]; omega
  have hz : ((hs.length : Int) == 0) = false := by simp; intro e; rw [e] at hk; simp at hk
  have K13 := fun W (b : Below w.heap.size w W) => estimate_any id input A c hs name W (P.below b) (by omega) hin
  have K15 := fun W (b : Below w.heap.size w W) => rest_any id input (hs.getD k HS.z).peer A c hs name W (P.below b) (by omega) hin
  have K17 := fun W (b : Below w.heap.size w W) => back_any id (hs.getD k HS.z).peer A c hs name W (P.below b) (by omega)
  have K13b := fun W a' c' (H : Hs W a' (hs.take k ++ hs.drop (k + 1)).length c' (hs.take k ++ hs.drop (k + 1))) => estimate_any id input a' c' (hs.take k ++ hs.drop (k + 1)) name W H (by omega) hin
  have er := ents_erase (id := id) (name := name) (fits_rise hf) hk
  have er2 : (input :: (ents id name (hs.take k ++ hs.drop (k + 1))).map cntE).sum = (input :: (ents id name hs).map (cntR (hs.getD k HS.z).peer)).sum := by rw [List.sum_cons, List.sum_cons, er]
  simp only [er2, eY.1, eY.2] at K13b
  simp only [eX.1, eX.2] at K13
  simp only [eY.1, eY.2] at K15
  simp only [eZ.1, eZ.2] at K17
  obtain ⟨rs, R0, PK⟩ := P.mem
  have HPK : Hid (∀ i, i < hs.length → ∃ a c, rs.getD i HR.z = (hs.getD i HS.z).on a c ∧ RdO w (hs.getD i HS.z) a c) := PK
  have HRL : Hid (rs.length = hs.length) := R0.size
  obtain ⟨g, o, a1, c1, eA, k10, r10, R10⟩ := P.at k hk
  obtain ⟨peer, ep⟩ : ∃ p, (hs.getD k HS.z).peer = p := ⟨_, rfl⟩
  have kc : ∀ X, Below w.heap.size w X → X.cell? ⟨g, o + k * 6, none⟩ = some (.int .i64 peer) := fun X b => by rw [← ep]; exact peer_cell (range_later r10 k10 b)
  rw [ep] at K15 K17
  have HK : Hid (k < hs.length) := hk
  have HLC : Hid (hs.length ≤ c) := R0.le
  have H16 : Hid (hs.length ≤ 16) := h16
  have hkI : (k : Int) < (hs.length : Int) := by omega
  have hwk : IntKind.i64.wrap ((k : Int) + 1) = ((k + 1 : Nat) : Int) := by rw [IntKind.wrap_i64]; omega
  have hyy : (yv != yv) = false := by simp
  have hee : (ye != ye) = false := by simp
  subst eA
  clear eX eY eZ er er2 PK hf hi hin h16 hln hk r10 R10 ep
  go_enter Try.func4, Try.ntmps4
  go_wp2_with (first
    | (go_at_call 6; refine K6.mono ?_; rintro e w1 ⟨rfl, B1⟩; clear K6; have kc1 := kc _ B1)
    | fail)
  have R1 := R0.below B1
  refine wp_region_any (by kernel_rfl) ?_
  change wpAny _ _ _ _ _ _ _ (World.drew _)
  refine wpAny_narrow (fun W' => Below w1.heap.size w1 W') _ _ _ _ ?_
  refine anyH_take 0 45 (.slice none 0 0) rfl rfl (by kernel_rfl) (by kernel_rfl) (by kernel_rfl) (fun _ _ _ h => h) (Or.inl ⟨by rfl, by intro w hSw; go_simp⟩) ((Below.refl _ _).drew) ?_
  try simp only [Act.put, List.setIfInBounds_toArray, List.set_cons_zero, List.set_cons_succ]
  refine anyH_take 1 46 (.slice (some ⟨g, o, none⟩) hs.length c) rfl rfl (by kernel_rfl) (by kernel_rfl) (by kernel_rfl) (fun _ _ _ h => h) (Or.inl ⟨by rfl, by intro w hSw; go_simp⟩) ((Below.refl _ _).drew) ?_
  try simp only [Act.put, List.setIfInBounds_toArray, List.set_cons_zero, List.set_cons_succ]
  refine anyH_take 2 47 (.int .i64 (k : Int)) rfl rfl (by kernel_rfl) (by kernel_rfl) (by kernel_rfl) (fun _ _ _ h => h) (Or.inl ⟨by rfl, by intro w hSw; go_simp⟩) ((Below.refl _ _).drew) ?_
  try simp only [Act.put, List.setIfInBounds_toArray, List.set_cons_zero, List.set_cons_succ]
  refine anyH_take 3 48 (.slice (some ⟨g, o, none⟩) k c) rfl rfl (by kernel_rfl) (by kernel_rfl) (by kernel_rfl) (fun _ _ _ h => h) (Or.inl ⟨by rfl, fun X hSw => exec_toH rfl rfl rfl (by have := HK.out; have := HLC.out; omega)⟩) ((Below.refl _ _).drew) ?_
  try simp only [Act.put, List.setIfInBounds_toArray, List.set_cons_zero, List.set_cons_succ]
  refine anyH_take 5 50 (.slice (some ⟨g, o, none⟩) hs.length c) rfl rfl (by kernel_rfl) (by kernel_rfl) (by kernel_rfl) (fun _ _ _ h => h) (Or.inl ⟨by rfl, by intro w hSw; go_simp⟩) ((Below.refl _ _).drew) ?_
  try simp only [Act.put, List.setIfInBounds_toArray, List.set_cons_zero, List.set_cons_succ]
  refine anyH_take 6 51 (.int .i64 (k : Int)) rfl rfl (by kernel_rfl) (by kernel_rfl) (by kernel_rfl) (fun _ _ _ h => h) (Or.inl ⟨by rfl, by intro w hSw; go_simp⟩) ((Below.refl _ _).drew) ?_
  try simp only [Act.put, List.setIfInBounds_toArray, List.set_cons_zero, List.set_cons_succ]
  refine anyH_take 7 52 (.int .i64 ((k + 1 : Nat) : Int)) rfl rfl (by kernel_rfl) (by kernel_rfl) (by kernel_rfl) (fun _ _ _ h => h) (Or.inl ⟨by rfl, by intro w hSw; have s1 := hwk; go_simp⟩) ((Below.refl _ _).drew) ?_
  try simp only [Act.put, List.setIfInBounds_toArray, List.set_cons_zero, List.set_cons_succ]
  obtain ⟨a9, h9⟩ : ∃ a9, (if c = k + 1 then some ⟨g, o, none⟩ else (some (⟨g, o, none⟩ : Addr)).map (·.add ((k + 1) * 6))) = a9 := ⟨_, rfl⟩
  have R9 := R1.from (k + 1) HK.out
  rw [h9] at R9
  have H9 : Hid ((if c = k + 1 then some ⟨g, o, none⟩ else (some (⟨g, o, none⟩ : Addr)).map (·.add ((k + 1) * 6))) = a9) := h9
  clear h9
  refine anyH_take 8 53 (.slice a9 (hs.length - (k + 1)) (c - (k + 1))) rfl rfl (by kernel_rfl) (by kernel_rfl) (by kernel_rfl) (fun _ _ _ h => h) (Or.inl ⟨by rfl, fun X hSw => (by rw [← H9.out]; exact exec_fromH rfl rfl rfl HK.out)⟩) ((Below.refl _ _).drew) ?_
  try simp only [Act.put, List.setIfInBounds_toArray, List.set_cons_zero, List.set_cons_succ]
  refine wpAnyH_ready (rs := [4]) (by kernel_rfl) (by simp) ?_
  refine AllReadyH.cons rfl (fun K hK => ?_) AllReadyH.nil
  refine wp_grow_lstH (base := w1.heap.size) (v := .slice none 0 0) (k := 0) (es := []) (ds := rs.take k) _ _ rfl rfl rfl (World.ownsRow_nil _ _ 43 6) ((R1.below (Below.refl _ _).drew).to k (Nat.le_of_lt HK.out)) (by have := H16.out; have := HK.out; omega) (Nat.le_refl _) ?_
  intro v2 w2 O2 g2 b2
  rw [Nat.zero_add, List.nil_append] at O2
  have b2' : Below w1.heap.size w1 w2 := (Below.refl _ _).drew.trans b2
  obtain ⟨a2, c2, e2, _, _⟩ := own_lstH O2 (by rw [List.length_take, HRL.out]; have := HK.out; omega)
  subst e2
  refine hK.out _ _ (b2') (fun hS => ?_)
  clear hK
  try simp only [Act.put, List.setIfInBounds_toArray, List.set_cons_zero, List.set_cons_succ]
  refine wpAnyH_ready (rs := [9]) (by kernel_rfl) (by simp) ?_
  refine AllReadyH.cons rfl (fun K hK => ?_) AllReadyH.nil
  refine wp_grow_lstH (base := w1.heap.size) (v := .slice a2 k c2) (k := k) (es := rs.take k) (ds := rs.drop (k + 1)) _ _ rfl rfl rfl O2 (R9.below b2') (by have := H16.out; have := HK.out; omega) b2'.size ?_
  intro v3 w3 O3 g3 b3
  obtain ⟨a3, c3, e3, LL, _⟩ := own_lstH O3 (by rw [List.length_append, List.length_take, List.length_drop, HRL.out]; have := HK.out; omega)
  subst e3
  refine hK.out _ _ (b2'.trans b3) (fun hS => ?_)
  clear hK
  try simp only [Act.put, List.setIfInBounds_toArray, List.set_cons_zero, List.set_cons_succ]
  refine anyH_take 10 13 (.slice a3 (k + (hs.length - (k + 1))) c3) rfl rfl (by kernel_rfl) (by kernel_rfl) (by kernel_rfl) (fun _ _ _ h => h) (Or.inl ⟨by rfl, by intro w hSw; go_simp⟩) (hS) ?_
  try simp only [Act.put, List.setIfInBounds_toArray, List.set_cons_zero, List.set_cons_succ]
  refine wpAnyH_done (by kernel_rfl) ?_ _
  have B3 : Below w.heap.size w w3 := B1.trans (hS.mono B1.size)
  obtain ⟨en, HL⟩ := hs_part k HK.out HRL.out (fun i hi => by obtain ⟨a, c, e, r⟩ := HPK.out i hi; exact ⟨a, c, e, RdL.below r B3⟩) (LL.rd (by have := H16.out; omega))
  simp only [en]
  clear hS O3 O2 LL en R1 R0 R9 kc kc1
  obtain ⟨nL, hnL⟩ : ∃ n : Nat, (hs.take k ++ hs.drop (k + 1)).length = n := ⟨_, rfl⟩
  rw [hnL] at HL
  simp only [hnL] at K13b ⊢
  clear hnL
  go_wp2_with (first
    | (go_at_call 13; refine (K13 _ B3).mono ?_; rintro e w4 ⟨rfl, b4⟩; clear K13; have B4 := B3.trans (b4.mono B3.size))
    | (go_at_call 15; refine (K15 _ B4).mono ?_; rintro e w5 ⟨rfl, b5⟩; clear K15; have B5 := B4.trans (b5.mono B4.size))
    | (go_at_call 17; refine (K17 _ B5).mono ?_; rintro e w6 ⟨rfl, b6⟩; clear K17; have B6 := B5.trans (b6.mono B5.size); have HL6 := ((HL.below b4).below b5).below b6)
    | (go_at_call 13; refine (K13b _ _ _ HL6).mono ?_; rintro e w7 ⟨rfl, b7⟩; clear K13b; have B7 := B6.trans (b7.mono B6.size))
    | (go_at_call 7; refine (awake_any _).mono ?_; rintro e w8 ⟨rfl, b8⟩; have B8 := B7.trans (b8.mono B7.size)))
  go_ret
  exact ⟨rfl, B8⟩
set_option maxRecDepth 100000 in
set_option maxHeartbeats 8000000 in
theorem back_c (id input : Int) (A : Option Addr) (c : Nat) (hs : List HS) (name : ByteArray) (which : Int) (w : World) (P : Hs w A hs.length c hs) (hfit : (inI input && fitsB id hs) = true) (k : Nat) (hk : k < hs.length) (hkk : IntKind.i64.wrap ((IntKind.u64.wrap which).tmod (IntKind.u64.wrap (hs.length : Int))) = (k : Int)) (hnz : IntKind.u64.wrap (hs.length : Int) ≠ 0) (xv xe yv ye zv : Int)
    (eX : chkV (input :: (ents id name hs).map cntE).sum = xv ∧ chkE (input :: (ents id name hs).map cntE).sum = xe) (eY : chkV (input :: (ents id name hs).map (cntR (hs.getD k HS.z).peer)).sum = yv ∧ chkE (input :: (ents id name hs).map (cntR (hs.getD k HS.z).peer)).sum = ye) (eZ : chkV (0 :: (ents id name hs).map (cntB (hs.getD k HS.z).peer)).sum = zv ∧ chkE (0 :: (ents id name hs).map (cntB (hs.getD k HS.z).peer)).sum = 0) (hx : (xe != 0) = false) (hy : (ye != 0) = false) (hw : IntKind.i64.wrap (yv - zv) = yv - zv) (he : (yv - zv == xv) = true) : Calls Try.prog 4 #[.int .i64 id, .int .i64 input, .slice A hs.length c, .string name, .int .i64 which] w fun e w' => e = .returned (.bool true) ∧ Below w.heap.size w w' := by
  have K6 := bfit_any id input A c hs w P
  rw [hfit] at K6
  rw [Bool.and_eq_true] at hfit
  obtain ⟨hi, hf⟩ := hfit
  have hin : -2147483647 ≤ input ∧ input ≤ 2147483647 := of_decide_eq_true hi
  have h16 := fits_few hf
  have hln : (hs.take k ++ hs.drop (k + 1)).length ≤ 16 := by rw [List.length_append, List.length_take, List.length_drop]; omega
  have hz : ((hs.length : Int) == 0) = false := by simp; intro e; rw [e] at hk; simp at hk
  have K13 := fun W (b : Below w.heap.size w W) => estimate_any id input A c hs name W (P.below b) (by omega) hin
  have K15 := fun W (b : Below w.heap.size w W) => rest_any id input (hs.getD k HS.z).peer A c hs name W (P.below b) (by omega) hin
  have K17 := fun W (b : Below w.heap.size w W) => back_any id (hs.getD k HS.z).peer A c hs name W (P.below b) (by omega)
  have K13b := fun W a' c' (H : Hs W a' (hs.take k ++ hs.drop (k + 1)).length c' (hs.take k ++ hs.drop (k + 1))) => estimate_any id input a' c' (hs.take k ++ hs.drop (k + 1)) name W H (by omega) hin
  have er := ents_erase (id := id) (name := name) (fits_rise hf) hk
  have er2 : (input :: (ents id name (hs.take k ++ hs.drop (k + 1))).map cntE).sum = (input :: (ents id name hs).map (cntR (hs.getD k HS.z).peer)).sum := by rw [List.sum_cons, List.sum_cons, er]
  simp only [er2, eY.1, eY.2] at K13b
  simp only [eX.1, eX.2] at K13
  simp only [eY.1, eY.2] at K15
  simp only [eZ.1, eZ.2] at K17
  obtain ⟨rs, R0, PK⟩ := P.mem
  have HPK : Hid (∀ i, i < hs.length → ∃ a c, rs.getD i HR.z = (hs.getD i HS.z).on a c ∧ RdO w (hs.getD i HS.z) a c) := PK
  have HRL : Hid (rs.length = hs.length) := R0.size
  obtain ⟨g, o, a1, c1, eA, k10, r10, R10⟩ := P.at k hk
  obtain ⟨peer, ep⟩ : ∃ p, (hs.getD k HS.z).peer = p := ⟨_, rfl⟩
  have kc : ∀ X, Below w.heap.size w X → X.cell? ⟨g, o + k * 6, none⟩ = some (.int .i64 peer) := fun X b => by rw [← ep]; exact peer_cell (range_later r10 k10 b)
  rw [ep] at K15 K17
  have HK : Hid (k < hs.length) := hk
  have HLC : Hid (hs.length ≤ c) := R0.le
  have H16 : Hid (hs.length ≤ 16) := h16
  have hkI : (k : Int) < (hs.length : Int) := by omega
  have hwk : IntKind.i64.wrap ((k : Int) + 1) = ((k + 1 : Nat) : Int) := by rw [IntKind.wrap_i64]; omega
  have hyy : (yv != yv) = false := by simp
  have hee : (ye != ye) = false := by simp
  subst eA
  clear eX eY eZ er er2 PK hf hi hin h16 hln hk r10 R10 ep
  go_enter Try.func4, Try.ntmps4
  go_wp2_with (first
    | (go_at_call 6; refine K6.mono ?_; rintro e w1 ⟨rfl, B1⟩; clear K6; have kc1 := kc _ B1)
    | fail)
  have R1 := R0.below B1
  refine wp_region_any (by kernel_rfl) ?_
  change wpAny _ _ _ _ _ _ _ (World.drew _)
  refine wpAny_narrow (fun W' => Below w1.heap.size w1 W') _ _ _ _ ?_
  refine anyH_take 0 45 (.slice none 0 0) rfl rfl (by kernel_rfl) (by kernel_rfl) (by kernel_rfl) (fun _ _ _ h => h) (Or.inl ⟨by rfl, by intro w hSw; go_simp⟩) ((Below.refl _ _).drew) ?_
  try simp only [Act.put, List.setIfInBounds_toArray, List.set_cons_zero, List.set_cons_succ]
  refine anyH_take 1 46 (.slice (some ⟨g, o, none⟩) hs.length c) rfl rfl (by kernel_rfl) (by kernel_rfl) (by kernel_rfl) (fun _ _ _ h => h) (Or.inl ⟨by rfl, by intro w hSw; go_simp⟩) ((Below.refl _ _).drew) ?_
  try simp only [Act.put, List.setIfInBounds_toArray, List.set_cons_zero, List.set_cons_succ]
  refine anyH_take 2 47 (.int .i64 (k : Int)) rfl rfl (by kernel_rfl) (by kernel_rfl) (by kernel_rfl) (fun _ _ _ h => h) (Or.inl ⟨by rfl, by intro w hSw; go_simp⟩) ((Below.refl _ _).drew) ?_
  try simp only [Act.put, List.setIfInBounds_toArray, List.set_cons_zero, List.set_cons_succ]
  refine anyH_take 3 48 (.slice (some ⟨g, o, none⟩) k c) rfl rfl (by kernel_rfl) (by kernel_rfl) (by kernel_rfl) (fun _ _ _ h => h) (Or.inl ⟨by rfl, fun X hSw => exec_toH rfl rfl rfl (by have := HK.out; have := HLC.out; omega)⟩) ((Below.refl _ _).drew) ?_
  try simp only [Act.put, List.setIfInBounds_toArray, List.set_cons_zero, List.set_cons_succ]
  refine anyH_take 5 50 (.slice (some ⟨g, o, none⟩) hs.length c) rfl rfl (by kernel_rfl) (by kernel_rfl) (by kernel_rfl) (fun _ _ _ h => h) (Or.inl ⟨by rfl, by intro w hSw; go_simp⟩) ((Below.refl _ _).drew) ?_
  try simp only [Act.put, List.setIfInBounds_toArray, List.set_cons_zero, List.set_cons_succ]
  refine anyH_take 6 51 (.int .i64 (k : Int)) rfl rfl (by kernel_rfl) (by kernel_rfl) (by kernel_rfl) (fun _ _ _ h => h) (Or.inl ⟨by rfl, by intro w hSw; go_simp⟩) ((Below.refl _ _).drew) ?_
  try simp only [Act.put, List.setIfInBounds_toArray, List.set_cons_zero, List.set_cons_succ]
  refine anyH_take 7 52 (.int .i64 ((k + 1 : Nat) : Int)) rfl rfl (by kernel_rfl) (by kernel_rfl) (by kernel_rfl) (fun _ _ _ h => h) (Or.inl ⟨by rfl, by intro w hSw; have s1 := hwk; go_simp⟩) ((Below.refl _ _).drew) ?_
  try simp only [Act.put, List.setIfInBounds_toArray, List.set_cons_zero, List.set_cons_succ]
  obtain ⟨a9, h9⟩ : ∃ a9, (if c = k + 1 then some ⟨g, o, none⟩ else (some (⟨g, o, none⟩ : Addr)).map (·.add ((k + 1) * 6))) = a9 := ⟨_, rfl⟩
  have R9 := R1.from (k + 1) HK.out
  rw [h9] at R9
  have H9 : Hid ((if c = k + 1 then some ⟨g, o, none⟩ else (some (⟨g, o, none⟩ : Addr)).map (·.add ((k + 1) * 6))) = a9) := h9
  clear h9
  refine anyH_take 8 53 (.slice a9 (hs.length - (k + 1)) (c - (k + 1))) rfl rfl (by kernel_rfl) (by kernel_rfl) (by kernel_rfl) (fun _ _ _ h => h) (Or.inl ⟨by rfl, fun X hSw => (by rw [← H9.out]; exact exec_fromH rfl rfl rfl HK.out)⟩) ((Below.refl _ _).drew) ?_
  try simp only [Act.put, List.setIfInBounds_toArray, List.set_cons_zero, List.set_cons_succ]
  refine wpAnyH_ready (rs := [4]) (by kernel_rfl) (by simp) ?_
  refine AllReadyH.cons rfl (fun K hK => ?_) AllReadyH.nil
  refine wp_grow_lstH (base := w1.heap.size) (v := .slice none 0 0) (k := 0) (es := []) (ds := rs.take k) _ _ rfl rfl rfl (World.ownsRow_nil _ _ 43 6) ((R1.below (Below.refl _ _).drew).to k (Nat.le_of_lt HK.out)) (by have := H16.out; have := HK.out; omega) (Nat.le_refl _) ?_
  intro v2 w2 O2 g2 b2
  rw [Nat.zero_add, List.nil_append] at O2
  have b2' : Below w1.heap.size w1 w2 := (Below.refl _ _).drew.trans b2
  obtain ⟨a2, c2, e2, _, _⟩ := own_lstH O2 (by rw [List.length_take, HRL.out]; have := HK.out; omega)
  subst e2
  refine hK.out _ _ (b2') (fun hS => ?_)
  clear hK
  try simp only [Act.put, List.setIfInBounds_toArray, List.set_cons_zero, List.set_cons_succ]
  refine wpAnyH_ready (rs := [9]) (by kernel_rfl) (by simp) ?_
  refine AllReadyH.cons rfl (fun K hK => ?_) AllReadyH.nil
  refine wp_grow_lstH (base := w1.heap.size) (v := .slice a2 k c2) (k := k) (es := rs.take k) (ds := rs.drop (k + 1)) _ _ rfl rfl rfl O2 (R9.below b2') (by have := H16.out; have := HK.out; omega) b2'.size ?_
  intro v3 w3 O3 g3 b3
  obtain ⟨a3, c3, e3, LL, _⟩ := own_lstH O3 (by rw [List.length_append, List.length_take, List.length_drop, HRL.out]; have := HK.out; omega)
  subst e3
  refine hK.out _ _ (b2'.trans b3) (fun hS => ?_)
  clear hK
  try simp only [Act.put, List.setIfInBounds_toArray, List.set_cons_zero, List.set_cons_succ]
  refine anyH_take 10 13 (.slice a3 (k + (hs.length - (k + 1))) c3) rfl rfl (by kernel_rfl) (by kernel_rfl) (by kernel_rfl) (fun _ _ _ h => h) (Or.inl ⟨by rfl, by intro w hSw; go_simp⟩) (hS) ?_
  try simp only [Act.put, List.setIfInBounds_toArray, List.set_cons_zero, List.set_cons_succ]
  refine wpAnyH_done (by kernel_rfl) ?_ _
  have B3 : Below w.heap.size w w3 := B1.trans (hS.mono B1.size)
  obtain ⟨en, HL⟩ := hs_part k HK.out HRL.out (fun i hi => by obtain ⟨a, c, e, r⟩ := HPK.out i hi; exact ⟨a, c, e, RdL.below r B3⟩) (LL.rd (by have := H16.out; omega))
  simp only [en]
  clear hS O3 O2 LL en R1 R0 R9 kc kc1
  obtain ⟨nL, hnL⟩ : ∃ n : Nat, (hs.take k ++ hs.drop (k + 1)).length = n := ⟨_, rfl⟩
  rw [hnL] at HL
  simp only [hnL] at K13b ⊢
  clear hnL
  go_wp2_with (first
    | (go_at_call 13; refine (K13 _ B3).mono ?_; rintro e w4 ⟨rfl, b4⟩; clear K13; have B4 := B3.trans (b4.mono B3.size))
    | (go_at_call 15; refine (K15 _ B4).mono ?_; rintro e w5 ⟨rfl, b5⟩; clear K15; have B5 := B4.trans (b5.mono B4.size))
    | (go_at_call 17; refine (K17 _ B5).mono ?_; rintro e w6 ⟨rfl, b6⟩; clear K17; have B6 := B5.trans (b6.mono B5.size); have HL6 := ((HL.below b4).below b5).below b6)
    | (go_at_call 13; refine (K13b _ _ _ HL6).mono ?_; rintro e w7 ⟨rfl, b7⟩; clear K13b; have B7 := B6.trans (b7.mono B6.size))
    | (go_at_call 7; refine (awake_any _).mono ?_; rintro e w8 ⟨rfl, b8⟩; have B8 := B7.trans (b8.mono B7.size)))
  go_ret
  exact ⟨rfl, B8⟩
theorem rem_k {which : Int} {n : Nat} (h0 : 0 < n) (hn : n ≤ 16) : ∃ k : Nat, k < n ∧ IntKind.i64.wrap ((IntKind.u64.wrap which).tmod (IntKind.u64.wrap (n : Int))) = (k : Int) ∧ IntKind.u64.wrap (n : Int) ≠ 0 := by
  have e1 : IntKind.u64.wrap (n : Int) = (n : Int) := by rw [IntKind.wrap_u64]; omega
  have h2 : 0 ≤ IntKind.u64.wrap which := by rw [IntKind.wrap_u64]; omega
  rw [e1, Int.tmod_eq_emod_of_nonneg h2]
  have h3 := Int.emod_nonneg (IntKind.u64.wrap which) (b := (n : Int)) (by omega)
  have h4 := Int.emod_lt_of_pos (IntKind.u64.wrap which) (b := (n : Int)) (by omega)
  obtain ⟨r, er⟩ : ∃ r, IntKind.u64.wrap which % (n : Int) = r := ⟨_, rfl⟩
  rw [er] at h3 h4 ⊢
  refine ⟨r.toNat, by omega, by rw [IntKind.wrap_i64]; omega, by omega⟩
theorem back_walk (id input : Int) (A : Option Addr) (c : Nat) (hs : List HS) (name : ByteArray) (which : Int) (w : World) (P : Hs w A hs.length c hs) : Calls Try.prog 4 #[.int .i64 id, .int .i64 input, .slice A hs.length c, .string name, .int .i64 which] w fun e w' => e = .returned (.bool true) ∧ Below w.heap.size w w' := by
  cases hfit : (inI input && fitsB id hs) with
  | false => exact back_none id input A c hs name which w P (.inl hfit)
  | true =>
    by_cases h0 : hs.length = 0
    · exact back_none id input A c hs name which w P (.inr h0)
    · have hf := (Bool.and_eq_true _ _ ▸ hfit : inI input = true ∧ fitsB id hs = true).2
      have h16 := fits_few hf
      obtain ⟨k, hk, hkk, hnz⟩ := rem_k (which := which) (n := hs.length) (by omega) h16
      have eZ : chkV (0 :: (ents id name hs).map (cntB (hs.getD k HS.z).peer)).sum = (0 :: (ents id name hs).map (cntB (hs.getD k HS.z).peer)).sum ∧ chkE (0 :: (ents id name hs).map (cntB (hs.getD k HS.z).peer)).sum = 0 := by
        refine chk_in ?_
        rw [List.sum_cons, Int.zero_add, back_sum (fits_rise hf)]
        exact backD_rng (fun p hp => ents_rng hp)
      have hsp := sum_split (ents id name hs) (hs.getD k HS.z).peer
      cases hX : okI (input :: (ents id name hs).map cntE).sum with
      | false => exact back_a id input A c hs name which w P hfit k hk hkk hnz _ _ _ _ _ (chk_out hX) ⟨rfl, rfl⟩ eZ (by decide)
      | true =>
        have eX := chk_in (of_decide_eq_true hX)
        cases hY : okI (input :: (ents id name hs).map (cntR (hs.getD k HS.z).peer)).sum with
        | false => exact back_b id input A c hs name which w P hfit k hk hkk hnz _ _ _ _ _ eX (chk_out hY) eZ (by decide) (by decide)
        | true =>
          have eY := chk_in (of_decide_eq_true hY)
          have e : (input :: (ents id name hs).map (cntR (hs.getD k HS.z).peer)).sum - (0 :: (ents id name hs).map (cntB (hs.getD k HS.z).peer)).sum = (input :: (ents id name hs).map cntE).sum := by
            simp only [List.sum_cons, hsp]
            omega
          refine back_c id input A c hs name which w P hfit k hk hkk hnz _ _ _ _ _ eX eY eZ (by decide) (by decide) ?_ ?_
          · rw [e, IntKind.wrap_i64]
            have := of_decide_eq_true hX
            omega
          · rw [e]; simp
end Go.Proofs.Ytcacocndcfbmaaa

namespace Go.Proofs.Ytcacocndcfbmaaa
open Go.ChangeShapes Go.WideShapes Go.ChangeAt Go.RowKit
set_option linter.unusedVariables false
set_option linter.unusedSimpArgs false

/-- A half-edge with one register, of the channel m. -/
def hX (b w f : Int) : HS := ⟨b, 1, 0, [⟨mB, 1, w, f⟩], false, 0⟩
theorem zero_one (w f : Int) : zeroB 1 w f = false := by unfold zeroB; simp
theorem wr_hX (b w f : Int) : (HS.mk b 1 0 [] false 0).wr mB 1 w f = hX b w f := by
  unfold HS.wr wrL
  rw [zero_one]
  rfl
theorem ent_hX (a b w f : Int) : ent1 a mB (hX b w f) = some (b, outZ 1 w f a b) := by
  unfold ent1
  have e : regN mB (hX b w f).ls = ⟨mB, 1, w, f⟩ := reg_m _ rfl
  rw [e, if_neg (by rw [zero_one]; decide)]
  rfl
theorem fit_sym (v w f a b : Int) : fitB v w f a b = fitB v w f b a := by
  unfold fitB edgeB lineB endB
  rw [Bool.eq_iff_iff]
  simp only [Bool.and_eq_true, Bool.or_eq_true, decide_eq_true_eq]
  constructor <;> intro h <;> grind
theorem out_anti (w f a b : Int) (h : a ≠ b) : outZ 1 w f a b = -outZ 1 w f b a := by
  unfold outZ
  rw [fit_sym 1 w f a b]
  split
  · unfold alongZ
    split <;> split <;> omega
  · rfl
theorem out_small (w f a b : Int) (h : -1048576 < f ∧ f < 1048576) : -1048576 < outZ 1 w f a b ∧ outZ 1 w f a b < 1048576 := by
  unfold outZ alongZ
  split
  · split <;> omega
  · omega
/-- What a node's half-edges take. -/
def tak (a : Nat) (l : List HS) : Int := ((ents (a : Int) mB l).map cntT).sum
def sN (F : Nat → Int) : Nat → Int
  | 0 => 0
  | n + 1 => sN F n + F n
theorem sN_same {F G : Nat → Int} : ∀ {n : Nat}, (∀ c, c < n → F c = G c) → sN F n = sN G n
  | 0, _ => rfl
  | n + 1, h => by unfold sN; rw [sN_same (fun c hc => h c (by omega)), h n (by omega)]
theorem sN_upd {F G : Nat → Int} {k : Nat} : ∀ {n : Nat}, k < n → (∀ c, c ≠ k → c < n → G c = F c) → sN G n = sN F n + (G k - F k)
  | 0, h, _ => by omega
  | n + 1, h, e => by
    unfold sN
    by_cases hk : k = n
    · subst hk
      rw [sN_same (fun c hc => e c (by omega) (by omega))]
      omega
    · rw [sN_upd (by omega) (fun c h1 h2 => e c h1 (by omega)), e n (by omega) (by omega)]
      omega
theorem put_mem {x y : HS} {l : List HS} (h : hitH x.peer l = false) : y ∈ putH x l ↔ y = x ∨ y ∈ l := by
  rw [put_no h, List.mem_append, List.mem_cons]
  have : y ∈ l ↔ y ∈ l.take (posH x.peer l) ∨ y ∈ l.drop (posH x.peer l) := by
    conv => lhs; rw [← List.take_append_drop (posH x.peer l) l]
    rw [List.mem_append]
  rw [this]
  constructor
  · rintro (h | h | h)
    · exact .inr (.inl h)
    · exact .inl h
    · exact .inr (.inr h)
  · rintro (h | h | h)
    · exact .inr (.inl h)
    · exact .inl h
    · exact .inr (.inr h)
theorem put_len {x : HS} {l : List HS} (h : hitH x.peer l = false) : (putH x l).length = l.length + 1 := by
  rw [put_no h]; exact ins_len _ _ _ (pos_le _ _)
theorem tak_put {a : Nat} {b w f : Int} {l : List HS} (h : hitH b l = false) : tak a (putH (hX b w f) l) = tak a l + outZ 1 w f a b := by
  have e : putH (hX b w f) l = l.take (posH b l) ++ ([hX b w f] ++ l.drop (posH b l)) := put_no (x := hX b w f) h
  have e2 : ents a mB [hX b w f] = [((b : Int), outZ 1 w f a b)] := by
    unfold ents
    rw [List.filterMap_cons, ent_hX]
    rfl
  have e3 : tak a l = ((ents (a : Int) mB (l.take (posH b l))).map cntT).sum + ((ents (a : Int) mB (l.drop (posH b l))).map cntT).sum := by
    unfold tak
    conv => lhs; rw [← List.take_append_drop (posH b l) l]
    rw [ents_app, List.map_append, List.sum_append]
  rw [e3]
  unfold tak
  rw [e, ents_app, ents_app, List.map_append, List.map_append, List.sum_append, List.sum_append, e2]
  simp only [List.map_cons, List.map_nil, List.sum_cons, List.sum_nil, cntT]
  omega
/-- Lists made by pairs. -/
structure Gd (n : Nat) (G : Nat → List HS) : Prop where
  rise : ∀ a, a < n → Rise (G a)
  mem : ∀ a, a < n → ∀ x ∈ G a, ∃ (b : Nat) (w f : Int), x = hX b w f ∧ b < n ∧ b ≠ a ∧ (-1048576 < f ∧ f < 1048576) ∧ hX a w f ∈ G b
  tot : sN (fun a => tak a (G a)) n = 0
theorem Gd.nil (n : Nat) : Gd n (fun _ => []) := by
  refine ⟨fun a ha i j hij hj => by simp at hj, fun a ha x hx => by simp at hx, ?_⟩
  have : ∀ k, sN (fun a => tak a []) k = 0 := fun k => by
    induction k with
    | zero => rfl
    | succ k ih => unfold sN; rw [ih]; rfl
  exact this n
theorem Gd.peers {n : Nat} {G : Nat → List HS} (h : Gd n G) {a : Nat} (ha : a < n) (j : Nat) (hj : j < (G a).length) : 0 ≤ ((G a).getD j HS.z).peer ∧ ((G a).getD j HS.z).peer < (n : Int) := by
  have hm : (G a).getD j HS.z ∈ G a := by
    rw [List.getD_eq_getElem?_getD, List.getElem?_eq_getElem hj]
    exact List.getElem_mem hj
  obtain ⟨b, w, f, e, hb, _⟩ := h.mem a ha _ hm
  rw [e]
  show 0 ≤ (b : Int) ∧ (b : Int) < n
  omega
theorem Gd.few {n : Nat} {G : Nat → List HS} (h : Gd n G) {a : Nat} (ha : a < n) : (G a).length ≤ n := by
  by_cases e : (G a).length = 0
  · omega
  · have h1 := rise_low (h.rise a ha) (fun j hj => (h.peers ha j hj).1) ((G a).length - 1) (by omega)
    have h2 := (h.peers ha ((G a).length - 1) (by omega)).2
    omega
theorem mem_hit {l : List HS} (hr : Rise l) {x : HS} (h : x ∈ l) : hitH x.peer l = true := by
  obtain ⟨i, hi, e⟩ := List.getElem_of_mem h
  have := (find_at hr i hi).2.1
  rw [List.getD_eq_getElem?_getD, List.getElem?_eq_getElem hi] at this
  rw [← e]
  exact this
theorem Gd.hits {n : Nat} {G : Nat → List HS} (h : Gd n G) {a b : Nat} (ha : a < n) (hb : b < n) (hh : hitH (b : Int) (G a) = false) : hitH (a : Int) (G b) = false := by
  cases e : hitH (a : Int) (G b) with
  | false => rfl
  | true =>
    exfalso
    obtain ⟨hp, hq⟩ := hit_peer e
    have hm : (G b).getD (posH a (G b)) HS.z ∈ G b := by
      rw [List.getD_eq_getElem?_getD, List.getElem?_eq_getElem hp]
      exact List.getElem_mem hp
    obtain ⟨c, w, f, e1, hc, _, _, hm2⟩ := h.mem b hb _ hm
    rw [e1] at hq
    have hca : c = a := by have : (c : Int) = a := hq; omega
    subst hca
    have := mem_hit (h.rise c ha) hm2
    rw [show (hX (b : Int) w f).peer = (b : Int) from rfl, hh] at this
    cases this
/-- What a pair makes of the lists. -/
def upG (G : Nat → List HS) (a b : Nat) (f : Int) : Nat → List HS := fun c => if c = b then putH (hX a a f) (G b) else if c = a then putH (hX b a f) (G a) else G c
theorem Gd.up {n : Nat} {G : Nat → List HS} (h : Gd n G) {a b : Nat} (ha : a < n) (hb : b < n) (hab : a ≠ b) (hh : hitH (b : Int) (G a) = false) {f : Int} (hf : -1048576 < f ∧ f < 1048576) : Gd n (upG G a b f) := by
  have hh2 := h.hits ha hb hh
  have ua : upG G a b f a = putH (hX b a f) (G a) := by unfold upG; rw [if_neg hab, if_pos rfl]
  have ub : upG G a b f b = putH (hX a a f) (G b) := by unfold upG; rw [if_pos rfl]
  have uc : ∀ c, c ≠ a → c ≠ b → upG G a b f c = G c := fun c h1 h2 => by unfold upG; rw [if_neg h2, if_neg h1]
  have sub : ∀ c x, x ∈ G c → x ∈ upG G a b f c := fun c x hx => by
    by_cases c1 : c = a
    · subst c1; rw [ua]; exact (put_mem hh).2 (.inr hx)
    · by_cases c2 : c = b
      · subst c2; rw [ub]; exact (put_mem hh2).2 (.inr hx)
      · rw [uc c c1 c2]; exact hx
  refine ⟨fun c hc => ?_, fun c hc x hx => ?_, ?_⟩
  · by_cases c1 : c = a
    · subst c1; rw [ua]; exact put_rise (h.rise c hc)
    · by_cases c2 : c = b
      · subst c2; rw [ub]; exact put_rise (h.rise c hc)
      · rw [uc c c1 c2]; exact h.rise c hc
  · have old : x ∈ G c → ∃ (b' : Nat) (w f' : Int), x = hX b' w f' ∧ b' < n ∧ b' ≠ c ∧ (-1048576 < f' ∧ f' < 1048576) ∧ hX c w f' ∈ upG G a b f b' := fun hx => by
      obtain ⟨b', w, f', e, h1, h2, h3, h4⟩ := h.mem c hc x hx
      exact ⟨b', w, f', e, h1, h2, h3, sub _ _ h4⟩
    by_cases c1 : c = a
    · subst c1
      rw [ua] at hx
      rcases (put_mem hh).1 hx with e | hx
      · exact ⟨b, c, f, e, hb, Ne.symm hab, hf, by rw [ub]; exact (put_mem hh2).2 (.inl rfl)⟩
      · exact old hx
    · by_cases c2 : c = b
      · subst c2
        rw [ub] at hx
        rcases (put_mem hh2).1 hx with e | hx
        · exact ⟨a, a, f, e, ha, hab, hf, by rw [ua]; exact (put_mem hh).2 (.inl rfl)⟩
        · exact old hx
      · rw [uc c c1 c2] at hx
        exact old hx
  · have e1 : sN (fun c => tak c (upG G a b f c)) n = sN (fun c => if c = a then tak a (putH (hX b a f) (G a)) else tak c (G c)) n + (tak b (putH (hX a a f) (G b)) - tak b (G b)) := by
      have := sN_upd (F := fun c => if c = a then tak a (putH (hX b a f) (G a)) else tak c (G c)) (G := fun c => tak c (upG G a b f c)) (k := b) (n := n) hb (fun c h1 h2 => by
        by_cases c1 : c = a
        · subst c1; simp only [ua, if_pos]
        · simp only [uc c c1 h1, if_neg c1])
      rw [this]
      simp only [ub, if_neg (Ne.symm hab)]
    have e2 := sN_upd (F := fun c => tak c (G c)) (G := fun c => if c = a then tak a (putH (hX b a f) (G a)) else tak c (G c)) (k := a) (n := n) ha (fun c h1 h2 => by simp only [if_neg h1])
    simp only [if_pos] at e2
    rw [e1, e2, h.tot, tak_put hh, tak_put hh2, out_anti a f a b (by omega)]
    omega
theorem tak_rng {a : Nat} : ∀ {l : List HS}, (∀ x ∈ l, ∃ b w f, x = hX b w f ∧ (-1048576 < f ∧ f < 1048576)) → -(1048576 * (l.length : Int)) ≤ tak a l ∧ tak a l ≤ 1048576 * (l.length : Int)
  | [], _ => by unfold tak ents; simp
  | x :: r, h => by
    obtain ⟨b, w, f, e, hf⟩ := h x (by simp)
    have ih := tak_rng (a := a) (l := r) (fun y hy => h y (by simp [hy]))
    have e2 : tak a (x :: r) = outZ 1 w f a b + tak a r := by
      unfold tak ents
      rw [List.filterMap_cons, e, ent_hX]
      rfl
    have := out_small w f a b hf
    rw [e2, List.length_cons]
    omega
theorem Gd.rng {n : Nat} {G : Nat → List HS} (h : Gd n G) (hn : n ≤ 16) {a : Nat} (ha : a < n) : -16777216 ≤ tak a (G a) ∧ tak a (G a) ≤ 16777216 := by
  have h1 := tak_rng (a := a) (l := G a) (fun x hx => by obtain ⟨b, w, f, e, _, _, hf, _⟩ := h.mem a ha x hx; exact ⟨b, w, f, e, hf⟩)
  have h2 := h.few ha
  omega
theorem est_tak (a : Nat) (l : List HS) : ((ents (a : Int) mB l).map cntE).sum = -tak a l := by
  unfold tak
  exact sum_neg _ _ _ (fun p _ => rfl)
/-- An entry of the one side is answered by the other one. -/
theorem Gd.ans {n : Nat} {G : Nat → List HS} (h : Gd n G) {a : Nat} (ha : a < n) {p : Int × Int} (hp : p ∈ ents a mB (G a)) : ∃ b : Nat, p.1 = b ∧ b < n ∧ ((a : Int), -p.2) ∈ ents b mB (G b) := by
  unfold ents at hp
  rw [List.mem_filterMap] at hp
  obtain ⟨x, hx, e⟩ := hp
  obtain ⟨b, w, f, e1, hb, hba, hf, hm⟩ := h.mem a ha x hx
  subst e1
  rw [ent_hX] at e
  cases e
  refine ⟨b, rfl, hb, ?_⟩
  unfold ents
  rw [List.mem_filterMap]
  refine ⟨_, hm, ?_⟩
  rw [ent_hX, out_anti w f b a (by omega)]
end Go.Proofs.Ytcacocndcfbmaaa

namespace Go.Proofs.Ytcacocndcfbmaaa
open Go.ChangeShapes Go.WideShapes Go.ChangeAt Go.RowKit Go.Deep
set_option linter.unusedVariables false
set_option linter.unusedSimpArgs false

theorem owns_mono {W : World} {base base' e size : Nat} {v : Value} {n : Nat} {xs : List Value} (h : W.ownsRow base e size v n xs) (hb : base' ≤ base) : W.ownsRow base' e size v n xs := by
  refine ⟨h.1, ?_⟩
  rcases h.2 with x | ⟨g, cap, cur, hv, h0, rest⟩
  · exact .inl x
  · exact .inr ⟨g, cap, cur, hv, Nat.le_trans hb h0, rest⟩
/-- A list of half-edges that lies behind base, whole. -/
def HLs (base : Nat) (W : World) (v : Value) (hs : List HS) : Prop := ∃ es, W.ownsRow base 43 6 v hs.length (csH es) ∧ es.length = hs.length ∧ Ech base W es hs
theorem HLs.nil (base : Nat) (W : World) : HLs base W (.slice none 0 0) [] := ⟨[], World.ownsRow_nil _ _ 43 6, rfl, fun i hi => by simp at hi⟩
theorem HLs.below {base : Nat} {W W' : World} {v : Value} {hs : List HS} (h : HLs base W v hs) (b : Below W.heap.size W W') : HLs base W' v hs := by
  obtain ⟨es, o, l, e⟩ := h
  exact ⟨es, owns_later o b, l, e.below b⟩
theorem HLs.set {base : Nat} {W : World} {v : Value} {hs : List HS} (h : HLs base W v hs) {k i : Nat} {u : Value} (hk : k < base) : HLs base (W.setCell ⟨k, i, none⟩ u) v hs := by
  obtain ⟨es, o, l, e⟩ := h
  refine ⟨es, owns_set o hk, l, fun j hj => ?_⟩
  obtain ⟨a, c, e1, e2⟩ := e j hj
  exact ⟨a, c, e1, e2.of_blocks fun g hg hl => set_far rfl (by omega) _ _⟩
theorem HLs.of {base : Nat} {w W : World} {v : Value} {es : List HR} {hs : List HS} (h : Cpy w hs hs.length v es W) (hb : base ≤ w.heap.size) : HLs base W v hs :=
  ⟨es, owns_mono h.row hb, h.len, fun j hj => by
    obtain ⟨a, c, e, o⟩ := h.each j hj
    exact ⟨a, c, e, o.mono hb⟩⟩
theorem HLs.hs {base : Nat} {W : World} {v : Value} {hs : List HS} (h : HLs base W v hs) (hn : hs.length * 64 ≤ 140737488355328) (hl : ∀ j, j < hs.length → (hs.getD j HS.z).ls.length * 40 ≤ 140737488355328) : ∃ a c, v = .slice a hs.length c ∧ Hs W a hs.length c hs := by
  obtain ⟨es, o, l, e⟩ := h
  obtain ⟨a, c, ev, L, _⟩ := own_lstH o l
  exact ⟨a, c, ev, (e.hs L l hn hl).2⟩
/-- The lists of all nodes: block hb holds them. -/
def St (hb n : Nat) (G : Nat → List HS) (W : World) : Prop := ∃ cur : Array Value, W.heap[hb]? = some (.cells cur 22 (0, 0)) ∧ cur.size = n ∧ ∀ a, a < n → ∃ v, cur[a]? = some v ∧ HLs (hb + 1) W v (G a)
theorem St.below {hb n : Nat} {G : Nat → List HS} {W W' : World} (h : St hb n G W) (b : Below W.heap.size W W') : St hb n G W' := by
  obtain ⟨cur, h1, h2, h3⟩ := h
  refine ⟨cur, (b.block _ (row_lt h1)).trans h1, h2, fun a ha => ?_⟩
  obtain ⟨v, e, hv⟩ := h3 a ha
  exact ⟨v, e, hv.below b⟩
theorem St.lt {hb n : Nat} {G : Nat → List HS} {W : World} (h : St hb n G W) : hb < W.heap.size := by
  obtain ⟨cur, h1, h2, h3⟩ := h
  exact row_lt h1
theorem St.set {hb n : Nat} {G : Nat → List HS} {W : World} (h : St hb n G W) {a : Nat} (ha : a < n) {v : Value} {l : List HS} (hv : HLs (hb + 1) W v l) : St hb n (fun c => if c = a then l else G c) (W.setCell ⟨hb, a, none⟩ v) := by
  obtain ⟨cur, h1, h2, h3⟩ := h
  refine ⟨cur.setIfInBounds a v, set_row h1 a v, by simpa using h2, fun c hc => ?_⟩
  by_cases e : c = a
  · subst e
    exact ⟨v, by simp [h2, hc], by simp only [if_pos]; exact hv.set (Nat.lt_succ_self _)⟩
  · obtain ⟨u, eu, hu⟩ := h3 c hc
    exact ⟨u, by rw [Array.getElem?_setIfInBounds_ne (Ne.symm e)]; exact eu, by simp only [if_neg e]; exact hu.set (Nat.lt_succ_self _)⟩
theorem Gd.lines {n : Nat} {G : Nat → List HS} (h : Gd n G) {a : Nat} (ha : a < n) (j : Nat) (hj : j < (G a).length) : ((G a).getD j HS.z).ls.length * 40 ≤ 140737488355328 := by
  have hm : (G a).getD j HS.z ∈ G a := by
    rw [List.getD_eq_getElem?_getD, List.getElem?_eq_getElem hj]
    exact List.getElem_mem hj
  obtain ⟨b, w, f, e, hb, _⟩ := h.mem a ha _ hm
  rw [e]
  show 1 * 40 ≤ _
  omega
theorem St.at {hb n : Nat} {G : Nat → List HS} {W : World} (h : St hb n G W) (hG : Gd n G) (hn : n ≤ 16) {a : Nat} (ha : a < n) : ∃ A c, W.cell? ⟨hb, a, none⟩ = some (.slice A (G a).length c) ∧ W.frozen? ⟨hb, a, none⟩ = false ∧ Hs W A (G a).length c (G a) := by
  obtain ⟨cur, h1, h2, h3⟩ := h
  obtain ⟨v, e, hv⟩ := h3 a ha
  have := hG.few ha
  obtain ⟨A, c, rfl, H⟩ := hv.hs (by omega) (hG.lines ha)
  exact ⟨A, c, row_cell h1 a _ e, row_free h1 a, H⟩
theorem St.free {hb n : Nat} {G : Nat → List HS} {W : World} (h : St hb n G W) {a : Nat} (ha : a < n) : W.frozen? ⟨hb, a, none⟩ = false ∧ ∃ u, W.cell? ⟨hb, a, none⟩ = some u := by
  obtain ⟨cur, h1, h2, h3⟩ := h
  obtain ⟨v, e, hv⟩ := h3 a ha
  exact ⟨row_free h1 a, v, row_cell h1 a _ e⟩
theorem made_at (n a : Nat) (ha : a < n) : (madeCells (Value.slice none 0 0).cells (n * 1)).toList[a]? = some (.slice none 0 0) := by
  unfold madeCells
  simp [Value.cells, ha, Nat.mod_one]
theorem St.made {base n g : Nat} {W : World} {v : Value} (hv : v = .slice (some ⟨g, 0, none⟩) n n) (h0 : 0 < n) (h : W.ownsRow base 22 1 v n (madeCells (Value.slice none 0 0).cells (n * 1)).toList) : St g n (fun _ => []) W := by
  rcases h.2 with ⟨e, _⟩ | ⟨g', cap, cur, e, hb, hg, h1, h2, h3, h4⟩
  · rw [hv] at e; cases e
  · rw [hv] at e
    cases e
    refine ⟨cur, hg, by omega, fun a ha => ⟨.slice none 0 0, ?_, HLs.nil _ _⟩⟩
    have := made_at n a ha
    rw [← h4, List.getElem?_take, if_pos (by omega)] at this
    simpa using this
/-- The numbers that a slice leads to. -/
structure Nums (W : World) (a : Option Addr) (n : Nat) (zs : List Int) : Prop where
  size : zs.length = n
  max : n ≤ 9223372036854775807
  mem : n = 0 ∨ ∃ b off, a = some ⟨b, off, none⟩ ∧ b < W.heap.size ∧ ∀ j, j < n → W.cell? ⟨b, off + j, none⟩ = some (.int .i64 (zs.getD j 0))
theorem Nums.at {W : World} {a : Option Addr} {n : Nat} {zs : List Int} (h : Nums W a n zs) (i : Nat) (hi : i < n) : ∃ b off, a = some ⟨b, off, none⟩ ∧ b < W.heap.size ∧ W.cell? ⟨b, off + i, none⟩ = some (.int .i64 (zs.getD i 0)) := by
  rcases h.mem with h0 | ⟨b, off, rfl, hb, hr⟩
  · omega
  · exact ⟨b, off, rfl, hb, hr i hi⟩
theorem Nums.below {w W : World} {a : Option Addr} {n : Nat} {l : List Int} (h : Nums w a n l) (k : Below w.heap.size w W) : Nums W a n l := by
  refine ⟨h.size, h.max, ?_⟩
  rcases h.mem with h0 | ⟨b, off, rfl, hb, hr⟩
  · exact .inl h0
  · exact .inr ⟨b, off, rfl, Nat.lt_of_lt_of_le hb k.size, fun j hj => (World.cell?_of_block (a := ⟨b, off + j, none⟩) (k.block b hb)).trans (hr j hj)⟩
theorem open_nums {H : Type} {enc : TypeId × Value → H} {W : World} {a : Option Addr} {len cap : Nat} {d : DataW H} {ps : List MemPlace}
    (h : DataW.Trod enc Try.prog W 0 (fun _ => true) true 44 (.slice a len cap) d ps) : ∃ zs, Nums W a len zs := by
  obtain ⟨fuel, hf⟩ := h
  rcases open_ints Try.underlying44 Try.underlying2 cn2 hf with ⟨hcs, hx⟩ | ⟨x, l, c, zs, hcs, _, hl, hm, hz, hx, hcell, hwz⟩
  · simp [Value.cells] at hcs
    obtain ⟨rfl, rfl, rfl⟩ := hcs
    exact ⟨[], rfl, by omega, .inl rfl⟩
  · simp [Value.cells] at hcs
    obtain ⟨rfl, rfl, rfl⟩ := hcs
    have hz' : zs.length = cap := by simpa using hz
    refine ⟨zs.take len, by rw [List.length_take]; omega, by unfold maxLen at hm; omega, ?_⟩
    by_cases h0 : len = 0
    · exact .inl h0
    · obtain ⟨b, off, spot⟩ := x
      have hc := hcell 0 (by omega)
      have hspot : spot = none := by simpa [Addr.add] using World.cell?_spot hc
      subst hspot
      refine .inr ⟨b, off, rfl, World.block_lt_of_cell? _ _ hc, fun k hk => ?_⟩
      have hc2 := hcell k (by omega)
      rw [add_plain'] at hc2
      rw [hc2, List.getD_eq_getElem?_getD, List.getD_eq_getElem?_getD, List.getElem?_take, if_pos hk]
theorem cn48 : Try.prog.cellsOf 48 = 3 := by kernel_rfl
theorem open_prc {H : Type} {enc : TypeId × Value → H} {W : World} {fuel : Nat} {cs : List Value} {x : DataW H × List MemPlace} (hl : cs.length = 3)
    (hf : DataW.trod enc Try.prog W 0 (fun _ => true) true fuel 48 cs = some x) : ∃ q : RS, cs = q.l := by
  obtain ⟨v0, v1, v2, rfl⟩ := list3 hl
  obtain ⟨xs, k, hk, hxy, _, hxl, hg⟩ := DataW.trod_struct Try.underlying48 hf
  match xs, hxl with
  | [y0, y1, y2], _ =>
  have e0 := hg 0 _ rfl
  have e1 := hg 1 _ rfl
  have e2 := hg 2 _ rfl
  simp [cn2, cn3] at e0 e1 e2
  obtain ⟨x0, q0, _, w0⟩ := DataW.trod_int Try.underlying3 e0
  obtain ⟨x1, q1, _, w1⟩ := DataW.trod_int Try.underlying3 e1
  obtain ⟨x2, q2, _, w2⟩ := DataW.trod_int Try.underlying2 e2
  simp at q0 q1 q2
  subst q0 q1 q2
  exact ⟨⟨x0, x1, x2⟩, rfl⟩
theorem open_prs {H : Type} {enc : TypeId × Value → H} {W : World} {a : Option Addr} {len cap : Nat} {d : DataW H} {ps : List MemPlace}
    (h : DataW.Trod enc Try.prog W 0 (fun _ => true) true 45 (.slice a len cap) d ps) :
    ∃ l : List RS, Rgs W a len l := by
  obtain ⟨fuel, hf⟩ := h
  rcases open_slice Try.underlying45 hf with ⟨hcs, hx⟩ | ⟨x, l, c, m, n, D, Pl, hcs, hq1, hl, hm, hmm, hx, hel⟩
  · simp [Value.cells] at hcs
    obtain ⟨rfl, rfl, rfl⟩ := hcs
    exact ⟨[], ⟨rfl, by omega, .inl rfl⟩⟩
  · simp [Value.cells] at hcs
    obtain ⟨rfl, rfl, rfl⟩ := hcs
    have hmc : m = cap := by simpa using hmm
    subst hmc
    rw [cn48] at hel
    have each : ∀ i, i < m → ∃ q : RS, (∀ j v, q.l[j]? = some v → W.cell? ((x.add (i * 3)).add j) = some v) := by
      intro i hi
      obtain ⟨cs', h1, h2⟩ := hel i hi
      obtain ⟨_, hlen, hcell⟩ := World.cells?_some h1
      obtain ⟨q, hcs'⟩ := open_prc hlen h2
      refine ⟨q, fun j v hj => ?_⟩
      have hjl : j < 3 := (List.getElem?_eq_some_iff.1 hj).1
      have hc := hcell j hjl
      rw [hcs'] at hc
      rw [hc]
      exact hj
    haveI : Inhabited RS := ⟨⟨0, 0, 0⟩⟩
    obtain ⟨F, hF⟩ := choose_lt each
    refine ⟨(List.range len).map F, ⟨by simp, ?_, ?_⟩⟩
    · have := hm
      unfold maxLen at this
      omega
    · by_cases h0 : len = 0
      · exact .inl h0
      · obtain ⟨b, off, spot⟩ := x
        have hc := (hF 0 (by omega)) 0 _ rfl
        have hspot : spot = none := by simpa [Addr.add] using World.cell?_spot hc
        subst hspot
        refine .inr ⟨b, off, rfl, World.block_lt_of_cell? _ _ hc, fun j hj => ?_⟩
        have hj' : j < len := by simpa using hj
        intro i v hv
        have := (hF j (by omega)) i v (by simpa using hv)
        rw [add_plain', add_plain'] at this
        exact this
end Go.Proofs.Ytcacocndcfbmaaa

namespace Go.Proofs.Ytcacocndcfbmaaa
open Go.ChangeShapes Go.WideShapes Go.ChangeAt Go.RowKit Go.Deep
set_option linter.unusedVariables false
set_option linter.unusedSimpArgs false

set_option maxRecDepth 100000 in
set_option maxHeartbeats 8000000 in
theorem pairs_few (A : Option Addr) (c : Nat) (zs : List Int) (B : Option Addr) (d : Nat) (ps : List RS) (w : World) (hz : zs.length < 2) : Calls Try.prog 5 #[.slice A zs.length c, .slice B ps.length d] w fun e w' => e = .returned (.bool true) ∧ Below w.heap.size w w' := by
  have hmin : min (zs.length : Int) 16 = (zs.length : Int) := by omega
  have hI : (zs.length : Int) < 2 := by omega
  go_enter Try.func5, Try.ntmps5
  go_wp2_with (first
    | (go_at_call 7; refine (awake_any _).mono ?_; rintro e w2 ⟨rfl, b2⟩))
  go_ret
  exact ⟨rfl, b2⟩
end Go.Proofs.Ytcacocndcfbmaaa

namespace Go.Proofs.Ytcacocndcfbmaaa
open Go.RowKit
set_option linter.unusedVariables false

section
variable {P : Program} {ops : Array Oper} {Q : Exit → Act → World → Prop} {md : Region.Mode} {S : World → Prop} {m : Nat}
/-- Whatever order is picked, and S holds as long as operation m has not come up. -/
def wpAnyM (P : Program) (md : Region.Mode) (ops : Array Oper) (Q : Exit → Act → World → Prop) (S : World → Prop) (m : Nat) : Nat → Array Bool → Act → World → Prop
  | 0, listed, a, w => Region.ready md ops listed = [] ∧ Q .normal a w
  | fuel + 1, listed, a, w =>
    (Region.ready md ops listed = [] → Q .normal a w) ∧
    ∀ i ∈ Region.ready md ops listed, wpOp P ops Q i (fun a' w' => ((listed.setIfInBounds i true).getD m true = false → S w') ∧ wpAnyM P md ops Q S m fuel (listed.setIfInBounds i true) a' w') a w
theorem wpAny_until (S : World → Prop) (m : Nat) : ∀ (fuel : Nat) (listed : Array Bool) (a : Act) (w : World), wpAnyM P md ops Q S m fuel listed a w → wpAny P md ops Q fuel listed a w
  | 0, _, _, _, h => h
  | fuel + 1, _, _, _, h => ⟨h.1, fun i hi => wpOp_mono (fun a' w' h' => wpAny_until S m fuel _ a' w' h'.2) (h.2 i hi)⟩
/-- Operation m waits for operation i. -/
def waits (md : Region.Mode) (ops : Array Oper) (m i : Nat) : Bool := match ops[m]? with | none => false | some o => o.after.any fun e => Region.binds md e && e.on == i
theorem waits_spec {i : Nat} (h : waits md ops m i = true) : ∃ o, ops[m]? = some o ∧ ∃ e ∈ o.after, Region.binds md e = true ∧ e.on = i := by
  unfold waits at h
  cases ho : ops[m]? with
  | none => rw [ho] at h; cases h
  | some o =>
    rw [ho] at h
    obtain ⟨e, he, h2⟩ := Array.any_eq_true'.1 h
    rw [Bool.and_eq_true] at h2
    exact ⟨o, rfl, e, he, h2.1, by simpa using h2.2⟩
theorem wpAnyM_first {i : Nat} {oi : Oper} {v : Value} (hi : ops[i]? = some oi) (hsel : ∀ (j : Nat) (o : Oper) cs b, ops[j]? = some o → o.op ≠ .select cs b)
    (hQ : ∀ c a w, Q (.panic c) (a.put oi.dst v) w → Q (.panic c) a w) (hm : waits md ops m i = true) :
    ∀ (fuel : Nat) (listed : Array Bool) (a : Act) (w : World),
      (∀ j oj, ops[j]? = some oj → j ≠ i → listed.getD j true = false → (∀ e ∈ oj.after, Region.binds md e = true → e.on ≠ i) → oi.apart ops oj = true) →
      i ∈ Region.ready md ops listed → listed.getD m true = false → YieldsIf P ops S oi v a → S w →
      wpAnyM P md ops Q S m fuel (listed.setIfInBounds i true) (a.put oi.dst v) w → wpAnyM P md ops Q S m (fuel + 1) listed a w := by
  obtain ⟨om, hom, em, hem, hbm, hon⟩ := waits_spec hm
  intro fuel
  induction fuel with
  | zero =>
    intro listed a w _ hr hml hy hS H
    refine ⟨fun h => (by rw [h] at hr; cases hr), fun j hj => ?_⟩
    by_cases hji : j = i
    · subst hji; exact hy.wpOp hi hS ⟨fun _ => hS, H⟩
    · have := ready_mono hj hji
      rw [H.1] at this
      cases this
  | succ fuel ih =>
    intro listed a w hfree hr hml hy hS H
    refine ⟨fun h => (by rw [h] at hr; cases hr), fun j hj => ?_⟩
    by_cases hji : j = i
    · subst hji; exact hy.wpOp hi hS ⟨fun _ => hS, H⟩
    · have h1 := H.2 j (ready_mono hj hji)
      obtain ⟨hjun, oj, hoj, hall⟩ := mem_ready.1 hj
      have hnot : ∀ e ∈ oj.after, Region.binds md e = true → e.on ≠ i := fun e he hb heq => by
        have h1 := hall e he hb
        have h0 := (mem_ready.1 hr).1
        rw [heq] at h1
        rcases Nat.lt_or_ge i listed.size with h' | h'
        · simp [h'] at h0 h1; rw [h0] at h1; cases h1
        · simp [Array.getElem?_eq_none h'] at h1
      have hjm : j ≠ m := fun e => by
        subst e
        rw [hom] at hoj
        cases hoj
        exact hnot em hem hbm hon
      have him : i ≠ m := fun e => by
        subst e
        rw [hom] at hi
        cases hi
        have h1 := (mem_ready.1 hr)
        obtain ⟨h0, o', ho', ha'⟩ := h1
        rw [hom] at ho'
        cases ho'
        have h2 := ha' em hem hbm
        rw [hon] at h2
        rcases Nat.lt_or_ge i listed.size with h' | h'
        · simp [h'] at h0 h2; rw [h0] at h2; cases h2
        · simp [Array.getElem?_eq_none h'] at h2
      have hl2 : ((listed.setIfInBounds i true).setIfInBounds j true).getD m true = false := by
        rw [getD_set_ne true hjm, getD_set_ne true him]
        exact hml
      have hl3 : (listed.setIfInBounds j true).getD m true = false := by
        rw [getD_set_ne true hjm]
        exact hml
      have h2 := wpOp_putIf hoj (hfree j oj hoj hji hjun hnot) (fun cs b => hsel i oi cs b hi) (fun cs b => hsel j oj cs b hoj) hQ hy h1
      have hfree' : ∀ k ok, ops[k]? = some ok → k ≠ i → (listed.setIfInBounds j true).getD k true = false →
          (∀ e ∈ ok.after, Region.binds md e = true → e.on ≠ i) → oi.apart ops ok = true := fun k ok hk hki hun hno => by
        refine hfree k ok hk hki ?_ hno
        by_cases hjk : j = k
        · subst hjk; exact hjun
        · rw [getD_set_ne true hjk] at hun; exact hun
      refine wpOp_mono (fun a' w' h3 => ⟨fun _ => h3.2.1 hl2, ih (listed.setIfInBounds j true) a' w' hfree' (ready_mono hr (Ne.symm hji)) hl3 h3.1 (h3.2.1 hl2) ?_⟩) h2
      rw [Array.setIfInBounds_comm _ _ hji]
      exact h3.2.2
theorem anyM_take (i d : Nat) {oi : Oper} (v : Value) {fuel : Nat} {listed : Array Bool} {a : Act} {w : World} (hi : ops[i]? = some oi) (hd : oi.dst = some d)
    (hs : Region.noSelect ops = true) (hf : Region.free md ops listed i = true) (hr : (Region.ready md ops listed).contains i = true)
    (hQ : ∀ c a w, Q (.panic c) (a.put (some d) v) w → Q (.panic c) a w) (hm : waits md ops m i = true) (hml : listed.getD m true = false) (hy : YieldsIf P ops S oi v a) (hS : S w)
    (h : wpAnyM P md ops Q S m fuel (listed.setIfInBounds i true) (a.put (some d) v) w) : wpAnyM P md ops Q S m (fuel + 1) listed a w :=
  wpAnyM_first hi (Region.noSelect_spec hs) (by rw [hd]; exact hQ) hm fuel listed a w (Region.free_spec hi hf) (by simpa using hr) hml hy hS (by rw [hd]; exact h)
theorem anyM_one (i : Nat) {o : Oper} {fuel : Nat} {listed : Array Bool} {a : Act} {w : World} (hr : Region.ready md ops listed = [i]) (ho : ops[i]? = some o)
    (h : ∀ K' : Act → World → Prop, Shut (∀ a w, ((listed.setIfInBounds i true).getD m true = false → S w) → wpAnyM P md ops Q S m fuel (listed.setIfInBounds i true) a w → K' a w) → if Region.wanted o (yielded ops a.tmps) = true then Oper.wp P o a w K' Q else K' (a.put o.dst undef) w) : wpAnyM P md ops Q S m (fuel + 1) listed a w := by
  refine ⟨fun h0 => (by rw [hr] at h0; cases h0), ?_⟩
  rw [hr]
  intro j hj
  obtain rfl : j = i := by simpa using hj
  exact wpOp_step ho (fun K' hK => h K' (fun a w hS hW => hK a w ⟨hS, hW⟩))
theorem anyM_done {listed : Array Bool} {a : Act} {w : World} (hr : Region.ready md ops listed = []) (h : Q .normal a w) :
    ∀ fuel, wpAnyM P md ops Q S m fuel listed a w
  | 0 => ⟨hr, h⟩
  | _ + 1 => ⟨fun _ => h, by rw [hr]; simp⟩
end
end Go.Proofs.Ytcacocndcfbmaaa

namespace Go.Proofs.Ytcacocndcfbmaaa
open Go.ChangeShapes Go.WideShapes Go.ChangeAt Go.RowKit Go.Deep
set_option linter.unusedVariables false
set_option linter.unusedSimpArgs false

theorem info22 : (Try.prog.info? 22).map (fun i => (i.zero, i.size, i.bytes)) = some (some (.slice none 0 0), 1, 24) := by kernel_rfl
theorem tmod_small (f : Int) : -1048576 < f.tmod 1048576 ∧ f.tmod 1048576 < 1048576 := ⟨Int.lt_tmod_of_pos f (by decide), Int.tmod_lt_of_pos f (by decide)⟩
theorem tmod_mid (f : Int) : -16777216 < f.tmod 16777216 ∧ f.tmod 16777216 < 16777216 := ⟨Int.lt_tmod_of_pos f (by decide), Int.tmod_lt_of_pos f (by decide)⟩
abbrev cP (q : RS) : Obj := .cells #[.int .i64 q.v, .int .i64 q.p, .int .i64 q.f] 48
abbrev cR (a : Nat) (f : Int) : Obj := .cells #[.int .i64 1, .int .i64 (a : Int), .int .i64 f] 50
theorem sN_rng {F : Nat → Int} {M : Int} : ∀ {n : Nat}, (∀ c, c < n → -M ≤ F c ∧ F c ≤ M) → -(M * (n : Int)) ≤ sN F n ∧ sN F n ≤ M * (n : Int)
  | 0, _ => by simp [sN]
  | n + 1, h => by
    have ih := sN_rng (F := F) (M := M) (n := n) (fun c hc => h c (by omega))
    have h1 := h n (by omega)
    have e : M * ((n + 1 : Nat) : Int) = M * (n : Int) + M := by rw [Int.natCast_add, Int.mul_add]; simp
    unfold sN
    rw [e]
    omega
/-- What comes in. -/
def xs (zs : List Int) (i : Nat) : Int := (zs.getD i 0).tmod 16777216
def ts (G : Nat → List HS) (i : Nat) : Int := tak i (G i)
theorem xs_rng (zs : List Int) (i : Nat) : -16777216 ≤ xs zs i ∧ xs zs i ≤ 16777216 := by
  have := tmod_mid (zs.getD i 0)
  unfold xs
  omega
def fnd (i u : Int) (l : List (Int × Int)) : Bool := l.any fun e => e.1 == i && e.2 == -u
theorem fnd_next {i u : Int} {l : List (Int × Int)} {m : Nat} (h : m < l.length) : fnd i u (l.take (m + 1)) = (fnd i u (l.take m) || ((l.getD m (0, 0)).1 == i && (l.getD m (0, 0)).2 == -u)) := by
  unfold fnd
  rw [take_next (z := (0, 0)) h, List.any_append]
  simp
theorem fnd_all {i u : Int} {l : List (Int × Int)} (h : (i, -u) ∈ l) : fnd i u l = true := List.any_eq_true.2 ⟨_, h, by simp⟩
theorem rangeReg {X : World} {g : Nat} {v p f : Int} (h : X.heap[g]? = some (.cells #[.int .i64 v, .int .i64 p, .int .i64 f] 50 (0, 0))) : X.rangeAt g 0 [.int .i64 v, .int .i64 p, .int .i64 f] := fun j u hj => by
  rw [Nat.zero_add]
  exact row_cell h j u (by simpa using hj)
theorem wX_any (p w f : Int) (W : World) : Calls Try.prog 21 #[((HS.mk p 1 0 [] false 0).on none 0).val, .string mB, rg 1 w f] W fun e w' => ∃ a' c', e = .returned ((hX p w f).on a' c').val ∧ Own W.heap.size w' (hX p w f) a' c' ∧ Below W.heap.size W w' := by
  have := rwrite_any (HS.mk p 1 0 [] false 0) none 0 mB 1 w f W (rdL_nil W) (by simp)
  rw [wr_hX] at this
  exact this
theorem lines_put {b w f : Int} {l : List HS} (h : hitH b l = false) (hl : ∀ j, j < l.length → (l.getD j HS.z).ls.length * 40 ≤ 140737488355328) (j : Nat) (hj : j < (putH (hX b w f) l).length) : ((putH (hX b w f) l).getD j HS.z).ls.length * 40 ≤ 140737488355328 := by
  have hm : (putH (hX b w f) l).getD j HS.z ∈ putH (hX b w f) l := by
    rw [List.getD_eq_getElem?_getD, List.getElem?_eq_getElem hj]
    exact List.getElem_mem hj
  rcases (put_mem (x := hX b w f) h).1 hm with e | hm
  · rw [e]
    show 1 * 40 ≤ _
    omega
  · obtain ⟨i, hi, e⟩ := List.getElem_of_mem hm
    have := hl i hi
    rw [List.getD_eq_getElem?_getD, List.getElem?_eq_getElem hi] at this
    rw [← e]
    exact this
theorem St.at2 {hb n : Nat} {G : Nat → List HS} {W : World} {a : Nat} {l : List HS} (h : St hb n G W) (e : G a = l) (hn : l.length ≤ 16) (hl : ∀ j, j < l.length → (l.getD j HS.z).ls.length * 40 ≤ 140737488355328) (ha : a < n) : ∃ A c, W.cell? ⟨hb, a, none⟩ = some (.slice A l.length c) ∧ W.frozen? ⟨hb, a, none⟩ = false ∧ Hs W A l.length c l := by
  obtain ⟨cur, h1, h2, h3⟩ := h
  obtain ⟨v, e1, hv⟩ := h3 a ha
  rw [e] at hv
  obtain ⟨A, c, rfl, H⟩ := hv.hs (by omega) hl
  exact ⟨A, c, row_cell h1 a _ e1, row_free h1 a, H⟩
set_option maxRecDepth 100000 in
set_option maxHeartbeats 16000000 in
theorem pairs_many (A : Option Addr) (c : Nat) (zs : List Int) (B : Option Addr) (d : Nat) (ps : List RS) (w : World) (Z : Nums w A zs.length zs) (P : Rgs w B ps.length ps) (n : Nat) (hn : n = min zs.length 16) (h2 : 2 ≤ n) : Calls Try.prog 5 #[.slice A zs.length c, .slice B ps.length d] w fun e w' => e = .returned (.bool true) ∧ Below w.heap.size w w' := by
  have hmin : (if (16 : Int) < (zs.length : Int) then (16 : Int) else (zs.length : Int)) = (n : Int) := by split <;> omega
  have hI : ¬ (n : Int) < 2 := by omega
  have H16 : Hid (n ≤ 16) := by show _ ≤ _; omega
  have H0 : Hid (2 ≤ n) := h2
  have HZ : Hid (n ≤ zs.length) := by show _ ≤ _; omega
  have HPM : Hid (ps.length ≤ 9223372036854775807) := P.max
  clear hn h2
  obtain ⟨i0, hi, hz0, hz1, hz2⟩ := info_parts info22
  go_enter Try.func5, Try.ntmps5
  go_upto_region 2 with (fail)
  try simp only [hmin]
  go_wp2_with (at_make; refine wpList_make_full _ rfl _ _ 46 rfl w.heap.size 22 i0 (.slice none 0 0) 1 Try.underlying46 hi hz0 hz1 .i64 .i64 _ _ n rfl rfl rfl rfl (by rw [hz2]; have := H16.out; omega) (by have := H16.out; unfold maxLen; omega) (Nat.le_refl _) ?_; intro w1 O1 g1)
  have S1 := St.made rfl (by have := H0.out; omega) O1
  have B1 : Below w.heap.size w w1 := (Below.refl _ _).grown g1 (Nat.le_refl _) (fun k hk => by cases hk)
  clear O1 g1 hi hz0 hz1 hz2 hmin hI
  obtain ⟨hb, ehb⟩ : ∃ hb, w.heap.size = hb := ⟨_, rfl⟩
  rw [ehb] at S1
  have HW : Hid (w.heap.size = hb) := ehb
  simp only [ehb]
  clear ehb
  go_loopg [35] ps.length (fun gk v35 wr => ∃ (k : Nat) (G : Nat → List HS), v35 = .int .i64 (k : Int) ∧ k + gk = ps.length ∧ Gd n G ∧ St hb n G wr ∧ Below hb w wr)
  case atStart => exact ⟨0, _, by first | rfl | go_num, by omega, Gd.nil n, S1, by rw [← HW.out]; exact B1⟩
  case round =>
    obtain ⟨k, G, rfl, hgk, HG, SS, Br⟩ := hrel
    by_cases hk : k < ps.length
    case pos =>
      have hkI : (k : Int) < (ps.length : Int) := by omega
      have hwk : IntKind.i64.wrap ((k : Int) + 1) = (k : Int) + 1 := by rw [IntKind.wrap_i64]; have := HPM.out; omega
      obtain ⟨g, o, rfl, hg, hr⟩ := P.at k hk
      obtain ⟨q, eq⟩ : ∃ q, ps.getD k RS.z = q := ⟨_, rfl⟩
      rw [eq] at hr
      have Brw : Below w.heap.size w wr := by rw [HW.out]; exact Br
      have hr1 := range_later hr hg Brw
      have c0 : wr.cell? ⟨g, o + k * 3, none⟩ = some (.int .i64 q.v) := hr1 0 _ rfl
      have c1 : wr.cell? ⟨g, o + k * 3 + 1, none⟩ = some (.int .i64 q.p) := hr1 1 _ rfl
      have c2 : wr.cell? ⟨g, o + k * 3 + 2, none⟩ = some (.int .i64 q.f) := hr1 2 _ rfl
      obtain ⟨a, ha, hka, hnz⟩ := rem_k (which := q.v) (n := n) (by have := H0.out; omega) H16.out
      obtain ⟨b, hb', hkb, _⟩ := rem_k (which := q.p) (n := n) (by have := H0.out; omega) H16.out
      have HA : Hid (a < n) := ha
      have HB : Hid (b < n) := hb'
      have haI : (a : Int) < (n : Int) := by omega
      have hbI : (b : Int) < (n : Int) := by omega
      have HGK : Hid (k + gk = ps.length) := hgk
      have HK : Hid (k < ps.length) := hk
      have TA : (wr.alloc (cP q)).heap[wr.heap.size]? = some (.cells #[.int .i64 q.v, .int .i64 q.p, .int .i64 q.f] 48 (0, 0)) := heap_new rfl
      have SA : St hb n G (wr.alloc (cP q)) := SS.below ((Below.refl _ _).alloc (Nat.le_refl _) _)
      have BA : Below hb w (wr.alloc (cP q)) := Br.alloc (by have := Br.size; rw [HW.out] at this; omega) _
      clear eq hr hr1 hgk hk ha hb'
      go_wp2_with (fail)
      obtain ⟨q8, hq8⟩ : ∃ q : Nat, wr.heap.size = q := ⟨_, rfl⟩
      obtain ⟨wA, hwA⟩ : ∃ X, wr.alloc (cP q) = X := ⟨_, rfl⟩
      rw [hwA] at TA SA BA ⊢
      rw [hq8] at TA
      simp only [hq8]
      clear hwA hq8 Br Brw SS c0 c1 c2
      refine wp_region_any (by kernel_rfl) ?_
      change wpAny _ _ _ _ _ _ _ (World.drew _)
      refine wpAny_narrow (fun W' => W'.heap[q8]? = some (.cells #[.int .i64 q.v, .int .i64 q.p, .int .i64 q.f] 48 (0, 0))) _ _ _ _ ?_
      refine anyH_take 0 39 (.pointer (some ⟨q8, 0, none⟩)) rfl rfl (by kernel_rfl) (by kernel_rfl) (by kernel_rfl) (fun _ _ _ h => h) (Or.inl ⟨by rfl, by intro w hSw; go_simp⟩) (TA) ?_
      try simp only [Act.put, List.setIfInBounds_toArray, List.set_cons_zero, List.set_cons_succ]
      refine anyH_take 1 40 (.int .i64 q.v) rfl rfl (by kernel_rfl) (by kernel_rfl) (by kernel_rfl) (fun _ _ _ h => h) (Or.inl ⟨by rfl, by intro w hSw; have s1 := row_cell hSw 0 _ rfl; go_simp⟩) (TA) ?_
      try simp only [Act.put, List.setIfInBounds_toArray, List.set_cons_zero, List.set_cons_succ]
      refine anyH_take 2 41 (.int .u64 (IntKind.u64.wrap q.v)) rfl rfl (by kernel_rfl) (by kernel_rfl) (by kernel_rfl) (fun _ _ _ h => h) (Or.inl ⟨by rfl, by intro w hSw; go_simp⟩) (TA) ?_
      try simp only [Act.put, List.setIfInBounds_toArray, List.set_cons_zero, List.set_cons_succ]
      refine anyH_take 3 42 (.int .i64 (n : Int)) rfl rfl (by kernel_rfl) (by kernel_rfl) (by kernel_rfl) (fun _ _ _ h => h) (Or.inl ⟨by rfl, by intro w hSw; go_simp⟩) (TA) ?_
      try simp only [Act.put, List.setIfInBounds_toArray, List.set_cons_zero, List.set_cons_succ]
      refine anyH_take 4 43 (.int .u64 (IntKind.u64.wrap (n : Int))) rfl rfl (by kernel_rfl) (by kernel_rfl) (by kernel_rfl) (fun _ _ _ h => h) (Or.inl ⟨by rfl, by intro w hSw; go_simp⟩) (TA) ?_
      try simp only [Act.put, List.setIfInBounds_toArray, List.set_cons_zero, List.set_cons_succ]
      refine anyH_take 5 44 (.int .u64 ((IntKind.u64.wrap q.v).tmod (IntKind.u64.wrap (n : Int)))) rfl rfl (by kernel_rfl) (by kernel_rfl) (by kernel_rfl) (fun _ _ _ h => h) (Or.inl ⟨by rfl, by intro w hSw; have s1 := hnz; go_simp⟩) (TA) ?_
      try simp only [Act.put, List.setIfInBounds_toArray, List.set_cons_zero, List.set_cons_succ]
      refine anyH_take 6 45 (.int .i64 (a : Int)) rfl rfl (by kernel_rfl) (by kernel_rfl) (by kernel_rfl) (fun _ _ _ h => h) (Or.inl ⟨by rfl, by intro w hSw; have s1 := hka; go_simp⟩) (TA) ?_
      try simp only [Act.put, List.setIfInBounds_toArray, List.set_cons_zero, List.set_cons_succ]
      refine anyH_take 7 46 (.pointer (some ⟨q8, 1, none⟩)) rfl rfl (by kernel_rfl) (by kernel_rfl) (by kernel_rfl) (fun _ _ _ h => h) (Or.inl ⟨by rfl, by intro w hSw; go_simp⟩) (TA) ?_
      try simp only [Act.put, List.setIfInBounds_toArray, List.set_cons_zero, List.set_cons_succ]
      refine anyH_take 8 47 (.int .i64 q.p) rfl rfl (by kernel_rfl) (by kernel_rfl) (by kernel_rfl) (fun _ _ _ h => h) (Or.inl ⟨by rfl, by intro w hSw; have s1 := row_cell hSw 1 _ rfl; go_simp⟩) (TA) ?_
      try simp only [Act.put, List.setIfInBounds_toArray, List.set_cons_zero, List.set_cons_succ]
      refine anyH_take 9 48 (.int .u64 (IntKind.u64.wrap q.p)) rfl rfl (by kernel_rfl) (by kernel_rfl) (by kernel_rfl) (fun _ _ _ h => h) (Or.inl ⟨by rfl, by intro w hSw; go_simp⟩) (TA) ?_
      try simp only [Act.put, List.setIfInBounds_toArray, List.set_cons_zero, List.set_cons_succ]
      refine anyH_take 10 49 (.int .i64 (n : Int)) rfl rfl (by kernel_rfl) (by kernel_rfl) (by kernel_rfl) (fun _ _ _ h => h) (Or.inl ⟨by rfl, by intro w hSw; go_simp⟩) (TA) ?_
      try simp only [Act.put, List.setIfInBounds_toArray, List.set_cons_zero, List.set_cons_succ]
      refine anyH_take 11 50 (.int .u64 (IntKind.u64.wrap (n : Int))) rfl rfl (by kernel_rfl) (by kernel_rfl) (by kernel_rfl) (fun _ _ _ h => h) (Or.inl ⟨by rfl, by intro w hSw; go_simp⟩) (TA) ?_
      try simp only [Act.put, List.setIfInBounds_toArray, List.set_cons_zero, List.set_cons_succ]
      refine anyH_take 12 51 (.int .u64 ((IntKind.u64.wrap q.p).tmod (IntKind.u64.wrap (n : Int)))) rfl rfl (by kernel_rfl) (by kernel_rfl) (by kernel_rfl) (fun _ _ _ h => h) (Or.inl ⟨by rfl, by intro w hSw; have s1 := hnz; go_simp⟩) (TA) ?_
      try simp only [Act.put, List.setIfInBounds_toArray, List.set_cons_zero, List.set_cons_succ]
      refine anyH_take 13 52 (.int .i64 (b : Int)) rfl rfl (by kernel_rfl) (by kernel_rfl) (by kernel_rfl) (fun _ _ _ h => h) (Or.inl ⟨by rfl, by intro w hSw; have s1 := hkb; go_simp⟩) (TA) ?_
      try simp only [Act.put, List.setIfInBounds_toArray, List.set_cons_zero, List.set_cons_succ]
      refine anyH_take 14 9 (.int .i64 (a : Int)) rfl rfl (by kernel_rfl) (by kernel_rfl) (by kernel_rfl) (fun _ _ _ h => h) (Or.inl ⟨by rfl, by intro w hSw; go_simp⟩) (TA) ?_
      try simp only [Act.put, List.setIfInBounds_toArray, List.set_cons_zero, List.set_cons_succ]
      refine anyH_take 15 10 (.int .i64 (b : Int)) rfl rfl (by kernel_rfl) (by kernel_rfl) (by kernel_rfl) (fun _ _ _ h => h) (Or.inl ⟨by rfl, by intro w hSw; go_simp⟩) (TA) ?_
      try simp only [Act.put, List.setIfInBounds_toArray, List.set_cons_zero, List.set_cons_succ]
      refine wpAnyH_done (by kernel_rfl) ?_ _
      obtain ⟨wB, hwB⟩ : ∃ X, wA.drew = X := ⟨_, rfl⟩
      have TB : wB.heap[q8]? = some (.cells #[.int .i64 q.v, .int .i64 q.p, .int .i64 q.f] 48 (0, 0)) := by rw [← hwB]; exact TA
      have SB : St hb n G wB := by rw [← hwB]; exact SA.below (Below.refl _ _).drew
      have BB : Below hb w wB := by rw [← hwB]; exact BA.drew
      rw [hwB]
      clear hwB TA SA BA hka hkb hnz
      have c2 := row_cell TB 2 _ rfl
      obtain ⟨f, ef⟩ : ∃ f, q.f.tmod 1048576 = f := ⟨_, rfl⟩
      have hf := tmod_small q.f
      rw [ef] at hf
      have HF : Hid (-1048576 < f ∧ f < 1048576) := hf
      have TC : (wB.alloc (cR a f)).heap[wB.heap.size]? = some (.cells #[.int .i64 1, .int .i64 (a : Int), .int .i64 f] 50 (0, 0)) := heap_new rfl
      have SC : St hb n G (wB.alloc (cR a f)) := SB.below ((Below.refl _ _).alloc (Nat.le_refl _) _)
      have BC : Below hb w (wB.alloc (cR a f)) := BB.alloc (by have := BB.size; rw [HW.out] at this; omega) _
      clear hf
      go_upto_region 10 with (fail)
      obtain ⟨q11, hq11⟩ : ∃ q : Nat, wB.heap.size = q := ⟨_, rfl⟩
      obtain ⟨wC, hwC⟩ : ∃ X, wB.alloc (cR a f) = X := ⟨_, rfl⟩
      rw [hwC] at TC SC BC ⊢
      rw [hq11] at TC
      simp only [hq11]
      clear hwC hq11 BB SB TB c2 ef
      obtain ⟨A1, c1, k1, _, H1⟩ := SC.at HG H16.out HA.out
      have K19 := rfind_any (b : Int) A1 c1 (G a) wC H1 (HG.rise a HA.out)
      obtain ⟨hit, eh⟩ : ∃ h, hitH (b : Int) (G a) = h := ⟨_, rfl⟩
      obtain ⟨x, ex⟩ : ∃ x, findH (b : Int) (G a) = x := ⟨_, rfl⟩
      obtain ⟨l1, el1⟩ : ∃ l : Nat, (G a).length = l := ⟨_, rfl⟩
      rw [eh, ex, el1] at K19
      rw [el1] at k1
      by_cases hab : a = b
      case pos =>
        subst hab
        clear H1 ex el1 eh
        go_wp2_with (first | (go_at_call 19; refine K19.mono ?_; rintro e w3 ⟨a', c', rfl, O3, b3⟩; clear K19; dsimp only [HS.on, HR.val]) | fail)
        go_roundg (gk - 1)
        case measure => have := HGK.out; have := HK.out; omega
        case rel => exact ⟨k + 1, G, by first | rfl | go_num, by have := HGK.out; have := HK.out; omega, HG, (SC.below b3).below ((Below.refl _ _).alloc (Nat.le_refl _) _), (BC.trans (b3.mono (by have := SC.lt; omega))).alloc (by have := SC.lt; have := b3.size; omega) _⟩
      case neg =>
        have hq : ((a : Int) == (b : Int)) = false := by simp; omega
        have HAB : Hid (a ≠ b) := hab
        clear hab
        cases hit with
        | true =>
          clear H1 ex el1 eh
          go_wp2_with (first | (go_at_call 19; refine K19.mono ?_; rintro e w3 ⟨a', c', rfl, O3, b3⟩; clear K19; dsimp only [HS.on, HR.val]) | fail)
          go_roundg (gk - 1)
          case measure => have := HGK.out; have := HK.out; omega
          case rel => exact ⟨k + 1, G, by first | rfl | go_num, by have := HGK.out; have := HK.out; omega, HG, (SC.below b3).below ((Below.refl _ _).alloc (Nat.le_refl _) _), (BC.trans (b3.mono (by have := SC.lt; omega))).alloc (by have := SC.lt; have := b3.size; omega) _⟩
        | false =>
          have HH : Hid (hitH (b : Int) (G a) = false) := eh
          clear H1 ex el1 eh
          go_wp2_with (first | (go_at_call 19; refine K19.mono ?_; rintro e w3 ⟨a', c', rfl, O3, b3⟩; clear K19; dsimp only [HS.on, HR.val]) | fail)
          obtain ⟨wD, hwD⟩ : ∃ X, w3.alloc (.cells #[.int .i64 x.peer, .int .i64 x.boot, .int .i64 x.life, .slice a' x.ls.length c', .bool x.pend, .int .i64 x.miss] 43) = X := ⟨_, rfl⟩
          have bD : Below wC.heap.size wC wD := by rw [← hwD]; exact b3.alloc b3.size _
          rw [hwD]
          have HQ : Hid (q11 ≠ hb) := fun e => by subst e; obtain ⟨cur, h, _⟩ := SC; rw [h] at TC; cases TC
          have TD := (bD.block _ (row_lt TC)).trans TC
          have SD := SC.below bD
          have BD : Below hb w wD := BC.trans (bD.mono (by have := SC.lt; omega))
          clear hwD b3 O3 bD TC SC BC k1
          have HHB := HG.hits HA.out HB.out HH.out
          have ZA : Hid ((G a).length ≤ 16) := Nat.le_trans (HG.few HA.out) H16.out
          have ZB : Hid ((G b).length ≤ 16) := Nat.le_trans (HG.few HB.out) H16.out
          obtain ⟨A2, c2, k2, fz2, H2⟩ := SD.at HG H16.out HA.out
          have kc : ∀ X, Below wD.heap.size wD X → X.cell? ⟨hb, a, none⟩ = some (.slice A2 (G a).length c2) := fun X bb => (World.cell?_of_block (a := ⟨hb, a, none⟩) (bb.block _ SD.lt)).trans k2
          have kr : ∀ X, Below wD.heap.size wD X → X.rangeAt q11 0 [.int .i64 1, .int .i64 (a : Int), .int .i64 f] := fun X bb => rangeReg ((bb.block _ (row_lt TD)).trans TD)
          have kf : ∀ X, Below wD.heap.size wD X → X.frozen? ⟨hb, a, none⟩ = false := fun X bb => (World.frozen?_of_block (a := ⟨hb, a, none⟩) (bb.block _ SD.lt)).trans fz2
          refine wp_region_any (by kernel_rfl) ?_
          change wpAny _ _ _ _ _ _ _ (World.drew _)
          refine wpAny_until (fun W' => Below wD.heap.size wD W') 12 _ _ _ _ ?_
          refine anyM_take 0 73 (.slice (some ⟨hb, 0, none⟩) n n) rfl rfl (by kernel_rfl) (by kernel_rfl) (by kernel_rfl) (fun _ _ _ h => h) (by kernel_rfl) (by kernel_rfl) (Or.inl ⟨by rfl, by intro w hSw; go_simp⟩) ((Below.refl _ _).drew) ?_
          try simp only [Act.put, List.setIfInBounds_toArray, List.set_cons_zero, List.set_cons_succ]
          refine anyM_take 1 74 (.int .i64 (a : Int)) rfl rfl (by kernel_rfl) (by kernel_rfl) (by kernel_rfl) (fun _ _ _ h => h) (by kernel_rfl) (by kernel_rfl) (Or.inl ⟨by rfl, by intro w hSw; go_simp⟩) ((Below.refl _ _).drew) ?_
          try simp only [Act.put, List.setIfInBounds_toArray, List.set_cons_zero, List.set_cons_succ]
          refine anyM_take 2 75 (.slice (some ⟨hb, 0, none⟩) n n) rfl rfl (by kernel_rfl) (by kernel_rfl) (by kernel_rfl) (fun _ _ _ h => h) (by kernel_rfl) (by kernel_rfl) (Or.inl ⟨by rfl, by intro w hSw; go_simp⟩) ((Below.refl _ _).drew) ?_
          try simp only [Act.put, List.setIfInBounds_toArray, List.set_cons_zero, List.set_cons_succ]
          refine anyM_take 3 76 (.int .i64 (a : Int)) rfl rfl (by kernel_rfl) (by kernel_rfl) (by kernel_rfl) (fun _ _ _ h => h) (by kernel_rfl) (by kernel_rfl) (Or.inl ⟨by rfl, by intro w hSw; go_simp⟩) ((Below.refl _ _).drew) ?_
          try simp only [Act.put, List.setIfInBounds_toArray, List.set_cons_zero, List.set_cons_succ]
          refine anyM_take 4 77 (.pointer (some ⟨hb, a, none⟩)) rfl rfl (by kernel_rfl) (by kernel_rfl) (by kernel_rfl) (fun _ _ _ h => h) (by kernel_rfl) (by kernel_rfl) (Or.inl ⟨by rfl, by intro w hSw; go_simp⟩) ((Below.refl _ _).drew) ?_
          try simp only [Act.put, List.setIfInBounds_toArray, List.set_cons_zero, List.set_cons_succ]
          refine anyM_take 5 78 (.slice A2 (G a).length c2) rfl rfl (by kernel_rfl) (by kernel_rfl) (by kernel_rfl) (fun _ _ _ h => h) (by kernel_rfl) (by kernel_rfl) (Or.inl ⟨by rfl, by intro w hSw; have s1 := kc _ hSw; go_simp⟩) ((Below.refl _ _).drew) ?_
          try simp only [Act.put, List.setIfInBounds_toArray, List.set_cons_zero, List.set_cons_succ]
          refine anyM_take 6 79 (.int .i64 (b : Int)) rfl rfl (by kernel_rfl) (by kernel_rfl) (by kernel_rfl) (fun _ _ _ h => h) (by kernel_rfl) (by kernel_rfl) (Or.inl ⟨by rfl, by intro w hSw; go_simp⟩) ((Below.refl _ _).drew) ?_
          try simp only [Act.put, List.setIfInBounds_toArray, List.set_cons_zero, List.set_cons_succ]
          refine anyM_take 8 81 (rg 1 (a : Int) f) rfl rfl (by kernel_rfl) (by kernel_rfl) (by kernel_rfl) (fun _ _ _ h => h) (by kernel_rfl) (by kernel_rfl) (Or.inl ⟨by rfl, fun X hSw => exec_load42m rfl q11 0 1 a f rfl X (kr X hSw)⟩) ((Below.refl _ _).drew) ?_
          try simp only [Act.put, List.setIfInBounds_toArray, List.set_cons_zero, List.set_cons_succ]
          refine anyM_one 7 (by kernel_rfl) rfl (fun K hK => ?_)
          go_simp
          go_wp2_with (go_at_call 22; refine (rbegin_any (b : Int) 1 0 _).mono ?_; rintro e w4 ⟨rfl, b4⟩; replace b4 : Below wD.heap.size wD w4 := (Below.refl _ _).drew.trans b4)
          refine hK.out _ _ (fun _ => b4) ?_
          clear hK
          try simp only [Act.put, List.setIfInBounds_toArray, List.set_cons_zero, List.set_cons_succ]
          refine anyM_one 9 (by kernel_rfl) rfl (fun K hK => ?_)
          go_simp
          go_wp2_with (go_at_call 21; refine (wX_any (b : Int) a f _).mono ?_; rintro e w5 ⟨a5, c5, rfl, O5, b5⟩; have b5' : Below wD.heap.size wD w5 := b4.trans (b5.mono b4.size))
          refine hK.out _ _ (fun _ => b5') ?_
          clear hK
          try simp only [Act.put, List.setIfInBounds_toArray, List.set_cons_zero, List.set_cons_succ]
          refine anyM_one 10 (by kernel_rfl) rfl (fun K hK => ?_)
          go_simp
          go_wp2_with (go_at_call 20; refine (rput_any (hX b a f) a5 c5 A2 c2 (G a) _ (O5.rd (by show 1 * 40 ≤ _; omega)) (H2.below b5') (HG.rise a HA.out) (by have := ZA.out; omega)).mono ?_; rintro e w6 ⟨v6, es6, rfl, C6⟩)
          have b6 : Below wD.heap.size wD w6 := b5'.trans (C6.below.mono b5'.size)
          obtain ⟨a6, c6, e6, _⟩ := C6.hs (by rw [put_len (x := hX b a f) HH.out]; have := ZA.out; omega) (lines_put (w := a) (f := f) HH.out (HG.lines HA.out))
          subst e6
          refine hK.out _ _ (fun _ => b6) ?_
          clear hK
          try simp only [Act.put, List.setIfInBounds_toArray, List.set_cons_zero, List.set_cons_succ]
          refine anyM_take 11 84 (.pointer (some ⟨hb, a, none⟩)) rfl rfl (by kernel_rfl) (by kernel_rfl) (by kernel_rfl) (fun _ _ _ h => h) (by kernel_rfl) (by kernel_rfl) (Or.inl ⟨by rfl, by intro w hSw; go_simp⟩) (b6) ?_
          try simp only [Act.put, List.setIfInBounds_toArray, List.set_cons_zero, List.set_cons_succ]
          have kf6 := kf _ b6
          have kc6 := kc _ b6
          refine anyM_one 12 (by kernel_rfl) rfl (fun K hK => ?_)
          go_simp
          go_wp2_with (fail)
          refine hK.out _ _ (fun h => absurd h (by decide)) ?_
          clear hK
          try simp only [Act.put, List.setIfInBounds_toArray, List.set_cons_zero, List.set_cons_succ]
          refine anyM_done (by kernel_rfl) ?_ _
          obtain ⟨wE, hwE⟩ : ∃ X, w6.setCell ⟨hb, a, none⟩ (.slice a6 (putH (hX b a f) (G a)).length c6) = X := ⟨_, rfl⟩
          have SE : St hb n (fun c => if c = a then putH (hX b a f) (G a) else G c) wE := by rw [← hwE]; exact (SD.below b6).set HA.out (HLs.of C6 (by have := SD.lt; have := b5'.size; omega))
          have BE : Below hb w wE := by rw [← hwE]; exact (BD.trans (b6.mono (by have := SD.lt; omega))).setCell (Nat.le_refl _) _
          have TE : wE.heap[q11]? = some (.cells #[.int .i64 1, .int .i64 (a : Int), .int .i64 f] 50 (0, 0)) := by rw [← hwE]; exact set_far ((b6.block _ (row_lt TD)).trans TD) HQ.out _ _
          rw [hwE]
          clear hwE kc kr kf kf6 kc6 SD BD TD C6 b6 b5' b5 b4 O5 H2 k2 fz2
          go_wp2_with (fail)
          obtain ⟨A2, c2, k2, fz2, H2⟩ := SE.at2 (l := G b) (by simp only [if_neg (Ne.symm HAB.out)]) ZB.out (HG.lines HB.out) HB.out
          have kc : ∀ X, Below wE.heap.size wE X → X.cell? ⟨hb, b, none⟩ = some (.slice A2 (G b).length c2) := fun X bb => (World.cell?_of_block (a := ⟨hb, b, none⟩) (bb.block _ SE.lt)).trans k2
          have kr : ∀ X, Below wE.heap.size wE X → X.rangeAt q11 0 [.int .i64 1, .int .i64 (a : Int), .int .i64 f] := fun X bb => rangeReg ((bb.block _ (row_lt TE)).trans TE)
          have kf : ∀ X, Below wE.heap.size wE X → X.frozen? ⟨hb, b, none⟩ = false := fun X bb => (World.frozen?_of_block (a := ⟨hb, b, none⟩) (bb.block _ SE.lt)).trans fz2
          refine wp_region_any (by kernel_rfl) ?_
          change wpAny _ _ _ _ _ _ _ (World.drew _)
          refine wpAny_until (fun W' => Below wE.heap.size wE W') 12 _ _ _ _ ?_
          refine anyM_take 0 85 (.slice (some ⟨hb, 0, none⟩) n n) rfl rfl (by kernel_rfl) (by kernel_rfl) (by kernel_rfl) (fun _ _ _ h => h) (by kernel_rfl) (by kernel_rfl) (Or.inl ⟨by rfl, by intro w hSw; go_simp⟩) ((Below.refl _ _).drew) ?_
          try simp only [Act.put, List.setIfInBounds_toArray, List.set_cons_zero, List.set_cons_succ]
          refine anyM_take 1 86 (.int .i64 (b : Int)) rfl rfl (by kernel_rfl) (by kernel_rfl) (by kernel_rfl) (fun _ _ _ h => h) (by kernel_rfl) (by kernel_rfl) (Or.inl ⟨by rfl, by intro w hSw; go_simp⟩) ((Below.refl _ _).drew) ?_
          try simp only [Act.put, List.setIfInBounds_toArray, List.set_cons_zero, List.set_cons_succ]
          refine anyM_take 2 87 (.slice (some ⟨hb, 0, none⟩) n n) rfl rfl (by kernel_rfl) (by kernel_rfl) (by kernel_rfl) (fun _ _ _ h => h) (by kernel_rfl) (by kernel_rfl) (Or.inl ⟨by rfl, by intro w hSw; go_simp⟩) ((Below.refl _ _).drew) ?_
          try simp only [Act.put, List.setIfInBounds_toArray, List.set_cons_zero, List.set_cons_succ]
          refine anyM_take 3 88 (.int .i64 (b : Int)) rfl rfl (by kernel_rfl) (by kernel_rfl) (by kernel_rfl) (fun _ _ _ h => h) (by kernel_rfl) (by kernel_rfl) (Or.inl ⟨by rfl, by intro w hSw; go_simp⟩) ((Below.refl _ _).drew) ?_
          try simp only [Act.put, List.setIfInBounds_toArray, List.set_cons_zero, List.set_cons_succ]
          refine anyM_take 4 89 (.pointer (some ⟨hb, b, none⟩)) rfl rfl (by kernel_rfl) (by kernel_rfl) (by kernel_rfl) (fun _ _ _ h => h) (by kernel_rfl) (by kernel_rfl) (Or.inl ⟨by rfl, by intro w hSw; go_simp⟩) ((Below.refl _ _).drew) ?_
          try simp only [Act.put, List.setIfInBounds_toArray, List.set_cons_zero, List.set_cons_succ]
          refine anyM_take 5 90 (.slice A2 (G b).length c2) rfl rfl (by kernel_rfl) (by kernel_rfl) (by kernel_rfl) (fun _ _ _ h => h) (by kernel_rfl) (by kernel_rfl) (Or.inl ⟨by rfl, by intro w hSw; have s1 := kc _ hSw; go_simp⟩) ((Below.refl _ _).drew) ?_
          try simp only [Act.put, List.setIfInBounds_toArray, List.set_cons_zero, List.set_cons_succ]
          refine anyM_take 6 91 (.int .i64 (a : Int)) rfl rfl (by kernel_rfl) (by kernel_rfl) (by kernel_rfl) (fun _ _ _ h => h) (by kernel_rfl) (by kernel_rfl) (Or.inl ⟨by rfl, by intro w hSw; go_simp⟩) ((Below.refl _ _).drew) ?_
          try simp only [Act.put, List.setIfInBounds_toArray, List.set_cons_zero, List.set_cons_succ]
          refine anyM_take 8 93 (rg 1 (a : Int) f) rfl rfl (by kernel_rfl) (by kernel_rfl) (by kernel_rfl) (fun _ _ _ h => h) (by kernel_rfl) (by kernel_rfl) (Or.inl ⟨by rfl, fun X hSw => exec_load42m rfl q11 0 1 a f rfl X (kr X hSw)⟩) ((Below.refl _ _).drew) ?_
          try simp only [Act.put, List.setIfInBounds_toArray, List.set_cons_zero, List.set_cons_succ]
          refine anyM_one 7 (by kernel_rfl) rfl (fun K hK => ?_)
          go_simp
          go_wp2_with (go_at_call 22; refine (rbegin_any (a : Int) 1 0 _).mono ?_; rintro e w4 ⟨rfl, b4⟩; replace b4 : Below wE.heap.size wE w4 := (Below.refl _ _).drew.trans b4)
          refine hK.out _ _ (fun _ => b4) ?_
          clear hK
          try simp only [Act.put, List.setIfInBounds_toArray, List.set_cons_zero, List.set_cons_succ]
          refine anyM_one 9 (by kernel_rfl) rfl (fun K hK => ?_)
          go_simp
          go_wp2_with (go_at_call 21; refine (wX_any (a : Int) a f _).mono ?_; rintro e w5 ⟨a5, c5, rfl, O5, b5⟩; have b5' : Below wE.heap.size wE w5 := b4.trans (b5.mono b4.size))
          refine hK.out _ _ (fun _ => b5') ?_
          clear hK
          try simp only [Act.put, List.setIfInBounds_toArray, List.set_cons_zero, List.set_cons_succ]
          refine anyM_one 10 (by kernel_rfl) rfl (fun K hK => ?_)
          go_simp
          go_wp2_with (go_at_call 20; refine (rput_any (hX a a f) a5 c5 A2 c2 (G b) _ (O5.rd (by show 1 * 40 ≤ _; omega)) (H2.below b5') (HG.rise b HB.out) (by have := ZB.out; omega)).mono ?_; rintro e w6 ⟨v6, es6, rfl, C6⟩)
          have b6 : Below wE.heap.size wE w6 := b5'.trans (C6.below.mono b5'.size)
          obtain ⟨a6, c6, e6, _⟩ := C6.hs (by rw [put_len (x := hX a a f) HHB]; have := ZB.out; omega) (lines_put (w := a) (f := f) HHB (HG.lines HB.out))
          subst e6
          refine hK.out _ _ (fun _ => b6) ?_
          clear hK
          try simp only [Act.put, List.setIfInBounds_toArray, List.set_cons_zero, List.set_cons_succ]
          refine anyM_take 11 96 (.pointer (some ⟨hb, b, none⟩)) rfl rfl (by kernel_rfl) (by kernel_rfl) (by kernel_rfl) (fun _ _ _ h => h) (by kernel_rfl) (by kernel_rfl) (Or.inl ⟨by rfl, by intro w hSw; go_simp⟩) (b6) ?_
          try simp only [Act.put, List.setIfInBounds_toArray, List.set_cons_zero, List.set_cons_succ]
          have kf6 := kf _ b6
          have kc6 := kc _ b6
          refine anyM_one 12 (by kernel_rfl) rfl (fun K hK => ?_)
          go_simp
          go_wp2_with (fail)
          refine hK.out _ _ (fun h => absurd h (by decide)) ?_
          clear hK
          try simp only [Act.put, List.setIfInBounds_toArray, List.set_cons_zero, List.set_cons_succ]
          refine anyM_done (by kernel_rfl) ?_ _
          obtain ⟨wF, hwE⟩ : ∃ X, w6.setCell ⟨hb, b, none⟩ (.slice a6 (putH (hX a a f) (G b)).length c6) = X := ⟨_, rfl⟩
          have SF : St hb n (fun c => if c = b then putH (hX a a f) (G b) else (fun c => if c = a then putH (hX b a f) (G a) else G c) c) wF := by rw [← hwE]; exact (SE.below b6).set HB.out (HLs.of C6 (by have := SE.lt; have := b5'.size; omega))
          have BF : Below hb w wF := by rw [← hwE]; exact (BE.trans (b6.mono (by have := SE.lt; omega))).setCell (Nat.le_refl _) _
          have TF : wF.heap[q11]? = some (.cells #[.int .i64 1, .int .i64 (a : Int), .int .i64 f] 50 (0, 0)) := by rw [← hwE]; exact set_far ((b6.block _ (row_lt TE)).trans TE) HQ.out _ _
          rw [hwE]
          clear hwE kc kr kf kf6 kc6 SE BE TE C6 b6 b5' b5 b4 O5 H2 k2 fz2
          go_wp2_with (fail)
          have eG : (fun c => if c = b then putH (hX a a f) (G b) else (fun c => if c = a then putH (hX b a f) (G a) else G c) c) = upG G a b f := rfl
          rw [eG] at SF
          have HG' := HG.up HA.out HB.out HAB.out HH.out HF.out
          clear eG
          have hneg : IntKind.i64.wrap (-outZ 1 a f b a) = -outZ 1 a f b a := by rw [IntKind.wrap_i64]; have := out_small a f b a HF.out; omega
          have hanti := out_anti a f a b (by have := HAB.out; omega)
          have hne : (-outZ 1 (a : Int) f (b : Int) (a : Int) != -outZ 1 (a : Int) f (b : Int) (a : Int)) = false := by simp
          have kr : ∀ X, Below wF.heap.size wF X → X.rangeAt q11 0 [.int .i64 1, .int .i64 (a : Int), .int .i64 f] := fun X bb => rangeReg ((bb.block _ (row_lt TF)).trans TF)
          refine wp_region_any (by kernel_rfl) ?_
          change wpAny _ _ _ _ _ _ _ (World.drew _)
          refine wpAny_narrow (fun W' => Below wF.heap.size wF W') _ _ _ _ ?_
          refine anyH_take 0 97 (rg 1 (a : Int) f) rfl rfl (by kernel_rfl) (by kernel_rfl) (by kernel_rfl) (fun _ _ _ h => h) (Or.inl ⟨by rfl, fun X hSw => exec_load42m rfl q11 0 1 a f rfl X (kr X hSw)⟩) ((Below.refl _ _).drew) ?_
          try simp only [Act.put, List.setIfInBounds_toArray, List.set_cons_zero, List.set_cons_succ]
          refine anyH_take 1 98 (.int .i64 (a : Int)) rfl rfl (by kernel_rfl) (by kernel_rfl) (by kernel_rfl) (fun _ _ _ h => h) (Or.inl ⟨by rfl, by intro w hSw; go_simp⟩) ((Below.refl _ _).drew) ?_
          try simp only [Act.put, List.setIfInBounds_toArray, List.set_cons_zero, List.set_cons_succ]
          refine anyH_take 2 99 (.int .i64 (b : Int)) rfl rfl (by kernel_rfl) (by kernel_rfl) (by kernel_rfl) (fun _ _ _ h => h) (Or.inl ⟨by rfl, by intro w hSw; go_simp⟩) ((Below.refl _ _).drew) ?_
          try simp only [Act.put, List.setIfInBounds_toArray, List.set_cons_zero, List.set_cons_succ]
          refine anyH_take 4 101 (rg 1 (a : Int) f) rfl rfl (by kernel_rfl) (by kernel_rfl) (by kernel_rfl) (fun _ _ _ h => h) (Or.inl ⟨by rfl, fun X hSw => exec_load42m rfl q11 0 1 a f rfl X (kr X hSw)⟩) ((Below.refl _ _).drew) ?_
          try simp only [Act.put, List.setIfInBounds_toArray, List.set_cons_zero, List.set_cons_succ]
          refine anyH_take 5 102 (.int .i64 (b : Int)) rfl rfl (by kernel_rfl) (by kernel_rfl) (by kernel_rfl) (fun _ _ _ h => h) (Or.inl ⟨by rfl, by intro w hSw; go_simp⟩) ((Below.refl _ _).drew) ?_
          try simp only [Act.put, List.setIfInBounds_toArray, List.set_cons_zero, List.set_cons_succ]
          refine anyH_take 6 103 (.int .i64 (a : Int)) rfl rfl (by kernel_rfl) (by kernel_rfl) (by kernel_rfl) (fun _ _ _ h => h) (Or.inl ⟨by rfl, by intro w hSw; go_simp⟩) ((Below.refl _ _).drew) ?_
          try simp only [Act.put, List.setIfInBounds_toArray, List.set_cons_zero, List.set_cons_succ]
          refine wpAnyH_ready (rs := [3]) (by kernel_rfl) (by simp) ?_
          refine AllReadyH.cons rfl (fun K hK => ?_) AllReadyH.nil
          go_simp
          go_wp2_with (go_at_call 23; refine (rout_any 1 a f a b _).mono ?_; rintro e w7 ⟨rfl, b7⟩)
          refine hK.out _ _ ((Below.refl _ _).drew.trans b7) (fun hS => ?_)
          clear hK
          try simp only [Act.put, List.setIfInBounds_toArray, List.set_cons_zero, List.set_cons_succ]
          refine wpAnyH_ready (rs := [7]) (by kernel_rfl) (by simp) ?_
          refine AllReadyH.cons rfl (fun K hK => ?_) AllReadyH.nil
          go_simp
          go_wp2_with (go_at_call 23; refine (rout_any 1 a f b a _).mono ?_; rintro e w8 ⟨rfl, b8⟩)
          refine hK.out _ _ (hS.trans (b8.mono hS.size)) (fun hS => ?_)
          clear hK
          try simp only [Act.put, List.setIfInBounds_toArray, List.set_cons_zero, List.set_cons_succ]
          refine anyH_take 8 105 (.int .i64 (-outZ 1 a f b a)) rfl rfl (by kernel_rfl) (by kernel_rfl) (by kernel_rfl) (fun _ _ _ h => h) (Or.inl ⟨by rfl, by intro w hSw; have s1 := hneg; go_simp⟩) (hS) ?_
          try simp only [Act.put, List.setIfInBounds_toArray, List.set_cons_zero, List.set_cons_succ]
          refine anyH_take 9 106 (.bool false) rfl rfl (by kernel_rfl) (by kernel_rfl) (by kernel_rfl) (fun _ _ _ h => h) (Or.inl ⟨by rfl, by intro w hSw; have s1 := hne; go_simp⟩) (hS) ?_
          try simp only [Act.put, List.setIfInBounds_toArray, List.set_cons_zero, List.set_cons_succ]
          refine wpAnyH_done (by kernel_rfl) ?_ _
          go_wp2_with (fail)
          go_roundg (gk - 1)
          case measure => have := HGK.out; have := HK.out; omega
          case rel => exact ⟨k + 1, _, by first | rfl | go_num, by have := HGK.out; have := HK.out; omega, HG', SF.below hS, BF.trans (hS.mono (by have := SF.lt; omega))⟩
    case neg =>
      have hkI : ¬ (k : Int) < (ps.length : Int) := by omega
      have HG0 : Hid (Gd n G) := HG
      have HS0 := SS
      clear hgk hk P S1 B1
      obtain ⟨wL, hwL⟩ : ∃ X, wr = X := ⟨_, rfl⟩
      rw [hwL] at SS Br HS0 ⊢
      clear hwL
      go_wp2_with (fail)
      go_loopg [14, 15, 109] n (fun gk v14 v15 v109 wr => ∃ (i : Nat), v109 = .int .i64 (i : Int) ∧ i + gk = n ∧ v14 = .int .i64 (sN (xs zs) i) ∧ v15 = .int .i64 (sN (xs zs) i - sN (ts G) i) ∧ St hb n G wr ∧ Below hb w wr)
      case atStart => exact ⟨0, by first | rfl | go_num, by omega, by first | rfl | go_num, by first | rfl | go_num, SS, Br⟩
      case round =>
        obtain ⟨i, rfl, hgi, rfl, rfl, Si, Bi⟩ := hrel
        have r1 := sN_rng (F := xs zs) (M := 16777216) (n := i) (fun c _ => xs_rng zs c)
        have r2 := sN_rng (F := ts G) (M := 16777216) (n := i) (fun c hc => HG.rng H16.out (by omega))
        by_cases hi : i < n
        case pos =>
          have hiI : (i : Int) < (n : Int) := by omega
          have hizI : (i : Int) < (zs.length : Int) := by have := HZ.out; omega
          have hwi : IntKind.i64.wrap ((i : Int) + 1) = (i : Int) + 1 := by rw [IntKind.wrap_i64]; have := H16.out; omega
          obtain ⟨g, o, rfl, hg, hr⟩ := Z.at i (by have := HZ.out; omega)
          obtain ⟨z, ez⟩ : ∃ z, zs.getD i 0 = z := ⟨_, rfl⟩
          have kz : wr.cell? ⟨g, o + i, none⟩ = some (.int .i64 z) := by rw [← ez]; exact (World.cell?_of_block (a := ⟨g, o + i, none⟩) (Bi.block g (by rw [← HW.out]; exact hg))).trans hr
          have ex : xs zs i = z.tmod 16777216 := by unfold xs; rw [ez]
          obtain ⟨x, exx⟩ : ∃ x, z.tmod 16777216 = x := ⟨_, rfl⟩
          rw [exx] at ex
          have hxr := xs_rng zs i
          rw [ex] at hxr
          have htr : -16777216 ≤ ts G i ∧ ts G i ≤ 16777216 := HG.rng H16.out hi
          obtain ⟨t, et⟩ : ∃ t, ts G i = t := ⟨_, rfl⟩
          rw [et] at htr
          have est : (x :: (ents (i : Int) mB (G i)).map cntE).sum = x - t := by rw [List.sum_cons, est_tak, ← et]; unfold ts; omega
          obtain ⟨A2, c2, k2, _, H2⟩ := Si.at HG H16.out hi
          have hlen := Nat.le_trans (HG.few hi) H16.out
          have K13 := estimate_any (i : Int) x A2 c2 (G i) mB wr H2 (by omega) (by omega)
          rw [est, (chk_in (x := x - t) (by omega)).1, (chk_in (x := x - t) (by omega)).2] at K13
          have K9 := fun W (b : Below wr.heap.size wr W) => page_any (i : Int) A2 c2 (G i) mB W (H2.below b)
          have kk : ∀ X, Below wr.heap.size wr X → X.cell? ⟨hb, i, none⟩ = some (.slice A2 (G i).length c2) := fun X bb => (World.cell?_of_block (a := ⟨hb, i, none⟩) (bb.block _ Si.lt)).trans k2
          obtain ⟨sx, esx⟩ : ∃ s, sN (xs zs) i = s := ⟨_, rfl⟩
          obtain ⟨st, est2⟩ : ∃ s, sN (ts G) i = s := ⟨_, rfl⟩
          have HX' : Hid (sN (xs zs) (i + 1) = sx + x) := by show sN (xs zs) i + xs zs i = _; rw [esx, ex]
          have HT' : Hid (sN (ts G) (i + 1) = st + t) := by show sN (ts G) i + ts G i = _; rw [est2, et]
          rw [esx] at r1
          rw [est2] at r2
          simp only [esx, est2]
          have hw1 : IntKind.i64.wrap (sx + x) = sx + x := by rw [IntKind.wrap_i64]; have := H16.out; omega
          have hw2 : IntKind.i64.wrap (sx - st + (x - t)) = sx - st + (x - t) := by rw [IntKind.wrap_i64]; have := H16.out; omega
          have hle := ents_len (i : Int) mB (G i)
          have hans := fun p (hp : p ∈ ents (i : Int) mB (G i)) => HG.ans hi hp
          have hrng := fun p (hp : p ∈ ents (i : Int) mB (G i)) => ents_rng hp
          obtain ⟨es, ees⟩ : ∃ es, ents (i : Int) mB (G i) = es := ⟨_, rfl⟩
          rw [ees] at hle hans hrng
          simp only [ees] at K9
          obtain ⟨l2, el2⟩ : ∃ l : Nat, (G i).length = l := ⟨_, rfl⟩
          rw [el2] at hle hlen
          simp only [el2] at K13 K9 k2 kk
          have HLE : Hid (es.length ≤ 16) := Nat.le_trans hle hlen
          have HANS : Hid (∀ p ∈ es, ∃ b : Nat, p.1 = b ∧ b < n ∧ ((i : Int), -p.2) ∈ ents b mB (G b)) := hans
          have HRNG : Hid (∀ p ∈ es, -2147483647 ≤ p.2 ∧ p.2 ≤ 2147483647) := hrng
          have HGI : Hid (i + gk = n) := hgi
          have HI : Hid (i < n) := hi
          clear hans hrng hle hlen ees el2 esx est2 et ex ez est htr hxr r1 r2 hi hgi H2 hr
          go_wp2_with (first
            | (go_at_call 13; refine K13.mono ?_; rintro e w2 ⟨rfl, b2⟩; clear K13; have kk2 := kk _ b2)
            | (go_at_call 9; refine (K9 _ b2).mono ?_; rintro e w3 ⟨v3, rfl, O3, b3⟩; clear K9; obtain ⟨a3, c3, rfl, R3⟩ := ent_row O3 (by have := HLE.out; omega); clear O3)
            | fail)
          have S3 := (Si.below b2).below b3
          have B3 : Below hb w w3 := (Bi.trans (b2.mono (by have := Si.lt; omega))).trans (b3.mono (by have := Si.lt; have := b2.size; omega))
          obtain ⟨gki, hgki⟩ : ∃ g : Nat, g = gk := ⟨_, rfl⟩
          rw [← hgki] at HGI
          clear kk kk2 k2 kz Si Bi b2 b3
          go_loopg [142] es.length (fun gk v142 wr => ∃ (j : Nat), v142 = .int .i64 (j : Int) ∧ j + gk = es.length ∧ Below w3.heap.size w3 wr)
          case atStart => exact ⟨0, by first | rfl | go_num, by omega, Below.refl _ _⟩
          case round =>
            obtain ⟨j, rfl, hgj, Bj⟩ := hrel
            by_cases hj : j < es.length
            case pos =>
              have hjI : (j : Int) < (es.length : Int) := by omega
              have hwj : IntKind.i64.wrap ((j : Int) + 1) = (j : Int) + 1 := by rw [IntKind.wrap_i64]; have := HLE.out; omega
              obtain ⟨g3, o3, rfl, hg3, hr3⟩ := ent_at R3 j hj
              obtain ⟨p, ep⟩ : ∃ p, es.getD j (0, 0) = p := ⟨_, rfl⟩
              have hp : p ∈ es := by rw [← ep, List.getD_eq_getElem?_getD, List.getElem?_eq_getElem hj]; exact List.getElem_mem hj
              rw [ep] at hr3
              have hrj := range_later hr3 hg3 Bj
              have c0 := EN.c0 hrj
              have c1' := EN.c1 hrj
              obtain ⟨b, ep1, hb', hmem⟩ := HANS.out p hp
              have hprg := HRNG.out p hp
              obtain ⟨u, eu⟩ : ∃ u, p.2 = u := ⟨_, rfl⟩
              rw [ep1] at c0
              rw [eu] at c1' hmem hprg
              have HMEM : Hid (((i : Int), -u) ∈ ents (b : Int) mB (G b)) := hmem
              have hneg : IntKind.i64.wrap (-u) = -u := by rw [IntKind.wrap_i64]; omega
              have hbI : (b : Int) < (n : Int) := by omega
              have HB : Hid (b < n) := hb'
              have HGJ : Hid (j + gk = es.length) := hgj
              have HJ : Hid (j < es.length) := hj
              have TX : (wr.alloc (.cells #[.int .i64 (b : Int), .int .i64 u] 58)).heap[wr.heap.size]? = some (.cells #[.int .i64 (b : Int), .int .i64 u] 58 (0, 0)) := heap_new rfl
              have BX : Below w3.heap.size w3 (wr.alloc (.cells #[.int .i64 (b : Int), .int .i64 u] 58)) := Bj.alloc Bj.size _
              clear ep hp hrj ep1 hb' hmem hprg eu hgj hj hr3 hg3
              go_wp2_with (fail)
              obtain ⟨qx, hqx⟩ : ∃ q : Nat, wr.heap.size = q := ⟨_, rfl⟩
              obtain ⟨wX, hwX⟩ : ∃ X, wr.alloc (.cells #[.int .i64 (b : Int), .int .i64 u] 58) = X := ⟨_, rfl⟩
              rw [hwX] at TX BX ⊢
              rw [hqx] at TX
              simp only [hqx]
              have SX := S3.below BX
              obtain ⟨A5, c5, k5, _, H5⟩ := SX.at HG0.out H16.out HB.out
              have K9 := fun W (bb : Below wX.heap.size wX W) => page_any (b : Int) A5 c5 (G b) mB W (H5.below bb)
              have hle := ents_len (b : Int) mB (G b)
              have hlen := Nat.le_trans (HG0.out.few HB.out) H16.out
              obtain ⟨fs, efs⟩ : ∃ es, ents (b : Int) mB (G b) = es := ⟨_, rfl⟩
              rw [efs] at hle HMEM
              simp only [efs] at K9
              obtain ⟨l5, el5⟩ : ∃ l : Nat, (G b).length = l := ⟨_, rfl⟩
              rw [el5] at hle hlen
              simp only [el5] at K9 k5
              have HLF : Hid (fs.length ≤ 16) := Nat.le_trans hle hlen
              have kx0 : ∀ X, Below wX.heap.size wX X → X.cell? ⟨qx, 0, none⟩ = some (.int .i64 (b : Int)) := fun X bb => row_cell ((bb.block _ (row_lt TX)).trans TX) 0 _ rfl
              have kc5 : ∀ X, Below wX.heap.size wX X → X.cell? ⟨hb, b, none⟩ = some (.slice A5 l5 c5) := fun X bb => (World.cell?_of_block (a := ⟨hb, b, none⟩) (bb.block _ SX.lt)).trans k5
              obtain ⟨gkj, hgkj⟩ : ∃ g : Nat, g = gk := ⟨_, rfl⟩
              rw [← hgkj] at HGJ
              clear hwX hqx Bj c0 c1' hle hlen efs el5 k5 H5 SX
              refine wp_region_any (by kernel_rfl) ?_
              change wpAny _ _ _ _ _ _ _ (World.drew _)
              refine wpAny_narrow (fun W' => Below wX.heap.size wX W') _ _ _ _ ?_
              refine anyH_take 0 146 (.pointer (some ⟨qx, 0, none⟩)) rfl rfl (by kernel_rfl) (by kernel_rfl) (by kernel_rfl) (fun _ _ _ h => h) (Or.inl ⟨by rfl, by intro w hSw; go_simp⟩) ((Below.refl _ _).drew) ?_
              try simp only [Act.put, List.setIfInBounds_toArray, List.set_cons_zero, List.set_cons_succ]
              refine anyH_take 1 147 (.int .i64 (b : Int)) rfl rfl (by kernel_rfl) (by kernel_rfl) (by kernel_rfl) (fun _ _ _ h => h) (Or.inl ⟨by rfl, by intro w hSw; have s1 := kx0 _ hSw; go_simp⟩) ((Below.refl _ _).drew) ?_
              try simp only [Act.put, List.setIfInBounds_toArray, List.set_cons_zero, List.set_cons_succ]
              refine anyH_take 2 148 (.slice (some ⟨hb, 0, none⟩) n n) rfl rfl (by kernel_rfl) (by kernel_rfl) (by kernel_rfl) (fun _ _ _ h => h) (Or.inl ⟨by rfl, by intro w hSw; go_simp⟩) ((Below.refl _ _).drew) ?_
              try simp only [Act.put, List.setIfInBounds_toArray, List.set_cons_zero, List.set_cons_succ]
              refine anyH_take 3 149 (.pointer (some ⟨qx, 0, none⟩)) rfl rfl (by kernel_rfl) (by kernel_rfl) (by kernel_rfl) (fun _ _ _ h => h) (Or.inl ⟨by rfl, by intro w hSw; go_simp⟩) ((Below.refl _ _).drew) ?_
              try simp only [Act.put, List.setIfInBounds_toArray, List.set_cons_zero, List.set_cons_succ]
              refine anyH_take 4 150 (.int .i64 (b : Int)) rfl rfl (by kernel_rfl) (by kernel_rfl) (by kernel_rfl) (fun _ _ _ h => h) (Or.inl ⟨by rfl, by intro w hSw; have s1 := kx0 _ hSw; go_simp⟩) ((Below.refl _ _).drew) ?_
              try simp only [Act.put, List.setIfInBounds_toArray, List.set_cons_zero, List.set_cons_succ]
              refine anyH_take 5 151 (.pointer (some ⟨hb, b, none⟩)) rfl rfl (by kernel_rfl) (by kernel_rfl) (by kernel_rfl) (fun _ _ _ h => h) (Or.inl ⟨by rfl, by intro w hSw; go_simp⟩) ((Below.refl _ _).drew) ?_
              try simp only [Act.put, List.setIfInBounds_toArray, List.set_cons_zero, List.set_cons_succ]
              refine anyH_take 6 152 (.slice A5 l5 c5) rfl rfl (by kernel_rfl) (by kernel_rfl) (by kernel_rfl) (fun _ _ _ h => h) (Or.inl ⟨by rfl, by intro w hSw; have s1 := kc5 _ hSw; go_simp⟩) ((Below.refl _ _).drew) ?_
              try simp only [Act.put, List.setIfInBounds_toArray, List.set_cons_zero, List.set_cons_succ]
              refine anyH_take 9 155 (.int .i64 0) rfl rfl (by kernel_rfl) (by kernel_rfl) (by kernel_rfl) (fun _ _ _ h => h) (Or.inl ⟨by rfl, by intro w hSw; go_simp⟩) ((Below.refl _ _).drew) ?_
              try simp only [Act.put, List.setIfInBounds_toArray, List.set_cons_zero, List.set_cons_succ]
              refine wpAnyH_ready (rs := [7]) (by kernel_rfl) (by simp) ?_
              refine AllReadyH.cons rfl (fun K hK => ?_) AllReadyH.nil
              go_simp
              go_wp2_with (go_at_call 9; refine (K9 _ (Below.refl _ _).drew).mono ?_; rintro e w6 ⟨v6, rfl, O6, b6⟩; obtain ⟨a6, c6, rfl, R6⟩ := ent_row O6 (by have := HLF.out; omega); clear O6)
              refine hK.out _ _ ((Below.refl _ _).drew.trans b6) (fun hS => ?_)
              clear hK
              try simp only [Act.put, List.setIfInBounds_toArray, List.set_cons_zero, List.set_cons_succ]
              refine anyH_take 8 154 (.int .i64 (fs.length : Int)) rfl rfl (by kernel_rfl) (by kernel_rfl) (by kernel_rfl) (fun _ _ _ h => h) (Or.inl ⟨by rfl, by intro w hSw; go_simp⟩) (hS) ?_
              try simp only [Act.put, List.setIfInBounds_toArray, List.set_cons_zero, List.set_cons_succ]
              refine wpAnyH_done (by kernel_rfl) ?_ _
              have B6 : Below w3.heap.size w3 w6 := BX.trans (hS.mono BX.size)
              have T6 := (hS.block _ (row_lt TX)).trans TX
              clear hS b6 kx0 kc5 K9 BX TX
              go_wp2_with (fail)
              go_loopg [22, 155] fs.length (fun gk v22 v155 wr => ∃ (m : Nat), v155 = .int .i64 (m : Int) ∧ m + gk = fs.length ∧ v22 = .bool (fnd i u (fs.take m)) ∧ Below w6.heap.size w6 wr)
              case atStart => exact ⟨0, by first | rfl | go_num, by omega, by first | rfl | simp [fnd], Below.refl _ _⟩
              case round =>
                obtain ⟨m, rfl, hgm, rfl, Bm⟩ := hrel
                by_cases hm : m < fs.length
                case pos =>
                  have hmI : (m : Int) < (fs.length : Int) := by omega
                  have hwm : IntKind.i64.wrap ((m : Int) + 1) = (m : Int) + 1 := by rw [IntKind.wrap_i64]; have := HLF.out; omega
                  obtain ⟨g6, o6, rfl, hg6, hr6⟩ := ent_at R6 m hm
                  have hnx := fnd_next (i := (i : Int)) (u := u) hm
                  obtain ⟨e, ee⟩ : ∃ e, fs.getD m (0, 0) = e := ⟨_, rfl⟩
                  rw [ee] at hr6 hnx
                  have hrm := range_later hr6 hg6 Bm
                  have c0 := EN.c0 hrm
                  have c1' := EN.c1 hrm
                  have ku : wr.cell? ⟨qx, 1, none⟩ = some (.int .i64 u) := row_cell ((Bm.block _ (row_lt T6)).trans T6) 1 _ rfl
                  obtain ⟨e1, e2⟩ := e
                  have ku2 : (wr.alloc (.cells #[.int .i64 e1, .int .i64 e2] 58)).cell? ⟨qx, 1, none⟩ = some (.int .i64 u) := row_cell (heap_old (row_lt ((Bm.block _ (row_lt T6)).trans T6)) ((Bm.block _ (row_lt T6)).trans T6)) 1 _ rfl
                  have hql : qx < wr.heap.size := row_lt ((Bm.block _ (row_lt T6)).trans T6)
                  obtain ⟨fd, efd⟩ : ∃ fd, fnd i u (fs.take m) = fd := ⟨_, rfl⟩
                  rw [efd] at hnx
                  simp only [efd]
                  have HGM : Hid (m + gk = fs.length) := hgm
                  have HM : Hid (m < fs.length) := hm
                  simp only [] at c0 c1' hnx
                  clear hgm hm hr6 hrm ee efd
                  cases fd with
                  | true =>
                    have HNX : Hid (fnd i u (fs.take (m + 1)) = true) := by show _ = _; rw [hnx]; rfl
                    clear hnx
                    go_wp2_with (fail)
                    go_roundg (gk - 1)
                    case measure => have := HGM.out; have := HM.out; omega
                    case rel => exact ⟨m + 1, by first | rfl | go_num, by have := HGM.out; have := HM.out; omega, by rw [HNX.out], Bm.alloc Bm.size _⟩
                  | false =>
                    by_cases he : e1 = (i : Int)
                    case pos =>
                      subst he
                      cases h2 : e2 == -u with
                      | true =>
                        have HNX : Hid (fnd i u (fs.take (m + 1)) = true) := by show _ = _; rw [hnx, h2]; simp
                        clear hnx
                        go_wp2_with (fail)
                        go_roundg (gk - 1)
                        case measure => have := HGM.out; have := HM.out; omega
                        case rel => exact ⟨m + 1, by first | rfl | go_num, by have := HGM.out; have := HM.out; omega, by rw [HNX.out], Bm.alloc Bm.size _⟩
                      | false =>
                        have HNX : Hid (fnd i u (fs.take (m + 1)) = false) := by show _ = _; rw [hnx, h2]; simp
                        clear hnx
                        go_wp2_with (fail)
                        go_roundg (gk - 1)
                        case measure => have := HGM.out; have := HM.out; omega
                        case rel => exact ⟨m + 1, by first | rfl | go_num, by have := HGM.out; have := HM.out; omega, by rw [HNX.out], Bm.alloc Bm.size _⟩
                    case neg =>
                      have hq : (e1 == (i : Int)) = false := by simpa using he
                      have HNX : Hid (fnd i u (fs.take (m + 1)) = false) := by show _ = _; rw [hnx, hq]; simp
                      clear hnx he
                      go_wp2_with (fail)
                      go_roundg (gk - 1)
                      case measure => have := HGM.out; have := HM.out; omega
                      case rel => exact ⟨m + 1, by first | rfl | go_num, by have := HGM.out; have := HM.out; omega, by rw [HNX.out], Bm.alloc Bm.size _⟩
                case neg =>
                  have hmI : ¬ (m : Int) < (fs.length : Int) := by omega
                  have hmm : m = fs.length := by omega
                  have ef : fnd i u (fs.take m) = true := by rw [hmm, List.take_length]; exact fnd_all HMEM.out
                  simp only [ef]
                  clear hgm hm hmm ef
                  go_wp2_with (fail)
                  go_roundg (gkj - 1)
                  case measure => have := HGJ.out; have := HJ.out; omega
                  case rel => exact ⟨j + 1, by first | rfl | go_num, by have := HGJ.out; have := HJ.out; omega, B6.trans (Bm.mono B6.size)⟩
            case neg =>
              have hjI : ¬ (j : Int) < (es.length : Int) := by omega
              clear hgj hj
              go_wp2_with (fail)
              go_roundg (gki - 1)
              case measure => have := HGI.out; have := HI.out; omega
              case rel => exact ⟨i + 1, by first | rfl | go_num, by have := HGI.out; have := HI.out; omega, by rw [HX'.out], by rw [HX'.out, HT'.out]; congr 1; omega, S3.below Bj, B3.trans (Bj.mono (by have := S3.lt; omega))⟩
        case neg =>
          have hiI : ¬ (i : Int) < (n : Int) := by omega
          have ein : i = n := by omega
          subst ein
          have et : sN (ts G) i = 0 := HG.tot
          rw [et]
          clear et r1 r2 hgi
          go_wp2_with (first | (go_at_call 7; refine (awake_any _).mono ?_; rintro e w8 ⟨rfl, b8⟩) | fail)
          go_ret
          exact ⟨rfl, by rw [HW.out]; exact Bi.trans (b8.mono (by have := Si.lt; omega))⟩
theorem pairs_walk (A : Option Addr) (c : Nat) (zs : List Int) (B : Option Addr) (d : Nat) (ps : List RS) (w : World) (Z : Nums w A zs.length zs) (P : Rgs w B ps.length ps) : Calls Try.prog 5 #[.slice A zs.length c, .slice B ps.length d] w fun e w' => e = .returned (.bool true) ∧ Below w.heap.size w w' := by
  by_cases h : zs.length < 2
  · exact pairs_few A c zs B d ps w h
  · exact pairs_many A c zs B d ps w Z P _ rfl (by omega)
end Go.Proofs.Ytcacocndcfbmaaa

namespace Go.Proofs.Ytcacocndcfbmaaa.bookPairs
open Go.ChangeShapes Go.WideShapes Go.ChangeAt Go.RowKit Go.Deep
open Go.ChangeMaps (open_string shut_string)
set_option linter.unusedVariables false
set_option linter.unusedSimpArgs false

theorem own : ownKnob Try.prog.godebug = none := by kernel_rfl
theorem laidOut : laidOutB Try.prog = true := by kernel_rfl
theorem sized_arg {H : Type} {ts : List TypeId} {ds : List (DataW H)} (h : (DataW.weightsEach Try.prog ts ds).all (· ≤ reachBytes) = true) {j : Nat} {t : TypeId} {d : DataW H} (ht : ts[j]? = some t) (hd : ds[j]? = some d) : ∀ k ∈ d.weights Try.prog t, k ≤ reachBytes := by
  intro k hk
  have := List.all_eq_true.1 h _ (DataW.weights_mem_each ht hd k hk)
  simpa using this

set_option maxRecDepth 100000 in
theorem lifted (os : Os) (started : os.Started) (H : Type) (enc : TypeId × Value → H) :
    ReturnsInHanded {} Try.checked os 5 .any (Rows.bookPairsSpec.pre6 enc Try.prog Try.f5 Rows.bookPairsRow.domain false) (Rows.bookPairsSpec.post enc Try.prog Try.f5 false true false false) := by
  refine returnsInHanded_of_change_sized (C := Try.checked) own started (by kernel_rfl) Try.func5
    (ChangeSpec.witness6 (enc := enc) (C := Try.checked) false ⟨#[], #[.slice none 0 0, .slice none 0 0], []⟩ 8 (by kernel_rfl) (by kernel_rfl) (by kernel_rfl) (by kernel_rfl)) ?_
  intro W base args ds gs before hval0 hW hcnd hsz0 _
  have hsz : (DataW.weightsEach Try.prog (Try.f5.params.toList ++ Rows.bookPairsSpec.plain.varTypes Try.prog) (ds ++ gs)).all (· ≤ reachBytes) = true := hsz0
  clear hsz0
  have hval : ∀ (j : Nat) t v, Try.f5.params[j]? = some t → args[j]? = some v → Value.okWide Try.prog W .any base t v := hval0
  have hW' := hW
  obtain ⟨p, q, hA0, hV, rfl, hfz, hnd⟩ := hW
  have hA : DataW.TrodAll enc Try.prog W 0 (fun _ => true) true Try.f5.params.toList args.toList ds p := hA0
  rw [Try.params5] at hA hval hsz
  obtain ⟨v0, vs0, d0, ds0, p0, q0, hargs, rfl, rfl, h0, r0⟩ := trodAll_cons hA
  obtain ⟨v1, vs1, d1, ds1, p1, q1, rfl, rfl, rfl, h1, r1⟩ := trodAll_cons r0
  obtain ⟨rfl, rfl, rfl⟩ := trodAll_nil r1
  obtain rfl : args = #[v0, v1] := by cases args; simp_all
  obtain ⟨rfl, rfl⟩ := trodVars_none hV
  have k0 := h0
  have lt0 : ∀ x ∈ p0, x.block < W.heap.size := by obtain ⟨m, hm⟩ := k0; exact DataW.trod_lt m _ _ _ hm
  have k1 := h1
  have lt1 : ∀ x ∈ p1, x.block < W.heap.size := by obtain ⟨m, hm⟩ := k1; exact DataW.trod_lt m _ _ _ hm
  obtain ⟨a0, len0, cap0, rfl⟩ := okWide_slice Try.underlying44 (hval 0 44 v0 rfl rfl)
  obtain ⟨a1, len1, cap1, rfl⟩ := okWide_slice Try.underlying45 (hval 1 45 v1 rfl rfl)
  obtain ⟨zs, Z⟩ := open_nums k0
  obtain ⟨ps, P⟩ := open_prs k1
  obtain rfl := Z.size
  obtain rfl := P.size
  clear hA0 hval0
  refine (pairs_walk a0 cap0 zs a1 cap1 ps W Z P).mono fun e W' ⟨he, bel⟩ => ?_
  subst he
  exact ⟨_, rfl, _, _, _, [], _, [], hW', trodAll_mk1 (shut_bool Try.underlying4 _), (trodAll_cons_mk (Below.trod laidOut (by kernel_rfl) (of_decide_eq_true (by kernel_rfl)) k0 bel lt0) (trodAll_cons_mk (Below.trod laidOut (by kernel_rfl) (of_decide_eq_true (by kernel_rfl)) k1 bel lt1) trodAll_mk0)), rfl, bel.frame _, fun h => by cases h⟩

theorem over : Rows.bookPairsRow.holds Try.pinned (OpenSpec.ofChange Rows.bookPairsSpec) :=
  OpenClaim.holds_of_wide 5 Try.f5 rfl rfl rfl rfl rfl rfl rfl ⟨rfl, rfl, rfl, rfl, rfl⟩ rfl rfl rfl rfl rfl (by kernel_rfl) Try.func5 (by kernel_rfl)
    (of_decide_eq_true (by kernel_rfl)) (by unfold Func.isWrapper; first | (rw [if_pos (by decide +kernel)]; kernel_rfl) | (rw [if_neg (by decide +kernel)]; exact ⟨rfl, rfl⟩))
    (fun os started H enc _ => lifted os started H enc)

/-- The statement. -/
theorem proved : Rows.BookPairsSaid := over
#print axioms proved
end Go.Proofs.Ytcacocndcfbmaaa.bookPairs
