/-
  The document's Find and Drop of rising half-edges.
-/
import Derived.Test.YtcacocndcfbmaaaH12
import Derived.Test.YtcacocndcfbmaaaIH
namespace Go.Proofs.Ytcacocndcfbmaaa
open Go.ChangeShapes Go.WideShapes Go.ChangeAt Go.RowKit Go.Maps Go.Shelf
set_option linter.unusedVariables false
set_option linter.unusedSimpArgs false
attribute [local go_sem] Oper.semAt_some

theorem rise_cons {x : HS} {r : List HS} (h : Rise (x :: r)) : Rise r ∧ ∀ y ∈ r, x.peer < y.peer := by
  refine ⟨fun i j hij hj => ?_, fun y hy => ?_⟩
  · have := h (i + 1) (j + 1) (by omega) (by simpa using hj)
    simpa using this
  · obtain ⟨n, hn, e⟩ := List.getElem_of_mem hy
    have := h 0 (n + 1) (by omega) (by simpa using hn)
    rw [List.getD_eq_getElem?_getD, List.getD_eq_getElem?_getD, List.getElem?_cons_succ, List.getElem?_eq_getElem hn, e] at this
    simpa using this
def filtH (k : Int) (l : List HS) : List HS := l.filter (fun x => !eqI x.peer k)
def fndH (k : Int) (l : List HS) : Bool := l.any (fun x => eqI x.peer k)
theorem filt_all {k : Int} {l : List HS} (h : ∀ y ∈ l, k < y.peer) : filtH k l = l ∧ fndH k l = false := by
  refine ⟨List.filter_eq_self.2 fun y hy => ?_, List.any_eq_false.2 fun y hy => ?_⟩
  · have := h y hy
    rw [show eqI y.peer k = false from decide_eq_false (by omega)]; rfl
  · have := h y hy
    rw [show eqI y.peer k = false from decide_eq_false (by omega)]; decide
theorem pos_cons {k : Int} {x : HS} {r : List HS} (h : x.peer < k) : posH k (x :: r) = posH k r + 1 ∧ hitH k (x :: r) = hitH k r := by
  have e : posH k (x :: r) = posH k r + 1 := by
    show (if ltI x.peer k = true then _ else 0) = _
    rw [if_pos (show ltI x.peer k = true from decide_eq_true h)]
  refine ⟨e, ?_⟩
  rw [hit_pos, hit_pos, e]
  simp
theorem pos_head {k : Int} {x : HS} {r : List HS} (h : k ≤ x.peer) : posH k (x :: r) = 0 ∧ hitH k (x :: r) = eqI x.peer k := by
  have e : posH k (x :: r) = 0 := by
    show (if ltI x.peer k = true then _ else 0) = _
    rw [if_neg (show ¬ ltI x.peer k = true from by rw [show ltI x.peer k = false from decide_eq_false (by omega)]; decide)]
  refine ⟨e, ?_⟩
  rw [hit_pos, e]
  simp
theorem filt_drop {k : Int} : ∀ {l : List HS}, Rise l → filtH k l = dropH k l ∧ fndH k l = hitH k l
  | [], _ => ⟨rfl, rfl⟩
  | x :: r, h => by
    obtain ⟨hr, hx⟩ := rise_cons h
    obtain ⟨i1, i2⟩ := filt_drop hr
    by_cases c : x.peer < k
    · obtain ⟨p1, p2⟩ := pos_cons (r := r) c
      have e2 : eqI x.peer k = false := decide_eq_false (by omega)
      have f1 : filtH k (x :: r) = x :: filtH k r := by unfold filtH; rw [List.filter_cons, e2]; rfl
      have f2 : fndH k (x :: r) = fndH k r := by unfold fndH; rw [List.any_cons, e2]; rfl
      rw [f1, f2, i1, i2, p2]
      refine ⟨?_, rfl⟩
      unfold dropH
      rw [p2, p1]
      split <;> simp
    · obtain ⟨p1, p2⟩ := pos_head (r := r) (show k ≤ x.peer by omega)
      obtain ⟨a1, a2⟩ := filt_all (k := k) (l := r) (fun y hy => by have := hx y hy; omega)
      by_cases e : x.peer = k
      · have e2 : eqI x.peer k = true := decide_eq_true e
        rw [e2] at p2
        unfold dropH
        rw [p2, p1]
        refine ⟨?_, by unfold fndH; rw [List.any_cons, e2]; rfl⟩
        unfold filtH at a1 ⊢
        rw [List.filter_cons, e2]
        simpa using a1
      · have e2 : eqI x.peer k = false := decide_eq_false e
        rw [e2] at p2
        unfold dropH
        rw [p2]
        unfold filtH at a1 ⊢
        unfold fndH at a2 ⊢
        rw [List.filter_cons, List.any_cons, e2, a1, a2]
        exact ⟨rfl, rfl⟩
theorem filt_next {k : Int} {l : List HS} {i : Nat} (hi : i < l.length) : filtH k (l.take (i + 1)) = (if (l.getD i HS.z).peer = k then filtH k (l.take i) else filtH k (l.take i) ++ [l.getD i HS.z]) ∧ fndH k (l.take (i + 1)) = (if (l.getD i HS.z).peer = k then true else fndH k (l.take i)) := by
  have e : l.take (i + 1) = l.take i ++ [l.getD i HS.z] := by
    rw [List.take_add_one, List.getD_eq_getElem?_getD, List.getElem?_eq_getElem hi]; rfl
  rw [e]
  unfold filtH fndH
  rw [List.filter_append, List.any_append]
  by_cases c : (l.getD i HS.z).peer = k
  · rw [if_pos c, if_pos c, List.filter_cons, List.any_cons, show eqI (l.getD i HS.z).peer k = true from decide_eq_true c]
    simp
  · rw [if_neg c, if_neg c, List.filter_cons, List.any_cons, show eqI (l.getD i HS.z).peer k = false from decide_eq_false c]
    simp
theorem Cpy.snoc {w : World} {ds : List HS} {v v' : Value} {es : List HR} {W W' : World} {x : HS} {a : Option Addr} {c : Nat} (C : Cpy w ds ds.length v es W) (O : Own w.heap.size W x a c)
    (r : W.grownBy W' v.ownBlock) (b : Below w.heap.size W W') (o : W'.ownsRow w.heap.size 43 6 v' (ds.length + 1) (csH (es ++ [x.on a c]))) : Cpy w (ds ++ [x]) (ds ++ [x]).length v' (es ++ [x.on a c]) W' := by
  have hl : (ds ++ [x]).length = ds.length + 1 := by simp
  rw [hl]
  refine ⟨C.below.trans b, o, by simp [C.len], fun j hj => ?_⟩
  by_cases e : j = ds.length
  · subst e
    refine ⟨a, c, ?_, ?_⟩
    · rw [List.getD_eq_getElem?_getD, List.getElem?_append_right (by rw [C.len]; exact Nat.le_refl _), C.len]
      simp
    · rw [show (ds ++ [x]).getD ds.length HS.z = x by simp]
      exact own_grow C.row r O
  · obtain ⟨a', c', e', o'⟩ := C.each j (by omega)
    have e2 : (ds ++ [x]).getD j HS.z = ds.getD j HS.z := by rw [List.getD_eq_getElem?_getD, List.getElem?_append_left (by omega), ← List.getD_eq_getElem?_getD]
    rw [e2]
    refine ⟨a', c', ?_, own_grow C.row r o'⟩
    rw [← e', List.getD_eq_getElem?_getD, List.getElem?_append_left (by rw [C.len]; omega), ← List.getD_eq_getElem?_getD]
set_option maxRecDepth 100000 in
set_option maxHeartbeats 8000000 in
theorem rfind_any (key : Int) (A : Option Addr) (c : Nat) (hs : List HS) (w : World) (P : Hs w A hs.length c hs) (hr : Rise hs) : Calls Try.prog 19 #[.slice A hs.length c, .int .i64 key] w fun e w' => ∃ a' c', e = .returned (.tuple #[((findH key hs).on a' c').val, .bool (hitH key hs)]) ∧ Own w.heap.size w' (findH key hs) a' c' ∧ Below w.heap.size w w' := by
  have HSM : Hid (hs.length * 64 ≤ 140737488355328) := P.small
  have HRS : Hid (Rise hs) := hr
  clear hr
  go_enter Try.func19, Try.ntmps19
  go_wp2
  go_loopg [6] hs.length (fun gk v6 wr => ∃ (i : Nat), v6 = .int .i64 (i : Int) ∧ i + gk = hs.length ∧ (∀ j, j < i → (hs.getD j HS.z).peer ≠ key) ∧ wr.heap[w.heap.size]? = some (.cells z6 43 (0, 0)) ∧ Below w.heap.size w wr)
  case atStart => exact ⟨0, by first | rfl | go_num, by omega, fun j hj => by omega, heap_new rfl, (Below.refl _ _).alloc (Nat.le_refl _) _⟩
  case round =>
    obtain ⟨i, rfl, hgk, hok, T, B⟩ := hrel
    have HOK : Hid (∀ j, j < i → (hs.getD j HS.z).peer ≠ key) := hok
    clear hok
    by_cases hi : i < hs.length
    case pos =>
      have HI : Hid (i < hs.length) := hi
      have hiI : (i : Int) < (hs.length : Int) := by omega
      have hwr : IntKind.i64.wrap ((i : Int) + 1) = (i : Int) + 1 := by rw [IntKind.wrap_i64]; have := HSM.out; omega
      obtain ⟨g, o, a1, c1, rfl, k10, r10, R10⟩ := P.at i hi
      obtain ⟨x, e1⟩ : ∃ x, hs.getD i HS.z = x := ⟨_, rfl⟩
      rw [e1] at r10 R10
      have HX : Hid (hs.getD i HS.z = x) := e1
      clear e1
      have r1 := range_later r10 k10 B
      have R1 : RdO wr x a1 c1 := RdL.below R10 B
      have kc : wr.cell? ⟨g, o + i * 6, none⟩ = some (.int .i64 x.peer) := peer_cell r1
      clear r10 R10
      by_cases hcmp : x.peer = key
      case pos =>
        have F := find_at HRS.out i HI.out
        rw [HX.out, hcmp] at F
        have HF1 : Hid (hitH key hs = true) := F.2.1
        have HF2 : Hid (findH key hs = x) := F.2.2
        have hq : (x.peer == key) = true := by simpa using hcmp
        clear F hcmp
        go_wp2_with (first
          | ((with_reducible show wpList _ _ _ (Oper.mk _ (Op.load 43 _) _ _ _ _ :: _) _ _); refine wpList_load24 rfl _ rfl g (o + i * 6) (x.on a1 c1) rfl r1 ?_)
          | (go_at_call 33; refine (one_any x a1 c1 _ R1).mono ?_; rintro e w5 ⟨a2, c2, rfl, O5, b5⟩; have X5 := (b5.block _ (row_lt T)).trans T; have hz3 := row_lt T; have B5 := B.trans (b5.mono B.size))
          | ((with_reducible show wpList _ _ _ (Oper.mk _ (Op.store 43 _ _) _ _ _ _ :: _) _ _); refine wpList_store24row rfl _ _ rfl (x.on a2 c2) X5 rfl rfl rfl ?_))
        rw [HF1.out, HF2.out]
        refine bodyPost_ret (results_ct rfl _ _ w.heap.size _ rfl (load_24 (d := x.on a2 c2) (setRow_heap _ _ _ _ _ _ X5))) rfl ⟨a2, c2, rfl, ⟨O5.lst.of_block fun g off e => setRow_other _ _ _ _ (by have := O5.new g off e; omega), fun g off e => by have := O5.new g off e; omega⟩, below_row B5 (Nat.le_refl _) _⟩
      case neg =>
        have hq : (x.peer == key) = false := by simpa using hcmp
        have HF : Hid ((hs.getD i HS.z).peer ≠ key) := by show _ ≠ _; rw [HX.out]; exact hcmp
        clear hcmp
        go_wp2
        go_roundg (gk - 1)
        case measure => omega
        case rel => exact ⟨i + 1, by first | rfl | go_num, by omega, fun j hj => (Nat.lt_succ_iff_lt_or_eq.1 hj).elim (HOK.out j) (fun e => by rw [e]; exact HF.out), T, B⟩
    case neg =>
      have hiI : ¬ (i : Int) < (hs.length : Int) := by omega
      have HF1 : Hid (hitH key hs = false) := by
        cases hh : hitH key hs with
        | false => exact (rfl : false = false)
        | true =>
          obtain ⟨h1, h2⟩ := hit_peer hh
          exact absurd h2 (HOK.out _ (by omega))
      have HF2 : Hid (findH key hs = HS.z) := by show _ = _; unfold findH; rw [HF1.out]; rfl
      go_wp2_with ((with_reducible show wpList _ _ _ (Oper.mk _ (Op.store 43 _ _) _ _ _ _ :: _) _ _); refine wpList_store24row rfl _ _ rfl HR.z T rfl rfl rfl ?_)
      rw [HF1.out, HF2.out]
      refine bodyPost_ret (results_ct rfl _ _ w.heap.size _ rfl (load_24 (d := HR.z) (setRow_heap _ _ _ _ _ _ T))) rfl ⟨none, 0, rfl, ⟨lstL_nil _, fun g off e => by cases e⟩, below_row B (Nat.le_refl _) _⟩
set_option maxRecDepth 100000 in
set_option maxHeartbeats 8000000 in
theorem rdrop_any (key : Int) (A : Option Addr) (c : Nat) (hs : List HS) (w : World) (P : Hs w A hs.length c hs) (hr : Rise hs) : Calls Try.prog 34 #[.slice A hs.length c, .int .i64 key] w fun e w' => ∃ v es, e = .returned (.tuple #[v, .bool (hitH key hs)]) ∧ Cpy w (dropH key hs) (dropH key hs).length v es w' := by
  have HSM : Hid (hs.length * 64 ≤ 140737488355328) := P.small
  have HFD : Hid (filtH key hs = dropH key hs ∧ fndH key hs = hitH key hs) := filt_drop hr
  clear hr
  go_enter Try.func34, Try.ntmps34
  go_wp2
  go_loopg [6, 7, 8] hs.length (fun gk v6 v7 v8 wr => ∃ (i : Nat) (ds : List HS) (es : List HR) (vv : Value) (bb : Bool), vv = v6 ∧ v7 = .bool bb ∧ v8 = .int .i64 (i : Int) ∧ i + gk = hs.length ∧ ds = filtH key (hs.take i) ∧ bb = fndH key (hs.take i) ∧ ds.length ≤ i ∧ Cpy w ds ds.length vv es wr)
  case atStart => exact ⟨0, [], [], _, false, rfl, rfl, by first | rfl | go_num, by omega, rfl, rfl, Nat.le_refl _, Cpy.nil _ _⟩
  case round =>
    obtain ⟨i, ds, es, vv, bb, rfl, rfl, rfl, hgk, hds, hbb, hdl, C⟩ := hrel
    have HDS : Hid (ds = filtH key (hs.take i)) := hds
    have HBB : Hid (bb = fndH key (hs.take i)) := hbb
    have HDL : Hid (ds.length ≤ i) := hdl
    clear hds hbb hdl
    by_cases hi : i < hs.length
    case pos =>
      have HI : Hid (i < hs.length) := hi
      have hiI : (i : Int) < (hs.length : Int) := by omega
      have hwr : IntKind.i64.wrap ((i : Int) + 1) = (i : Int) + 1 := by rw [IntKind.wrap_i64]; have := HSM.out; omega
      obtain ⟨g, o, a1, c1, rfl, k10, r10, R10⟩ := P.at i hi
      obtain ⟨x, e1⟩ : ∃ x, hs.getD i HS.z = x := ⟨_, rfl⟩
      have HN := filt_next (k := key) hi
      rw [e1] at r10 R10 HN
      clear e1
      have r1 := range_later r10 k10 C.below
      have R1 : RdO wr x a1 c1 := RdL.below R10 C.below
      have kc : wr.cell? ⟨g, o + i * 6, none⟩ = some (.int .i64 x.peer) := peer_cell r1
      clear r10 R10
      by_cases hcmp : x.peer = key
      case pos =>
        rw [if_pos hcmp, if_pos hcmp, ← HDS.out] at HN
        have HNN : Hid (filtH key (hs.take (i + 1)) = ds ∧ fndH key (hs.take (i + 1)) = true) := HN
        have hq : (x.peer == key) = true := by simpa using hcmp
        clear HN hcmp
        go_wp2
        go_roundg (gk - 1)
        case measure => omega
        case rel => exact ⟨i + 1, ds, es, _, true, rfl, rfl, by first | rfl | go_num, by omega, HNN.out.1.symm, HNN.out.2.symm, by have := HDL.out; omega, C⟩
      case neg =>
        rw [if_neg hcmp, if_neg hcmp, ← HDS.out, ← HBB.out] at HN
        have HNN : Hid (filtH key (hs.take (i + 1)) = ds ++ [x] ∧ fndH key (hs.take (i + 1)) = bb) := HN
        have hq : (x.peer == key) = false := by simpa using hcmp
        have HC : Hid (Cpy w ds ds.length vv es wr) := C
        clear HN hcmp C
        go_wp2_with (first
          | ((with_reducible show wpList _ _ _ (Oper.mk _ (Op.load 43 _) _ _ _ _ :: _) _ _); refine wpList_load24 rfl _ rfl g (o + i * 6) (x.on a1 c1) rfl r1 ?_)
          | (go_at_call 33; refine (one_any x a1 c1 _ R1).mono ?_; rintro e w5 ⟨a2, c2, rfl, O5, b5⟩; dsimp only [HS.on, HR.val])
          | ((with_reducible show wpList _ _ _ (Oper.mk _ (Op.call { callee := Callee.builtin Builtin.append, args := _, argTypes := #[22, 22] }) _ _ _ _ :: _) _ _); go_must (have SA := (HC.out.later b5).later ((Below.refl _ _).alloc (Nat.le_refl _) (.cells #[.int .i64 x.peer, .int .i64 x.boot, .int .i64 x.life, .slice a2 x.ls.length c2, .bool x.pend, .int .i64 x.miss] 43)); have X8 := World.alloc_heap_new w5 (.cells #[.int .i64 x.peer, .int .i64 x.boot, .int .i64 x.life, .slice a2 x.ls.length c2, .bool x.pend, .int .i64 x.miss] 43); refine wpList_more_lstH (base := w.heap.size) (k := ds.length) (es := es) (ds := [x.on a2 c2]) (ad := ⟨w5.heap.size, 0, none⟩) rfl _ _ rfl rfl rfl SA.row rfl (fun j u hj => by rw [add_plain, Nat.zero_add]; exact row_cell X8 j u (by simpa [csH, HR.cells, HS.on] using hj)) (by have := HSM.out; have := HI.out; have := HDL.out; omega) SA.below.size ?_; intro v8 w8 O8 g8 b8)))
        have C8 := SA.snoc (x := x) (((O5.mono HC.out.below.size).below ((Below.refl _ _).alloc (Nat.le_refl _) _))) g8 b8 O8
        go_roundg (gk - 1)
        case measure => omega
        case rel => exact ⟨i + 1, ds ++ [x], _, _, bb, rfl, rfl, by first | rfl | go_num, by omega, HNN.out.1.symm, HNN.out.2.symm, by have := HDL.out; rw [List.length_append]; show ds.length + 1 ≤ _; omega, C8⟩
    case neg =>
      have hiI : ¬ (i : Int) < (hs.length : Int) := by omega
      have hin : i = hs.length := by omega
      have h1 : ds = dropH key hs := by rw [HDS.out, hin, List.take_length]; exact HFD.out.1
      have h2 : bb = hitH key hs := by rw [HBB.out, hin, List.take_length]; exact HFD.out.2
      subst h1; subst h2
      clear HDS HBB hin
      go_wp2
      exact bodyPost_ret (results_tmp2 rfl _ _ _) rfl ⟨_, rfl, es, C⟩
end Go.Proofs.Ytcacocndcfbmaaa
