/-
  Package shake: Get, the program's and the document's; lists copied and compared.
-/
import Derived.Test.YteoiogjaecpddaaQ0
import Derived.Test.YteoiogjaecpddaaE0
namespace Go.Proofs.Yteoiogjaecpddaa
open Go.ChangeShapes Go.WideShapes Go.ChangeAt Go.RowKit
set_option linter.unusedVariables false
set_option linter.unusedSimpArgs false

abbrev put4 (W : World) (k : Nat) (x y z u : Value) : World := (((W.setCell ⟨k, 0, none⟩ x).setCell ⟨k, 1, none⟩ y).setCell ⟨k, 2, none⟩ z).setCell ⟨k, 3, none⟩ u
theorem put4_row {W : World} {k : Nat} {a b c d : Value} {t : TypeId} (h : W.heap[k]? = some (.cells #[a, b, c, d] t (0, 0))) (x y z u : Value) : (put4 W k x y z u).heap[k]? = some (.cells #[x, y, z, u] t (0, 0)) :=
  set_row (set_row (set_row (set_row h 0 x) 1 y) 2 z) 3 u
theorem put4_far {W : World} {k c : Nat} (h : c ≠ k) (x y z u : Value) : (put4 W k x y z u).heap[c]? = W.heap[c]? :=
  (set_far rfl h _ _).trans ((set_far rfl h _ _).trans ((set_far rfl h _ _).trans (set_far rfl h _ _)))
theorem Below.put4 {n : Nat} {A B : World} (h : Below n A B) {k : Nat} (hp : n ≤ k) (x y z u : Value) : Below n A (put4 B k x y z u) :=
  (((h.setCell (p := ⟨k, 0, none⟩) hp _).setCell (p := ⟨k, 1, none⟩) hp _).setCell (p := ⟨k, 2, none⟩) hp _).setCell (p := ⟨k, 3, none⟩) hp _
theorem cel4 {W : World} {k : Nat} {a b c d : Value} {t : TypeId} (h : W.heap[k]? = some (.cells #[a, b, c, d] t (0, 0))) :
    (W.cell? ⟨k, 0, none⟩ = some a ∧ W.cell? ⟨k, 1, none⟩ = some b ∧ W.cell? ⟨k, 2, none⟩ = some c ∧ W.cell? ⟨k, 3, none⟩ = some d) ∧ W.frozen? ⟨k, 0, none⟩ = false ∧ W.frozen? ⟨k, 1, none⟩ = false ∧ W.frozen? ⟨k, 2, none⟩ = false ∧ W.frozen? ⟨k, 3, none⟩ = false :=
  ⟨⟨row_cell h 0 _ rfl, row_cell h 1 _ rfl, row_cell h 2 _ rfl, row_cell h 3 _ rfl⟩, row_free h 0, row_free h 1, row_free h 2, row_free h 3⟩
abbrev z4 : Obj := .cells #[.int .i64 0, .int .i64 0, .int .i64 0, .int .i64 0] 33
set_option maxRecDepth 100000 in
set_option maxHeartbeats 4000000 in
theorem get_any (a : Option Addr) (n cap : Nat) (l : List SN) (key : Int) (w : World) (hr : RdS w a n cap l) : Calls Try.prog 19 #[.slice a n cap, .int .i64 key] w fun e w' => e = .returned (getL key l).val ∧ Below w.heap.size w w' := by
  have b0 : Below w.heap.size w (w.alloc z4) := (Below.refl _ _).alloc (Nat.le_refl _) _
  have T0 : (w.alloc z4).heap[w.heap.size]? = some z4 := heap_new rfl
  have HR := hr.below b0
  have K := place_any a n cap l key (w.alloc z4) HR
  have HG : Hid (getL key l = getS key l) := (getS_L key l).symm
  cases hh : hitS key l with
  | false =>
    have HG2 : Hid (getL key l = ⟨key, 0, 0, 0⟩) := by show _ = _; rw [HG.out]; unfold getS; rw [hh]; rfl
    rw [hh, toN_false] at K
    obtain ⟨p, hp⟩ : ∃ p, posS key l = p := ⟨_, rfl⟩
    rw [hp] at K
    clear hp hh HG HR hr
    go_enter Try.func19, Try.ntmps19
    go_wp2_with (go_at_call 44; refine K.mono ?_; rintro e w1 ⟨rfl, b1⟩; have T1 := (b1.block _ (row_lt T0)).trans T0; have ⟨⟨p0, p1, p2, p3⟩, q0, q1, q2, q3⟩ := cel4 T1)
    have T1 := (b1.block _ (row_lt T0)).trans T0
    refine bodyPost_ret (results_row1 rfl _ _ w.heap.size _ rfl (load_33 (d := ⟨key, 0, 0, 0⟩) (put4_row T1 _ _ _ _))) rfl ⟨by rw [HG2.out], ?_⟩
    exact Below.put4 (b0.trans (b1.mono b0.size)) (Nat.le_refl _) _ _ _ _
  | true =>
    have hpl : posS key l < n := by have := hit_lt hh; rw [hr.size] at this; exact this
    have HG2 : Hid (getL key l = l.getD (posS key l) SN.z) := by show _ = _; rw [HG.out]; unfold getS; rw [hh]; rfl
    rw [hh, toN_true] at K
    obtain ⟨p, hp⟩ : ∃ p, posS key l = p := ⟨_, rfl⟩
    rw [hp] at K hpl HG2
    obtain ⟨b, off, rfl, hb, hd, hra⟩ := HR.at p hpl
    obtain ⟨⟨peer, boot, life, mine⟩, hri⟩ : ∃ r, l.getD p SN.z = r := ⟨_, rfl⟩
    rw [hri] at hra HG2
    have hpI : (p : Int) < (n : Int) := by omega
    have hpe : ((p : Int) == (p : Int) + 1) = false := by simp; omega
    have RR : ∀ W, Below (w.alloc z4).heap.size (w.alloc z4) W → W.rangeAt b (off + p * 4) (SN.cells ⟨peer, boot, life, mine⟩) := fun W h => range_later hra hb h
    clear hp hh HG HR hr hpl hri hd hra
    go_enter Try.func19, Try.ntmps19
    go_wp2_with (first
      | (go_at_call 44; refine K.mono ?_; rintro e w1 ⟨rfl, b1⟩; have T1 := (b1.block _ (row_lt T0)).trans T0; have ⟨⟨p0, p1, p2, p3⟩, q0, q1, q2, q3⟩ := cel4 T1)
      | ((with_reducible show wpList _ _ _ (Oper.mk _ (Op.load 33 (Operand.tmp 20)) _ _ _ _ :: _) _ _); refine wpList_load33x rfl _ rfl b (off + p * 4) peer boot life mine rfl (RR _ b1) ?_))
    have T1 := (b1.block _ (row_lt T0)).trans T0
    refine bodyPost_ret (results_row1 rfl _ _ w.heap.size _ rfl (load_33 (d := ⟨peer, boot, life, mine⟩) (put4_row T1 _ _ _ _))) rfl ⟨by rw [HG2.out], ?_⟩
    exact Below.put4 (b0.trans (b1.mono b0.size)) (Nat.le_refl _) _ _ _ _
set_option maxRecDepth 100000 in
set_option maxHeartbeats 4000000 in
theorem rget_any (a : Option Addr) (n cap : Nat) (l : List SN) (key : Int) (w : World) (hr : RdS w a n cap l) (hrise : l.Pairwise (fun x y => x.peer < y.peer)) : Calls Try.prog 20 #[.slice a n cap, .int .i64 key] w fun e w' => e = .returned (getL key l).val ∧ Below w.heap.size w w' := by
  have HN : Hid (n ≤ 140737488355328) := hr.small
  have HL : Hid (l.length = n) := hr.size
  have b0 : Below w.heap.size w (w.alloc z4) := (Below.refl _ _).alloc (Nat.le_refl _) _
  have T0 : (w.alloc z4).heap[w.heap.size]? = some z4 := heap_new rfl
  have HR := hr.below b0
  have HRI : Hid (l.Pairwise (fun x y => x.peer < y.peer)) := hrise
  obtain ⟨W0, hW0⟩ : ∃ W0, w.alloc z4 = W0 := ⟨_, rfl⟩
  rw [hW0] at b0 T0 HR
  have HW : Hid (w.alloc z4 = W0) := hW0
  have ⟨⟨p0, p1, p2, p3⟩, q0, q1, q2, q3⟩ := cel4 T0
  clear hW0 hrise
  go_enter Try.func20, Try.ntmps20
  go_wp2_with (fail)
  rw [HW.out]
  go_loopg [5] n (fun gk v5 wr => ∃ i : Nat, v5 = .int .i64 (i : Int) ∧ i + gk = n ∧ wr = W0 ∧ ∀ j, j < i → (l.getD j SN.z).peer ≠ key)
  case atStart => exact ⟨0, by first | rfl | go_num, by omega, rfl, fun j hj => by omega⟩
  case round =>
    obtain ⟨i, rfl, hgk, rfl, hno⟩ := hrel
    have HNO : Hid (∀ j, j < i → (l.getD j SN.z).peer ≠ key) := hno
    clear hno
    by_cases hi : i < n
    case pos =>
      have HI : Hid (i < n) := hi
      have hiI : (i : Int) < (n : Int) := by omega
      have hwr : IntKind.i64.wrap ((i : Int) + 1) = (i : Int) + 1 := by rw [IntKind.wrap_i64]; have := HN.out; omega
      obtain ⟨b, off, rfl, hb, hd, hra⟩ := HR.at i hi
      obtain ⟨⟨peer, boot, life, mine⟩, hri⟩ : ∃ r, l.getD i SN.z = r := ⟨_, rfl⟩
      rw [hri] at hra
      have HX : Hid (l.getD i SN.z = ⟨peer, boot, life, mine⟩) := hri
      have x0 : wr.cell? ⟨b, off + i * 4, none⟩ = some (.int .i64 peer) := hra 0 _ rfl
      clear hri hd hi
      by_cases hk : peer = key
      case pos =>
        have hkb : (peer == key) = true := by simpa using hk
        have HG2 : Hid (getL key l = ⟨peer, boot, life, mine⟩) := by
          show _ = _
          have hil : i < l.length := by rw [HL.out]; exact HI.out
          have h1 := has_at hil HRI.out (k := key) (by rw [← getD_get _ _ hil, HX.out]; exact hk)
          rw [← getS_L, getS, h1.2, h1.1]
          exact HX.out
        clear hk
        go_wp2_with ((with_reducible show wpList _ _ _ (Oper.mk _ (Op.load 33 (Operand.tmp 21)) _ _ _ _ :: _) _ _); refine wpList_load33x rfl _ rfl b (off + i * 4) peer boot life mine rfl hra ?_)
        refine bodyPost_ret (results_row1 rfl _ _ w.heap.size _ rfl (load_33 (d := ⟨peer, boot, life, mine⟩) (put4_row T0 _ _ _ _))) rfl ⟨by rw [HG2.out], ?_⟩
        exact Below.put4 b0 (Nat.le_refl _) _ _ _ _
      case neg =>
        have hkb : (peer == key) = false := by simpa using hk
        have HK : Hid (peer ≠ key) := hk
        clear hk hra
        go_wp2
        go_roundg (gk - 1)
        case measure => have := HI.out; omega
        case rel =>
          refine ⟨i + 1, by first | rfl | go_num, by have := HI.out; omega, rfl, fun j hj => ?_⟩
          by_cases e : j = i
          · rw [e, HX.out]; exact HK.out
          · exact HNO.out j (by omega)
    case neg =>
      have HG2 : Hid (getL key l = ⟨key, 0, 0, 0⟩) := by
        show _ = _
        have := has_no (k := key) (l := l) (fun j hj => HNO.out j (by rw [HL.out] at hj; omega))
        rw [← getS_L, getS, this]
        rfl
      have hiI : ¬ (i : Int) < (n : Int) := by omega
      clear hi
      go_wp2
      refine bodyPost_ret (results_row1 rfl _ _ w.heap.size _ rfl (load_33 (d := ⟨key, 0, 0, 0⟩) (put4_row T0 _ _ _ _))) rfl ⟨by rw [HG2.out], ?_⟩
      exact Below.put4 b0 (Nat.le_refl _) _ _ _ _
set_option maxHeartbeats 4000000 in
theorem scopied_any (a : Option Addr) (n cap : Nat) (l : List SN) (w : World) (hr : RdS w a n cap l) : Calls Try.prog 16 #[.slice a n cap] w fun e w' => ∃ a' cap', e = .returned (.slice a' n cap') ∧ LstS w' a' n cap' l ∧ (∀ g off, a' = some ⟨g, off, none⟩ → w.heap.size ≤ g) ∧ Below w.heap.size w w' := by
  go_enter Try.func16, Try.ntmps16
  go_wp2_with ((with_reducible show wpList _ _ _ (Oper.mk _ (Op.call { callee := Callee.builtin Builtin.append, args := _, argTypes := #[22, 22] }) _ _ _ _ :: _) _ _); go_must (refine wpList_copy_lstS rfl _ _ rfl rfl rfl hr ?_; intro a1 c1 w1 L1 o1 b1))
  go_ret
  exact ⟨a1, c1, rfl, L1, o1, b1⟩
set_option maxHeartbeats 4000000 in
theorem sown_any (a : Option Addr) (n cap : Nat) (l : List SN) (w : World) (hr : RdS w a n cap l) : Calls Try.prog 43 #[.slice a n cap] w fun e w' => ∃ a' cap', e = .returned (.slice a' n cap') ∧ LstS w' a' n cap' l ∧ (∀ g off, a' = some ⟨g, off, none⟩ → w.heap.size ≤ g) ∧ Below w.heap.size w w' := by
  go_enter Try.func43, Try.ntmps43
  go_wp2_with ((with_reducible show wpList _ _ _ (Oper.mk _ (Op.call { callee := Callee.builtin Builtin.append, args := _, argTypes := #[22, 22] }) _ _ _ _ :: _) _ _); go_must (refine wpList_copy_lstS rfl _ _ rfl rfl rfl hr ?_; intro a1 c1 w1 L1 o1 b1))
  go_ret
  exact ⟨a1, c1, rfl, L1, o1, b1⟩
set_option maxRecDepth 100000 in
set_option maxHeartbeats 4000000 in
theorem rsame_any (a a' : Option Addr) (n cap cap' : Nat) (l : List SN) (w : World) (hr : RdS w a n cap l) (hr' : RdS w a' n cap' l) : Calls Try.prog 21 #[.slice a n cap, .slice a' n cap'] w fun e w' => e = .returned (.bool true) ∧ Below w.heap.size w w' := by
  have HN : Hid (n ≤ 140737488355328) := hr.small
  go_enter Try.func21, Try.ntmps21
  go_wp2
  go_loopg [5] n (fun gk v5 wr => ∃ i : Nat, v5 = .int .i64 (i : Int) ∧ i + gk = n ∧ Below w.heap.size w wr)
  case atStart => exact ⟨0, by first | rfl | go_num, by omega, Below.refl _ _⟩
  case round =>
    obtain ⟨i, rfl, hgk, B⟩ := hrel
    by_cases hi : i < n
    case pos =>
      have HI : Hid (i < n) := hi
      have hiI : (i : Int) < (n : Int) := by omega
      have hwr : IntKind.i64.wrap ((i : Int) + 1) = (i : Int) + 1 := by rw [IntKind.wrap_i64]; have := HN.out; omega
      obtain ⟨b, off, rfl, hb, hd, hra⟩ := (hr.below B).at i hi
      obtain ⟨b', off', rfl, hb', hd', hra'⟩ := (hr'.below B).at i hi
      obtain ⟨⟨peer, boot, life, mine⟩, hri⟩ : ∃ r, l.getD i SN.z = r := ⟨_, rfl⟩
      rw [hri] at hra hra'
      clear hri hd hd' hi
      go_wp2_with (fail)
      refine wp_region_any (by kernel_rfl) ?_
      change wpAny _ _ _ _ _ _ _ (World.drew _)
      refine wpAny_narrow (fun W' => W'.rangeAt b (off + i * 4) (SN.cells ⟨peer, boot, life, mine⟩) ∧ W'.rangeAt b' (off' + i * 4) (SN.cells ⟨peer, boot, life, mine⟩)) _ _ _ _ ?_
      refine anyH_take 0 17 (.slice (some ⟨b, off, none⟩) n cap) rfl rfl (by kernel_rfl) (by kernel_rfl) (by kernel_rfl) (fun _ _ _ h => h) (Or.inl ⟨by rfl, by intro w hSw; go_simp⟩) (⟨hra, hra'⟩) ?_
      try simp only [Act.put, List.setIfInBounds_toArray, List.set_cons_zero, List.set_cons_succ]
      refine anyH_take 1 18 (.int .i64 (i : Int)) rfl rfl (by kernel_rfl) (by kernel_rfl) (by kernel_rfl) (fun _ _ _ h => h) (Or.inl ⟨by rfl, by intro w hSw; go_simp⟩) (⟨hra, hra'⟩) ?_
      try simp only [Act.put, List.setIfInBounds_toArray, List.set_cons_zero, List.set_cons_succ]
      refine anyH_take 2 19 (.pointer (some ⟨b, off + i * 4, none⟩)) rfl rfl (by kernel_rfl) (by kernel_rfl) (by kernel_rfl) (fun _ _ _ h => h) (Or.inl ⟨by rfl, by intro w hSw; go_simp⟩) (⟨hra, hra'⟩) ?_
      try simp only [Act.put, List.setIfInBounds_toArray, List.set_cons_zero, List.set_cons_succ]
      refine anyH_take 3 20 (.agg #[.int .i64 peer, .int .i64 boot, .int .i64 life, .int .i64 mine]) rfl rfl (by kernel_rfl) (by kernel_rfl) (by kernel_rfl) (fun _ _ _ h => h) (Or.inl ⟨by rfl, fun X hSw => exec_load33 rfl b (off + i * 4) ⟨peer, boot, life, mine⟩ rfl hSw.1⟩) (⟨hra, hra'⟩) ?_
      try simp only [Act.put, List.setIfInBounds_toArray, List.set_cons_zero, List.set_cons_succ]
      refine anyH_take 4 21 (.slice (some ⟨b', off', none⟩) n cap') rfl rfl (by kernel_rfl) (by kernel_rfl) (by kernel_rfl) (fun _ _ _ h => h) (Or.inl ⟨by rfl, by intro w hSw; go_simp⟩) (⟨hra, hra'⟩) ?_
      try simp only [Act.put, List.setIfInBounds_toArray, List.set_cons_zero, List.set_cons_succ]
      refine anyH_take 5 22 (.int .i64 (i : Int)) rfl rfl (by kernel_rfl) (by kernel_rfl) (by kernel_rfl) (fun _ _ _ h => h) (Or.inl ⟨by rfl, by intro w hSw; go_simp⟩) (⟨hra, hra'⟩) ?_
      try simp only [Act.put, List.setIfInBounds_toArray, List.set_cons_zero, List.set_cons_succ]
      refine anyH_take 6 23 (.pointer (some ⟨b', off' + i * 4, none⟩)) rfl rfl (by kernel_rfl) (by kernel_rfl) (by kernel_rfl) (fun _ _ _ h => h) (Or.inl ⟨by rfl, by intro w hSw; go_simp⟩) (⟨hra, hra'⟩) ?_
      try simp only [Act.put, List.setIfInBounds_toArray, List.set_cons_zero, List.set_cons_succ]
      refine anyH_take 7 24 (.agg #[.int .i64 peer, .int .i64 boot, .int .i64 life, .int .i64 mine]) rfl rfl (by kernel_rfl) (by kernel_rfl) (by kernel_rfl) (fun _ _ _ h => h) (Or.inl ⟨by rfl, fun X hSw => exec_load33 rfl b' (off' + i * 4) ⟨peer, boot, life, mine⟩ rfl hSw.2⟩) (⟨hra, hra'⟩) ?_
      try simp only [Act.put, List.setIfInBounds_toArray, List.set_cons_zero, List.set_cons_succ]
      refine anyH_take 8 25 (.bool false) rfl rfl (by kernel_rfl) (by kernel_rfl) (by kernel_rfl) (fun _ _ _ h => h) (Or.inl ⟨by rfl, fun X hSw => (exec_neq33 rfl peer boot life mine peer boot life mine rfl rfl X).trans (by rw [same33_self]; rfl)⟩) (⟨hra, hra'⟩) ?_
      try simp only [Act.put, List.setIfInBounds_toArray, List.set_cons_zero, List.set_cons_succ]
      refine wpAnyH_done (by kernel_rfl) ?_ _
      go_wp2
      go_roundg (gk - 1)
      case measure => have := HI.out; omega
      case rel => exact ⟨i + 1, by first | rfl | go_num, by have := HI.out; omega, B.drew⟩
    case neg =>
      have hiI : ¬ (i : Int) < (n : Int) := by omega
      go_wp2
      go_ret
      exact ⟨rfl, B⟩
end Go.Proofs.Yteoiogjaecpddaa
