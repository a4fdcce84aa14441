/-
  Package trade: what the document's Play returns.
-/
import Derived.Test.YtcjdfnfaiocdjaaT9
import Derived.Deep.DeepMust
namespace Go.Proofs.Ytcjdfnfaiocdjaa
open Go.ChangeShapes Go.WideShapes Go.ChangeAt Go.RowKit
set_option linter.unusedVariables false
set_option linter.unusedSimpArgs false
set_option maxRecDepth 100000 in
set_option maxHeartbeats 2000000 in
theorem rplay_err (v p f a b ra rb n c : Int) (w : World) (h : ends v p f a b ra rb = ⟨0, 0, c⟩) (hc : (c != 0) = true) : Calls Try.prog 16 #[.int .i64 a, .int .i64 b, rg v p f, .int .i64 ra, .int .i64 rb, .int .i64 n] w fun e w' => e = .returned (pvV ⟨0, 0, 0, [], c⟩ none 0) ∧ Below w.heap.size w w' := by
  have K8 := fun w => rends_any v p f a b ra rb w
  rw [h] at K8
  clear h
  go_enter Try.func16, Try.ntmps16
  go_wp2_with (first | (go_at_call 9; refine (K8 _).mono ?_; clear K8; rintro e w1 ⟨rfl, hb⟩; have T1 := ((Tri.new w (.int .i64 v) (.int .i64 p) (.int .i64 f) 23).alloc (.cells #[.int .i64 0, .int .i64 0, .int .i64 0] 23)).below hb; have T2 := ((Tri.new (w.alloc (.cells #[.int .i64 v, .int .i64 p, .int .i64 f] 23)) (.int .i64 0) (.int .i64 0) (.int .i64 0) 23).below hb).at (k' := w.heap.size + 1) (by simp); have hB : Below w.heap.size w w1 := Below.trans (by go_grown) (hb.mono (by simp; omega)); have HZ1 : Hid (w.heap.size + 2 ≤ w1.heap.size) := (by have := hb.size; simp at this; exact this); clear hb; obtain ⟨c0, c1, c2, d0, d1, d2, z1⟩ := _root_.id T2))
  exact bodyPost_ret (v := pvV ⟨0, 0, 0, [], c⟩ none 0) (by simp [results, Try.results16, go_sem, c0, c1, c2, d0, d1, d2, z1]) rfl ⟨rfl, by go_grown⟩
set_option maxRecDepth 100000 in
set_option maxHeartbeats 8000000 in
theorem rplay_ok (v p f a b ra rb n y1 y2 : Int) (w : World) (h : ends v p f a b ra rb = ⟨y1, y2, 0⟩) : Calls Try.prog 16 #[.int .i64 a, .int .i64 b, rg v p f, .int .i64 ra, .int .i64 rb, .int .i64 n] w fun e w' => ∃ sl cap, e = .returned (pvV (play v p f a b ra rb n) sl cap) ∧ Row w' sl (play v p f a b ra rb n).l.length (play v p f a b ra rb n).l ∧ Below w.heap.size w w' := by
  have K8 := fun w => rends_any v p f a b ra rb w
  rw [h] at K8
  have HE : Hid ((ends v p f a b ra rb).e = 0) := by show _ = _; rw [h]
  clear h
  have HAS : Hid (asks n ≤ 100) := by
    show _ ≤ _
    unfold asks
    split <;> omega
  obtain ⟨m0, hm0⟩ : ∃ m, (if 100 < n then 100 else n) = m := ⟨_, rfl⟩
  have HA : Hid (asks n = m0.toNat) := by show _ = _; unfold asks; rw [hm0]
  go_enter Try.func16, Try.ntmps16
  go_wp2_with (first | (go_at_call 9; refine (K8 _).mono ?_; clear K8; rintro e w1 ⟨rfl, hb⟩; have T1 := ((Tri.new w (.int .i64 v) (.int .i64 p) (.int .i64 f) 23).alloc (.cells #[.int .i64 0, .int .i64 0, .int .i64 0] 23)).below hb; have T2 := ((Tri.new (w.alloc (.cells #[.int .i64 v, .int .i64 p, .int .i64 f] 23)) (.int .i64 0) (.int .i64 0) (.int .i64 0) 23).below hb).at (k' := w.heap.size + 1) (by simp); have hB : Below w.heap.size w w1 := Below.trans (by go_grown) (hb.mono (by simp; omega)); have HZ1 : Hid (w.heap.size + 2 ≤ w1.heap.size) := (by have := hb.size; simp at this; exact this); clear hb; obtain ⟨c0, c1, c2, d0, d1, d2, z1⟩ := _root_.id T2))
  go_loopg [18, 19] (asks n) (fun gk v18 v19 wr => ∃ (k : Nat) (vv : Value), vv = v18 ∧ v19 = .int .i64 (k : Int) ∧ k + gk = asks n ∧ (k = 0 ∨ (bal v p f b a rb ra).e = 0) ∧
    Tri wr w.heap.size (.int .i64 (pst v p f a b ra rb k).v) (.int .i64 (pst v p f a b ra rb k).p) (.int .i64 (pst v p f a b ra rb k).f) ∧ Tri wr (w.heap.size + 1) (.int .i64 0) (.int .i64 0) (.int .i64 0) ∧
    wr.ownsRow (w.heap.size + 2) 2 1 vv (pst v p f a b ra rb k).l.length ((pst v p f a b ra rb k).l.map iv) ∧ Below w.heap.size w wr ∧ w.heap.size + 2 ≤ wr.heap.size)
  case atStart => exact ⟨0, _, rfl, by first | rfl | go_num, by omega, .inl rfl, T1, T2, World.ownsRow_nil _ _ 2 1, hB, HZ1.out⟩
  case round =>
    clear T1 T2 c0 c1 c2 d0 d1 d2 z1 hB HZ1
    obtain ⟨k, vv, rfl, rfl, hgk, hb0, R, O, L, B, zw⟩ := hrel
    have HZW : Hid (w.heap.size + 2 ≤ wr.heap.size) := zw
    by_cases hi : k < asks n
    case pos =>
      have hiI : (k : Int) < m0 := by have := HA.out; omega
      have hwr : IntKind.i64.wrap ((k : Int) + 1) = (k : Int) + 1 := by rw [IntKind.wrap_i64]; have := HAS.out; omega
      have HLN : Hid ((pst v p f a b ra rb k).l.length = k) := pst_len _ _ _ _ _ _ _ _
      have HKA : Hid (k < asks n) := hi
      have HGK : Hid (k + gk = asks n) := hgk
      have hmod : (k % 2 = 0 ∧ ((k : Int) % 2 == 1) = false) ∨ (k % 2 = 1 ∧ ((k : Int) % 2 == 1) = true) := by
        rcases Nat.mod_two_eq_zero_or_one k with e | e
        · exact .inl ⟨e, by simp; omega⟩
        · exact .inr ⟨e, by simp; omega⟩
      obtain ⟨vs, hvs⟩ : ∃ av cv, vv = .slice av (pst v p f a b ra rb k).l.length cv := by
        rcases L.2 with ⟨e0, h0⟩ | ⟨g', cap, cur, e0, _⟩
        · exact ⟨none, 0, by rw [h0]; exact e0⟩
        · exact ⟨_, cap, e0⟩
      obtain ⟨cv, rfl⟩ := hvs
      clear zw hgk hi
      rcases hmod with ⟨hpar, hmod⟩ | ⟨hpar, hmod⟩
      · have ht : trn (a, ra) (b, rb) k = ((b, rb), (a, ra)) := by unfold trn; rw [if_pos hpar]
        have KB : ∀ w, Calls Try.prog 14 #[.int .i64 b, .int .i64 a, rg (pst v p f a b ra rb k).v (pst v p f a b ra rb k).p (pst v p f a b ra rb k).f, .int .i64 rb, .int .i64 ra] w fun e w' => e = .returned (bvV (balK v p f a b ra rb k)) ∧ Below w.heap.size w w' := fun w => by
          unfold balK; rw [ht]; exact rbal_any _ _ _ _ _ _ _ w
        have hbc : balK v p f a b ra rb k = ⟨0, 0, 0, 0, 31⟩ ∨ balK v p f a b ra rb k = ⟨0, 0, 0, 0, 10⟩ ∨ (balK v p f a b ra rb k).e = 0 := by unfold balK; exact bal_cases _ _ _ _ _ _ _
        by_cases hbe : (balK v p f a b ra rb k).e = 0
        · obtain ⟨HBE, HPS⟩ := balK_ok hb0 hbe
          have HPS' : Hid (pst v p f a b ra rb (k + 1) = ⟨(balK v p f a b ra rb k).v, (balK v p f a b ra rb k).p, (balK v p f a b ra rb k).f, (pst v p f a b ra rb k).l ++ [(balK v p f a b ra rb k).n], 0⟩) := HPS
          have HBE' : Hid ((bal v p f b a rb ra).e = 0) := HBE
          clear hbc HPS HBE hb0 hpar ht
          generalize balK v p f a b ra rb k = BB at *
          generalize pst v p f a b ra rb k = S at *
          obtain ⟨u, q, g, m, e⟩ := BB
          dsimp only at hbe
          subst hbe
          obtain ⟨r0, r1, r2, r3, r4, r5, r6⟩ := _root_.id R
          go_wp2_with (first | (go_at_call 14; refine (KB _).mono ?_; clear KB; rintro e Wb ⟨rfl, bb⟩; have R5 := R.below bb; have O5 := O.below bb; have L5 := owns_later L bb; have B5 := B.trans (bb.mono B.size); have zb := bb.size; clear bb r0 r1 r2 r3 r4 r5 r6; obtain ⟨r0, r1, r2, r3, r4, r5, r6⟩ := _root_.id R5; obtain ⟨o0, o1, o2, o3, o4, o5, o6⟩ := _root_.id O5) | ((with_reducible show wpList _ _ _ (Oper.mk _ (Op.call { callee := Callee.builtin Builtin.append, args := _, argTypes := #[42, 42] }) _ _ _ _ :: _) _ _); go_must (refine wpList_append_int rfl _ _ rfl (w.heap.size + 2) _ _ _ rfl (((owns_of_block L5 (fun g' hg' => put3_far (W := Wb) (k := w.heap.size) (by have := (L5.lt g' hg').1; omega) (.int .i64 u) (.int .i64 q) (.int .i64 g))).alloc (.cells #[.int .i64 u, .int .i64 q, .int .i64 g] 23)).alloc (.cells #[.int .i64 m] 2)) ⟨Wb.heap.size + 1, 0, none⟩ m rfl (by have hc1 := cell_one_new ((put3 Wb w.heap.size (.int .i64 u) (.int .i64 q) (.int .i64 g)).alloc (.cells #[.int .i64 u, .int .i64 q, .int .i64 g] 23)) (.int .i64 m) 2; rw [show ((put3 Wb w.heap.size (.int .i64 u) (.int .i64 q) (.int .i64 g)).alloc (.cells #[.int .i64 u, .int .i64 q, .int .i64 g] 23)).heap.size = Wb.heap.size + 1 from (by rw [World.size_alloc, put3_size])] at hc1; exact hc1) (by have := HLN.out; have := HKA.out; have := HAS.out; omega) (by have := B5.size; have := HZW.out; simp [World.setCell]; omega) ?_; intro g3 cap3 w3 O3 r3x)))
          have zb1 : Wb.heap.size ≤ w3.heap.size := by have := r3x.size; simp [World.setCell] at this; omega
          have low : ∀ q', q' < w.heap.size + 2 → w3.heap[q']? = (put3 Wb w.heap.size (.int .i64 u) (.int .i64 q) (.int .i64 g)).heap[q']? := fun q' hq' => by
            refine (r3x.block q' (by simp [World.setCell]; have := HZW.out; omega) (fun e => by have := (L5.lt q' e.symm).1; omega)).trans ?_
            exact (Below.heap_alloc _ _ _ (by simp [World.setCell]; have := HZW.out; omega)).trans (Below.heap_alloc _ _ _ (by rw [put3_size]; have := HZW.out; omega))
          have R6 : Tri w3 w.heap.size (.int .i64 u) (.int .i64 q) (.int .i64 g) := (R5.store _ _ _).of_block (low _ (by omega)) (by rw [put3_size]; exact zb1)
          have O6 : Tri w3 (w.heap.size + 1) (.int .i64 0) (.int .i64 0) (.int .i64 0) := (O5.far (k := w.heap.size) (by omega) _ _ _).of_block (low _ (by omega)) (by rw [put3_size]; exact zb1)
          have B6 : Below w.heap.size w w3 := Below.grown (((Below.put3 B5 (Nat.le_refl _) (.int .i64 u) (.int .i64 q) (.int .i64 g)).alloc (by rw [put3_size]; have := B5.size; omega) _).alloc (by simp [World.setCell]; have := B5.size; omega) _) r3x (by simp [World.setCell]; have := B5.size; omega) (fun j e => by have := (L5.lt j e).1; omega)
          have z6 : w.heap.size + 2 ≤ w3.heap.size := by have := HZW.out; omega
          go_roundg (gk - 1)
          case measure => have := HKA.out; have := HGK.out; omega
          case rel =>
            refine ⟨k + 1, _, rfl, by first | rfl | go_num, by have := HKA.out; have := HGK.out; omega, .inr HBE'.out, ?_, O6, ?_, B6, z6⟩
            · rw [HPS'.out]; exact R6
            · rw [HPS'.out]; dsimp only; rw [List.length_append, List.map_append]; exact O3
        · obtain ⟨hk0, hce⟩ := balK_bad hb0 hbe
          obtain ⟨c, hcc, hc0⟩ : ∃ c, balK v p f a b ra rb k = ⟨0, 0, 0, 0, c⟩ ∧ (c != 0) = true := by
            rcases hbc with h | h | h
            · exact ⟨31, h, by decide⟩
            · exact ⟨10, h, by decide⟩
            · exact absurd h hbe
          have HPL : Hid (play v p f a b ra rb n = ⟨0, 0, 0, [], c⟩) := by
            show _ = _
            rw [play_bad HE.out (by have := HKA.out; omega) (by rw [hce]; exact hbe), hce, hcc]
          rw [hcc] at KB
          clear hbc hcc hce hbe hb0 hk0 hpar ht
          generalize pst v p f a b ra rb k = S at *
          obtain ⟨r0, r1, r2, r3, r4, r5, r6⟩ := _root_.id R
          go_wp2_with (first | (go_at_call 14; refine (KB _).mono ?_; clear KB; rintro e Wb ⟨rfl, bb⟩; have R5 := R.below bb; have O5 := O.below bb; have L5 := owns_later L bb; have B5 := B.trans (bb.mono B.size); have zb := bb.size; clear bb r0 r1 r2 r3 r4 r5 r6; obtain ⟨r0, r1, r2, r3, r4, r5, r6⟩ := _root_.id R5; obtain ⟨o0, o1, o2, o3, o4, o5, o6⟩ := _root_.id O5))
          refine bodyPost_ret (v := pvV ⟨0, 0, 0, [], c⟩ none 0) (by simp [results, Try.results16, go_sem, o0, o1, o2, o3, o4, o5, o6]) rfl ?_
          rw [HPL.out]
          exact ⟨none, 0, rfl, ⟨rfl, Nat.zero_le _, fun k => by simp, .inl rfl⟩, by go_grown⟩
      · have ht : trn (a, ra) (b, rb) k = ((a, ra), (b, rb)) := by unfold trn; rw [if_neg (by omega)]
        have KB : ∀ w, Calls Try.prog 14 #[.int .i64 a, .int .i64 b, rg (pst v p f a b ra rb k).v (pst v p f a b ra rb k).p (pst v p f a b ra rb k).f, .int .i64 ra, .int .i64 rb] w fun e w' => e = .returned (bvV (balK v p f a b ra rb k)) ∧ Below w.heap.size w w' := fun w => by
          unfold balK; rw [ht]; exact rbal_any _ _ _ _ _ _ _ w
        have hbe : (balK v p f a b ra rb k).e = 0 := by
          by_cases c : (balK v p f a b ra rb k).e = 0
          · exact c
          · have := (balK_bad hb0 c).1; omega
        obtain ⟨HBE, HPS⟩ := balK_ok hb0 hbe
        have HPS' : Hid (pst v p f a b ra rb (k + 1) = ⟨(balK v p f a b ra rb k).v, (balK v p f a b ra rb k).p, (balK v p f a b ra rb k).f, (pst v p f a b ra rb k).l ++ [(balK v p f a b ra rb k).n], 0⟩) := HPS
        have HBE' : Hid ((bal v p f b a rb ra).e = 0) := HBE
        clear HPS HBE hb0 hpar ht
        generalize balK v p f a b ra rb k = BB at *
        generalize pst v p f a b ra rb k = S at *
        obtain ⟨u, q, g, m, e⟩ := BB
        dsimp only at hbe
        subst hbe
        obtain ⟨r0, r1, r2, r3, r4, r5, r6⟩ := _root_.id R
        go_wp2_with (first | (go_at_call 14; refine (KB _).mono ?_; clear KB; rintro e Wb ⟨rfl, bb⟩; have R5 := R.below bb; have O5 := O.below bb; have L5 := owns_later L bb; have B5 := B.trans (bb.mono B.size); have zb := bb.size; clear bb r0 r1 r2 r3 r4 r5 r6; obtain ⟨r0, r1, r2, r3, r4, r5, r6⟩ := _root_.id R5; obtain ⟨o0, o1, o2, o3, o4, o5, o6⟩ := _root_.id O5) | ((with_reducible show wpList _ _ _ (Oper.mk _ (Op.call { callee := Callee.builtin Builtin.append, args := _, argTypes := #[42, 42] }) _ _ _ _ :: _) _ _); go_must (refine wpList_append_int rfl _ _ rfl (w.heap.size + 2) _ _ _ rfl (((owns_of_block L5 (fun g' hg' => put3_far (W := Wb) (k := w.heap.size) (by have := (L5.lt g' hg').1; omega) (.int .i64 u) (.int .i64 q) (.int .i64 g))).alloc (.cells #[.int .i64 u, .int .i64 q, .int .i64 g] 23)).alloc (.cells #[.int .i64 m] 2)) ⟨Wb.heap.size + 1, 0, none⟩ m rfl (by have hc1 := cell_one_new ((put3 Wb w.heap.size (.int .i64 u) (.int .i64 q) (.int .i64 g)).alloc (.cells #[.int .i64 u, .int .i64 q, .int .i64 g] 23)) (.int .i64 m) 2; rw [show ((put3 Wb w.heap.size (.int .i64 u) (.int .i64 q) (.int .i64 g)).alloc (.cells #[.int .i64 u, .int .i64 q, .int .i64 g] 23)).heap.size = Wb.heap.size + 1 from (by rw [World.size_alloc, put3_size])] at hc1; exact hc1) (by have := HLN.out; have := HKA.out; have := HAS.out; omega) (by have := B5.size; have := HZW.out; simp [World.setCell]; omega) ?_; intro g3 cap3 w3 O3 r3x)))
        have zb1 : Wb.heap.size ≤ w3.heap.size := by have := r3x.size; simp [World.setCell] at this; omega
        have low : ∀ q', q' < w.heap.size + 2 → w3.heap[q']? = (put3 Wb w.heap.size (.int .i64 u) (.int .i64 q) (.int .i64 g)).heap[q']? := fun q' hq' => by
          refine (r3x.block q' (by simp [World.setCell]; have := HZW.out; omega) (fun e => by have := (L5.lt q' e.symm).1; omega)).trans ?_
          exact (Below.heap_alloc _ _ _ (by simp [World.setCell]; have := HZW.out; omega)).trans (Below.heap_alloc _ _ _ (by rw [put3_size]; have := HZW.out; omega))
        have R6 : Tri w3 w.heap.size (.int .i64 u) (.int .i64 q) (.int .i64 g) := (R5.store _ _ _).of_block (low _ (by omega)) (by rw [put3_size]; exact zb1)
        have O6 : Tri w3 (w.heap.size + 1) (.int .i64 0) (.int .i64 0) (.int .i64 0) := (O5.far (k := w.heap.size) (by omega) _ _ _).of_block (low _ (by omega)) (by rw [put3_size]; exact zb1)
        have B6 : Below w.heap.size w w3 := Below.grown (((Below.put3 B5 (Nat.le_refl _) (.int .i64 u) (.int .i64 q) (.int .i64 g)).alloc (by rw [put3_size]; have := B5.size; omega) _).alloc (by simp [World.setCell]; have := B5.size; omega) _) r3x (by simp [World.setCell]; have := B5.size; omega) (fun j e => by have := (L5.lt j e).1; omega)
        have z6 : w.heap.size + 2 ≤ w3.heap.size := by have := HZW.out; omega
        go_roundg (gk - 1)
        case measure => have := HKA.out; have := HGK.out; omega
        case rel =>
          refine ⟨k + 1, _, rfl, by first | rfl | go_num, by have := HKA.out; have := HGK.out; omega, .inr HBE'.out, ?_, O6, ?_, B6, z6⟩
          · rw [HPS'.out]; exact R6
          · rw [HPS'.out]; dsimp only; rw [List.length_append, List.map_append]; exact O3
    case neg =>
      have hiI : ¬ (k : Int) < m0 := by have := HA.out; omega
      have hka : k = asks n := by omega
      have HPL : Hid (play v p f a b ra rb n = pst v p f a b ra rb k) := by show _ = _; rw [hka]; exact play_end HE.out (by rw [← hka]; exact hb0)
      have HLN : Hid ((pst v p f a b ra rb k).l.length ≤ 100) := by show _ ≤ _; rw [pst_len]; have := HAS.out; omega
      have HBD : Hid (∀ i : Nat, -9223372036854775808 ≤ (pst v p f a b ra rb k).l.getD i 0 ∧ (pst v p f a b ra rb k).l.getD i 0 ≤ 9223372036854775807) := fun i => pst_bd _ _ _ _ _ _ _ _ i
      have HPE : Hid ((pst v p f a b ra rb k).e = 0) := pst_e _ _ _ _ _ _ _ _
      clear hka hb0 zw hi hgk
      generalize pst v p f a b ra rb k = S at *
      obtain ⟨av, cv, rfl⟩ : ∃ av cv, vv = .slice av S.l.length cv := by
        rcases L.2 with ⟨e0, h0⟩ | ⟨g', cap, cur, e0, _⟩
        · exact ⟨none, 0, by rw [h0]; exact e0⟩
        · exact ⟨_, cap, e0⟩
      obtain ⟨r0, r1, r2, r3, r4, r5, r6⟩ := _root_.id R
      obtain ⟨o0, o1, o2, o3, o4, o5, o6⟩ := _root_.id O
      go_wp2
      have L7 := owns_of_block L (fun g' hg' => put3_far (W := wr) (k := w.heap.size + 1) (by have := (L.lt g' hg').1; omega) (.int .i64 S.v) (.int .i64 S.p) (.int .i64 S.f))
      obtain ⟨a7, c7, e7, Rw7⟩ := owns_row L7 HLN.out HBD.out
      refine bodyPost_ret (v := pvV S av cv) (by simp [results, Try.results16, go_sem, o0, o1, o2, o3, o4, o5, o6, HPE.out]) rfl ?_
      rw [HPL.out]
      refine ⟨av, ⟨cv, rfl⟩, ?_, Below.put3 B (by omega) _ _ _⟩
      cases e7
      exact Rw7
theorem rplay_any (v p f a b ra rb n : Int) (w : World) : Calls Try.prog 16 #[.int .i64 a, .int .i64 b, rg v p f, .int .i64 ra, .int .i64 rb, .int .i64 n] w fun e w' => ∃ sl cap, e = .returned (pvV (play v p f a b ra rb n) sl cap) ∧ Row w' sl (play v p f a b ra rb n).l.length (play v p f a b ra rb n).l ∧ Below w.heap.size w w' := by
  rcases ends_cases v p f a b ra rb with h | h | ⟨_, _, _, _, _, h⟩
  · rw [show play v p f a b ra rb n = ⟨0, 0, 0, [], 31⟩ from by unfold play; rw [h]; rfl]
    refine (rplay_err v p f a b ra rb n 31 w h (by decide)).mono ?_
    rintro e w' ⟨rfl, hb⟩
    exact ⟨none, 0, rfl, ⟨rfl, Nat.zero_le _, fun k => by simp, .inl rfl⟩, hb⟩
  · rw [show play v p f a b ra rb n = ⟨0, 0, 0, [], 10⟩ from by unfold play; rw [h]; rfl]
    refine (rplay_err v p f a b ra rb n 10 w h (by decide)).mono ?_
    rintro e w' ⟨rfl, hb⟩
    exact ⟨none, 0, rfl, ⟨rfl, Nat.zero_le _, fun k => by simp, .inl rfl⟩, hb⟩
  · exact rplay_ok v p f a b ra rb n _ _ w h
end Go.Proofs.Ytcjdfnfaiocdjaa
