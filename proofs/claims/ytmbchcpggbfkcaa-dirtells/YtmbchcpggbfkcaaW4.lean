/-
  DirTells.
-/
import Derived.Test.YtmbchcpggbfkcaaW2
import Derived.Test.YtmbchcpggbfkcaaA1
namespace Go.Proofs.Ytmbchcpggbfkcaa
open Go.ChangeShapes Go.WideShapes Go.ChangeAt Go.RowKit Go.Maps Go.Shelf
set_option linter.unusedVariables false
set_option linter.unusedSimpArgs false

set_option maxRecDepth 100000 in
set_option maxHeartbeats 8000000 in
theorem tells_walk (a : Option Addr) (n cap : Nat) (l : List CH) (nm : ByteArray) (ep mr : Int) (al : Bool) (kd sc : Int) (name : ByteArray) (w : World) (hr : RdC w a n cap l) (hl : Hid (∀ x, x ∈ l → (x.nm.size : Int) ≤ 9223372036854775807)) (hc : Hid ((nm.size : Int) ≤ 9223372036854775807)) :
    Calls Try.prog 4 #[.slice a n cap, chv nm ep mr al kd sc, .string name] w fun e w' => e = .returned (.bool true) ∧ Below w.heap.size w w' := by
  have M := Mem.nil w
  have KA := fun W (b : Below w.heap.size w W) => rfits_any a n cap l W (hr.below b) hl.out
  have KC := fun w => rfit_any nm ep mr al kd sc w hc
  cases hfa : fitsB l with
  | false =>
    rw [hfa] at KA
    clear hfa hr
    go_enter Try.func4, Try.ntmps4
    go_wp2_with (first
      | ((with_reducible show wpList _ _ _ (Oper.mk (some 4) (Op.box 23 _) _ _ _ _ :: _) _ _); refine wpList_box M rfl _ rfl _ rfl ?_; clear M; intro k4 W M)
      | ((with_reducible show wpList _ _ _ (Oper.mk _ (Op.load 23 _) _ _ _ _ :: _) _ _); refine wpList_load M (by rfl) _ rfl rt23 rfl (by first | exact .head _ | exact .tail _ (.head _)) (by rfl) ?_)
      | (go_at_call 14; refine (KA _ M.below).mono ?_; clear KA; rintro e W1 ⟨rfl, b1⟩; replace M := M.later b1; clear b1)
      | (go_at_call 12; refine (KC _).mono ?_; clear KC; rintro e W1 ⟨rfl, b1⟩; replace M := M.later b1; clear b1)
      | (go_at_call 17; refine (awake_any _).mono ?_; rintro e W9 ⟨rfl, b9⟩; replace M := M.later b9; clear b9))
    go_ret
    exact ⟨rfl, M.below⟩
  | true =>
  rw [hfa] at KA
  cases hfc : CH.fit ⟨nm, ep, mr, al, kd, sc⟩ with
  | false =>
    rw [hfc] at KC
    clear hfa hfc hr
    go_enter Try.func4, Try.ntmps4
    go_wp2_with (first
      | ((with_reducible show wpList _ _ _ (Oper.mk (some 4) (Op.box 23 _) _ _ _ _ :: _) _ _); refine wpList_box M rfl _ rfl _ rfl ?_; clear M; intro k4 W M)
      | ((with_reducible show wpList _ _ _ (Oper.mk _ (Op.load 23 _) _ _ _ _ :: _) _ _); refine wpList_load M (by rfl) _ rfl rt23 rfl (by first | exact .head _ | exact .tail _ (.head _)) (by rfl) ?_)
      | (go_at_call 14; refine (KA _ M.below).mono ?_; clear KA; rintro e W1 ⟨rfl, b1⟩; replace M := M.later b1; clear b1)
      | (go_at_call 12; refine (KC _).mono ?_; clear KC; rintro e W1 ⟨rfl, b1⟩; replace M := M.later b1; clear b1)
      | (go_at_call 17; refine (awake_any _).mono ?_; rintro e W9 ⟨rfl, b9⟩; replace M := M.later b9; clear b9))
    go_ret
    exact ⟨rfl, M.below⟩
  | true =>
  rw [hfc] at KC
  obtain rfl := hr.size
  have h8 := (fitsB_iff.1 hfa).1
  have hri := fitsB_rise hfa
  have K0 := fun W (b : Below w.heap.size w W) => copied_any a cap l W (hr.below b)
  have K1 := fun W a0 c0 (h : LstC W a0 l.length c0 l) => learnF_any a0 l.length c0 l nm ep mr al kd sc W (h.rd (by omega)) (by omega)
  have K2 := fun W (b : Below w.heap.size w W) => rlearn_any a cap l nm ep mr al kd sc W (hr.below b) (by omega) hri
  rw [GL_one _ _ hri, GW_lrn _ _ _ hri] at K1
  have K3 := fun W a0 c0 (h : LstC W a0 l.length c0 l) => find_any a0 l.length c0 l name W (h.rd (by omega))
  have K4 := fun W (b : Below w.heap.size w W) => rfind_any a l.length cap l name W (hr.below b)
  have K5 := fun W a0 c0 (h : LstC W a0 l.length c0 l) => alive_any a0 l.length c0 l W (h.rd (by omega)) (by omega)
  have K6 := fun W (b : Below w.heap.size w W) => ralive_any a l.length cap l W (hr.below b) (by omega)
  have KS3 : ∀ W a0 c0, LstC W a0 l.length c0 l → Below w.heap.size w W → Calls Try.prog 23 #[.slice a0 l.length c0, .slice a l.length cap] W fun e w' => e = .returned (.bool true) ∧ Below W.heap.size W w' := fun W a0 c0 h b => by
    have h9 := same_any a0 a l.length l.length c0 cap l l W (h.rd (by omega)) (hr.below b)
    rw [(sameL_iff l l).2 rfl] at h9
    exact h9
  have g1 : (lrnL l ⟨nm, ep, mr, al, kd, sc⟩).length ≤ 1000 := by have := lrn_len l ⟨nm, ep, mr, al, kd, sc⟩; omega
  have g2 : (l.filter CH.al).length ≤ 100000 := Nat.le_trans (List.length_filter_le _ _) (by omega)
  obtain ⟨X, hX⟩ : ∃ X, lrnL l ⟨nm, ep, mr, al, kd, sc⟩ = X := ⟨_, rfl⟩
  obtain ⟨XW, hXW⟩ : ∃ XW, lrnW l ⟨nm, ep, mr, al, kd, sc⟩ = XW := ⟨_, rfl⟩
  obtain ⟨V, hV⟩ : ∃ V, l.filter CH.al = V := ⟨_, rfl⟩
  rw [hX, hXW] at K1 K2
  rw [hX] at g1
  rw [hV] at K5 K6 g2
  have KS1 := same_self X (by omega)
  have KS2 := same_self V g2
  have HX : Hid (X.length ≤ 1000) := g1
  obtain ⟨b0, hb0⟩ : ∃ b0, (lk name l).isSome = b0 := ⟨_, rfl⟩
  obtain ⟨d0, hd0⟩ : ∃ d0, fdc (lk name l) = d0 := ⟨_, rfl⟩
  unfold fnd at K3 K4
  rw [hb0, hd0] at K3 K4
  obtain ⟨nm0, ep0, mr0, al0, kd0, sc0⟩ := d0
  replace K3 : ∀ W a0 c0, LstC W a0 l.length c0 l → Calls Try.prog 21 #[.slice a0 l.length c0, .string name] W fun e w' => e = .returned (.tuple #[chv nm0 ep0 mr0 al0 kd0 sc0, .bool b0]) ∧ Below W.heap.size W w' := K3
  replace K4 : ∀ W, Below w.heap.size w W → Calls Try.prog 22 #[.slice a l.length cap, .string name] W fun e w' => e = .returned (.tuple #[chv nm0 ep0 mr0 al0 kd0 sc0, .bool b0]) ∧ Below W.heap.size W w' := K4
  have hww : (XW != XW) = false := by simp
  have hbb : (b0 != b0) = false := by simp
  clear hX hXW hV g1 g2 h8 hri hfa hfc hb0 hd0 hr
  go_enter Try.func4, Try.ntmps4
  go_wp2_with (first
      | ((with_reducible show wpList _ _ _ (Oper.mk (some 4) (Op.box 23 _) _ _ _ _ :: _) _ _); refine wpList_box M rfl _ rfl _ rfl ?_; clear M; intro k4 W M)
      | ((with_reducible show wpList _ _ _ (Oper.mk _ (Op.load 23 _) _ _ _ _ :: _) _ _); refine wpList_load M (by rfl) _ rfl rt23 rfl (by first | exact .head _ | exact .tail _ (.head _)) (by rfl) ?_)
      | (go_at_call 14; refine (KA _ M.below).mono ?_; clear KA; rintro e W1 ⟨rfl, b1⟩; replace M := M.later b1; clear b1)
      | (go_at_call 12; refine (KC _).mono ?_; clear KC; rintro e W1 ⟨rfl, b1⟩; replace M := M.later b1; clear b1)
      | (go_at_call 18; refine (K0 _ M.below).mono ?_; clear K0; rintro e W0 ⟨a0, c0, rfl, L0, o0, b0⟩; replace M := M.later b0; clear b0 o0)
      | (go_at_call 19; refine (K1 _ _ _ L0).mono ?_; clear K1; rintro e W1 ⟨a1, c1, rfl, L1, o1, b1⟩; have HNE : Hid (∀ g off g0 off0, a1 = some ⟨g, off, none⟩ → a0 = some ⟨g0, off0, none⟩ → g0 ≠ g) := fun g off g0 off0 e e0 => (by have := o1 g off e; have := L0.lt' e0; omega); have HGW : Hid (∀ g off, a1 = some ⟨g, off, none⟩ → w.heap.size ≤ g) := fun g off e => (by have := o1 g off e; have := M.below.size; omega); replace L0 := L0.below b1; replace M := M.later b1; clear b1 o1)
      | (go_at_call 20; refine (K2 _ M.below).mono ?_; clear K2; rintro e W2 ⟨a2, c2, rfl, L2, o2, b2⟩; replace L0 := L0.below b2; replace L1 := L1.below b2; replace M := M.later b2; clear b2 o2)
      | (go_at_call 21; refine (K3 _ _ _ L0).mono ?_; clear K3; rintro e W5 ⟨rfl, b5⟩; replace L0 := L0.below b5; replace L1 := L1.below b5; replace L2 := L2.below b5; replace M := M.later b5; have B := M.below; clear b5 M; have M := Mem.nil W5)
      | ((with_reducible show wpList _ _ _ (Oper.mk (some 12) (Op.alloc 23) _ _ _ _ :: _) _ _); refine wpList_alloc M rfl rfl rt23 ?_; clear M; intro k12 W M)
      | ((with_reducible show wpList _ _ _ (Oper.mk _ (Op.store 23 _ _) _ _ _ _ :: _) _ _); refine wpList_put M rfl _ _ rfl rt23 0 _ rfl rfl rfl rfl rfl (by simp [Value.oneCell']) ?_; clear M; intro W M; simp only [List.set_cons_zero, List.set_cons_succ] at M)
      | ((with_reducible show wpList _ _ _ (Oper.mk (some 14) (Op.alloc 23) _ _ _ _ :: _) _ _); refine wpList_alloc M rfl rfl rt23 ?_; clear M; intro k14 W M)
      | (go_at_call 22; refine (K4 _ (B.trans (M.below.mono B.size))).mono ?_; clear K4; rintro e W6 ⟨rfl, b6⟩; replace M := M.later b6; clear b6)
      | (go_at_call 23; refine (KS1 _ _ _ _ _ (L1.below M.below) (L2.below M.below)).mono ?_; clear KS1; rintro e W7 ⟨rfl, b7⟩; replace M := M.later b7; clear b7)
      | ((with_reducible show wpList _ _ _ (Oper.mk _ (Op.binOp .neq 23 _ _ 23) _ _ _ _ :: _) _ _); refine wpList_val (by rfl) (.bool false) ((exec_neq23 rfl ⟨nm0, ep0, mr0, al0, kd0, sc0⟩ ⟨nm0, ep0, mr0, al0, kd0, sc0⟩ rfl rfl _).trans (by rw [eqC_self]; rfl)) ?_)
      | (go_at_call 24; refine (K5 _ _ _ (L0.below M.below)).mono ?_; clear K5; rintro e W3 ⟨a3, c3, rfl, L3, o3, b3⟩; replace M := M.later b3; clear b3 o3)
      | (go_at_call 25; refine (K6 _ (B.trans (M.below.mono B.size))).mono ?_; clear K6; rintro e W4 ⟨a4, c4, rfl, L4, o4, b4⟩; replace L3 := L3.below b4; replace M := M.later b4; clear b4 o4)
      | (go_at_call 23; refine (KS2 _ _ _ _ _ L3 L4).mono ?_; clear KS2; rintro e W8 ⟨rfl, b8⟩; replace M := M.later b8; clear b8 L3 L4))
  have LA := L1.below M.below
  have LB := L0.below M.below
  have BB := B.trans (M.below.mono B.size)
  clear L0 L1 L2 M B
  go_loopg [16, 81] X.length (fun gk v16 v81 wr => ∃ i : Nat, v81 = .int .i64 (i : Int) ∧ i + gk = X.length ∧ Only (atL a1) W8 wr ∧ (∀ g off, a1 = some ⟨g, off, none⟩ → ∃ cur, wr.heap[g]? = some (.cells cur 23 (0, 0)) ∧ off + 6 * X.length ≤ cur.size))
  case atStart =>
    refine ⟨0, by first | rfl | go_num, by omega, Only.refl _ _, fun g off e => ?_⟩
    rcases LA.mem with ⟨e0, _⟩ | ⟨g', off', cur, e0, hh, hsz, _⟩
    · rw [e0] at e; cases e
    · rw [e0] at e
      cases e
      exact ⟨cur, hh, by have := LA.le; omega⟩
  case round =>
    obtain ⟨i, rfl, hgk, HO, HC⟩ := hrel
    by_cases hi : i < X.length
    case pos =>
      have HI : Hid (i < X.length) := hi
      have hiI : (i : Int) < (X.length : Int) := by omega
      have hwr : IntKind.i64.wrap ((i : Int) + 1) = (i : Int) + 1 := by rw [IntKind.wrap_i64]; have := HX.out; omega
      rcases LA.mem with ⟨e0, h0⟩ | ⟨g, off, cur0, e0, _, _, _⟩
      · exact absurd LA.le (by omega)
      · subst e0
        obtain ⟨cur, hh, hsz⟩ := HC g off rfl
        have hlt : off + i * 6 < cur.size := by omega
        obtain ⟨v0, hv0⟩ : ∃ v0, cur[off + i * 6]? = some v0 := ⟨_, Array.getElem?_eq_getElem hlt⟩
        have hc1 := row_cell hh (off + i * 6) v0 hv0
        have hf1 := row_free hh (off + i * 6)
        have HH : Hid (wr.heap[g]? = some (.cells cur 23 (0, 0)) ∧ off + 6 * X.length ≤ cur.size) := ⟨hh, hsz⟩
        clear HC hh hsz hlt hv0 hi
        go_wp2
        go_roundg (gk - 1)
        case measure => have := HI.out; omega
        case rel =>
          refine ⟨i + 1, by first | rfl | go_num, by have := HI.out; omega, HO.setCell (fun _ => ⟨off, rfl⟩) _ _, fun g2 off2 e => ?_⟩
          cases e
          exact ⟨_, set_row HH.out.1 _ _, by rw [Array.size_setIfInBounds]; exact HH.out.2⟩
    case neg =>
      have hiI : ¬ (i : Int) < (X.length : Int) := by omega
      have LZ : LstC wr a0 l.length c0 l := LB.of_block (fun g0 off0 e0 => HO.block g0 (LB.lt' e0) (fun ⟨off, e⟩ => HNE.out g0 off g0 off0 e e0 rfl))
      have BZ : Below w.heap.size w wr := BB.trans (HO.below BB.size (fun q hq => by obtain ⟨off, e⟩ := hq; exact HGW.out q off e))
      go_wp2_with (first | (go_at_call 23; refine (KS3 _ _ _ LZ BZ).mono ?_; clear KS3; rintro e W8 ⟨rfl, b8⟩; replace BZ := BZ.trans (b8.mono BZ.size); clear b8) | (go_at_call 17; refine (awake_any _).mono ?_; rintro e W9 ⟨rfl, b9⟩; replace BZ := BZ.trans (b9.mono BZ.size); clear b9))
      go_ret
      exact ⟨rfl, BZ⟩
end Go.Proofs.Ytmbchcpggbfkcaa
