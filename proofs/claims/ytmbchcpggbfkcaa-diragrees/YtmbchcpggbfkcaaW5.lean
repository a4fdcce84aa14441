/-
  DirRises.
-/
import Derived.Test.YtmbchcpggbfkcaaW2
import Derived.Test.YtmbchcpggbfkcaaQ2
namespace Go.Proofs.Ytmbchcpggbfkcaa
open Go.ChangeShapes Go.WideShapes Go.ChangeAt Go.RowKit Go.Maps Go.Shelf
set_option linter.unusedVariables false
set_option linter.unusedSimpArgs false

section
variable {ops : Array Oper} {rest : List Oper} {o : Oper} {A : Act} {w W : World} {l : List Blk} {Q : Exit → Act → World → Prop} {N : Nat} {C : Nat → Prop}
theorem wpList_mk3 (M : MemG N C w W l) (hgd : Region.wanted o (yielded ops A.tmps) = true) (x y z : Operand) (ho : o.op = .buildSlice 48 3 #[(0, x), (1, y), (2, z)]) (a1 a2 a3 : Option Addr) (n1 c1 n2 c2 n3 c3 : Nat) (hx : A.eval x = .slice a1 n1 c1) (hy : A.eval y = .slice a2 n2 c2) (hz : A.eval z = .slice a3 n3 c3)
    (H : ∀ q W', MemG N C w W' ((q, #[.slice a1 n1 c1, .slice a2 n2 c2, .slice a3 n3 c3], 24) :: l) → wpList Try.prog ops Q rest (A.put o.dst (.slice (some ⟨q, 0, none⟩) 3 3)) W') : wpList Try.prog ops Q (o :: rest) A W := by
  have MA := M.add #[.slice a1 n1 c1, .slice a2 n2 c2, .slice a3 n3 c3] 24
  unfold wpList
  rw [if_pos hgd]
  left
  unfold Oper.wp execOp
  simp only [ho]
  simp only [List.map_toArray, List.map_cons, List.map_nil, Array.toList, hx, hy, hz]
  go_simp
  exact H _ _ MA
theorem wpList_str (hgd : Region.wanted o (yielded ops A.tmps) = true) (x : Operand) (ho : o.op = .load 9 x) (k i : Nat) (n : ByteArray) (hx : A.eval x = .pointer (some ⟨k, i, none⟩)) (hc : W.cell? ⟨k, i, none⟩ = some (.string n))
    (H : wpList Try.prog ops Q rest (A.put o.dst (.string n)) W) : wpList Try.prog ops Q (o :: rest) A W := by
  refine wpList_val hgd _ ?_ H
  unfold execOp
  simp only [ho, hx]
  go_simp
end
set_option maxRecDepth 100000 in
set_option maxHeartbeats 16000000 in
theorem rises_walk (a : Option Addr) (n cap : Nat) (l : List CH) (nm : ByteArray) (ep mr : Int) (al : Bool) (kd sc : Int) (maker : Int) (name : ByteArray) (kind scale : Int) (w : World) (hr : RdC w a n cap l) (hl : Hid (∀ x, x ∈ l → (x.nm.size : Int) ≤ 9223372036854775807)) (hc : Hid ((nm.size : Int) ≤ 9223372036854775807)) (hs : Hid ((name.size : Int) ≤ 9223372036854775807)) :
    Calls Try.prog 8 #[.slice a n cap, chv nm ep mr al kd sc, .int .i64 maker, .string name, .int .i64 kind, .int .i64 scale] w fun e w' => e = .returned (.bool true) ∧ Below w.heap.size w w' := by
  have M := Mem.nil w
  have KA := fun W (b : Below w.heap.size w W) => rfits_any a n cap l W (hr.below b) hl.out
  have KC := fun w => rfit_any nm ep mr al kd sc w hc
  cases hfa : fitsB l with
  | false =>
    rw [hfa] at KA
    clear hfa hr
    go_enter Try.func8, Try.ntmps8
    go_wp2_with (first
      | ((with_reducible show wpList _ _ _ (Oper.mk (some 7) (Op.box 23 _) _ _ _ _ :: _) _ _); refine wpList_box M rfl _ rfl _ rfl ?_; clear M; intro k7 W M)
      | ((with_reducible show wpList _ _ _ (Oper.mk _ (Op.load 23 _) _ _ _ _ :: _) _ _); refine wpList_load M (by rfl) _ rfl rt23 rfl (by first | exact .head _) (by rfl) ?_)
      | (go_at_call 14; refine (KA _ M.below).mono ?_; clear KA; rintro e W1 ⟨rfl, b1⟩; replace M := M.later b1; clear b1)
      | (go_at_call 12; refine (KC _).mono ?_; clear KC; rintro e W1 ⟨rfl, b1⟩; replace M := M.later b1; clear b1)
      | (go_at_call 17; refine (awake_any _).mono ?_; rintro e W9 ⟨rfl, b9⟩; replace M := M.later b9; clear b9))
    go_ret
    exact ⟨rfl, M.below⟩
  | true =>
  rw [hfa] at KA
  cases hfc : CH.fit ⟨nm, ep, mr, al, kd, sc⟩ with
  | false =>
    rw [hfc] at KC
    clear hfa hfc hr
    go_enter Try.func8, Try.ntmps8
    go_wp2_with (first
      | ((with_reducible show wpList _ _ _ (Oper.mk (some 7) (Op.box 23 _) _ _ _ _ :: _) _ _); refine wpList_box M rfl _ rfl _ rfl ?_; clear M; intro k7 W M)
      | ((with_reducible show wpList _ _ _ (Oper.mk _ (Op.load 23 _) _ _ _ _ :: _) _ _); refine wpList_load M (by rfl) _ rfl rt23 rfl (by first | exact .head _) (by rfl) ?_)
      | (go_at_call 14; refine (KA _ M.below).mono ?_; clear KA; rintro e W1 ⟨rfl, b1⟩; replace M := M.later b1; clear b1)
      | (go_at_call 12; refine (KC _).mono ?_; clear KC; rintro e W1 ⟨rfl, b1⟩; replace M := M.later b1; clear b1)
      | (go_at_call 17; refine (awake_any _).mono ?_; rintro e W9 ⟨rfl, b9⟩; replace M := M.later b9; clear b9))
    go_ret
    exact ⟨rfl, M.below⟩
  | true =>
  rw [hfc] at KC
  by_cases hm0 : maker < 0
  · clear hfa hfc hr
    go_enter Try.func8, Try.ntmps8
    go_wp2_with (first
      | ((with_reducible show wpList _ _ _ (Oper.mk (some 7) (Op.box 23 _) _ _ _ _ :: _) _ _); refine wpList_box M rfl _ rfl _ rfl ?_; clear M; intro k7 W M)
      | ((with_reducible show wpList _ _ _ (Oper.mk _ (Op.load 23 _) _ _ _ _ :: _) _ _); refine wpList_load M (by rfl) _ rfl rt23 rfl (by first | exact .head _) (by rfl) ?_)
      | (go_at_call 14; refine (KA _ M.below).mono ?_; clear KA; rintro e W1 ⟨rfl, b1⟩; replace M := M.later b1; clear b1)
      | (go_at_call 12; refine (KC _).mono ?_; clear KC; rintro e W1 ⟨rfl, b1⟩; replace M := M.later b1; clear b1)
      | (go_at_call 17; refine (awake_any _).mono ?_; rintro e W9 ⟨rfl, b9⟩; replace M := M.later b9; clear b9))
    go_ret
    exact ⟨rfl, M.below⟩
  by_cases hm1 : 16 ≤ maker
  · clear hfa hfc hr
    go_enter Try.func8, Try.ntmps8
    go_wp2_with (first
      | ((with_reducible show wpList _ _ _ (Oper.mk (some 7) (Op.box 23 _) _ _ _ _ :: _) _ _); refine wpList_box M rfl _ rfl _ rfl ?_; clear M; intro k7 W M)
      | ((with_reducible show wpList _ _ _ (Oper.mk _ (Op.load 23 _) _ _ _ _ :: _) _ _); refine wpList_load M (by rfl) _ rfl rt23 rfl (by first | exact .head _) (by rfl) ?_)
      | (go_at_call 14; refine (KA _ M.below).mono ?_; clear KA; rintro e W1 ⟨rfl, b1⟩; replace M := M.later b1; clear b1)
      | (go_at_call 12; refine (KC _).mono ?_; clear KC; rintro e W1 ⟨rfl, b1⟩; replace M := M.later b1; clear b1)
      | (go_at_call 17; refine (awake_any _).mono ?_; rintro e W9 ⟨rfl, b9⟩; replace M := M.later b9; clear b9))
    go_ret
    exact ⟨rfl, M.below⟩
  obtain rfl := hr.size
  have h8 := (fitsB_iff.1 hfa).1
  have hri := fitsB_rise hfa
  have hep := fd_ep hfa name
  have HM : Hid (0 ≤ maker ∧ maker < 16) := ⟨by omega, by omega⟩
  have K1 := fun W (b : Below w.heap.size w W) => learnF_any a l.length cap l nm ep mr al kd sc W (hr.below b) (by omega)
  rw [GL_one _ _ hri, GW_lrn _ _ _ hri] at K1
  have K2 : ∀ W, Below w.heap.size w W → Calls Try.prog 26 #[.slice a l.length cap, .int .i64 maker, .string name, .int .i64 kind, .int .i64 scale] W (AnsL W (crX l maker name kind scale) (crE l name kind scale)) := fun W b => create_any a cap l maker name kind scale W (hr.below b) (by omega) hep
  have K3 : ∀ W, Below w.heap.size w W → Calls Try.prog 28 #[.slice a l.length cap, .int .i64 maker, .string name] W (AnsL W (dlX l maker name) (dlE l name)) := fun W b => delete_any a cap l maker name W (hr.below b) (by omega) hep
  have UX := up_lrn (c := ⟨nm, ep, mr, al, kd, sc⟩) hfa hfc
  have UY := up_cr (maker := maker) (name := name) (kind := kind) (scale := scale) hfa HM.out
  have UZ := up_dl (maker := maker) (name := name) hfa HM.out
  have HTL := lrn_tells (c := ⟨nm, ep, mr, al, kd, sc⟩) hri
  dsimp only at HTL
  have HCR : Hid (crE l name kind scale = 0 → lk name (crX l maker name kind scale) = some (crM l maker name kind scale) ∧ (fdc (lk name l)).al = false) := fun h => ⟨cr_find hri h, (cr_ok h).2.2.2.1⟩
  have HDL : Hid (dlE l name = 0 → lk name (dlX l maker name) = some (dlM l maker name) ∧ ∃ o, lk name l = some o ∧ o.al = true) := fun h => ⟨dl_find hri h, (by obtain ⟨o, h1, h2, _⟩ := dl_ok h; exact ⟨o, h1, h2⟩)⟩
  obtain ⟨X, hX⟩ : ∃ X, lrnL l ⟨nm, ep, mr, al, kd, sc⟩ = X := ⟨_, rfl⟩
  obtain ⟨XW, hXW⟩ : ∃ XW, lrnW l ⟨nm, ep, mr, al, kd, sc⟩ = XW := ⟨_, rfl⟩
  obtain ⟨Y, hY⟩ : ∃ Y, crX l maker name kind scale = Y := ⟨_, rfl⟩
  obtain ⟨E, hE⟩ : ∃ E, crE l name kind scale = E := ⟨_, rfl⟩
  obtain ⟨V, hV⟩ : ∃ V, dlX l maker name = V := ⟨_, rfl⟩
  obtain ⟨F, hF⟩ : ∃ F, dlE l name = F := ⟨_, rfl⟩
  rw [hX, hXW] at K1 HTL
  rw [hX] at UX
  rw [hY, hE] at K2 HCR
  rw [hY] at UY
  rw [hV, hF] at K3 HDL
  rw [hV] at UZ
  have HTL2 : Hid ((((XW == 3) = true ∨ ((XW == 3) = false ∧ (XW == 4) = true)) ∧ fdc (lk nm X) = ⟨nm, ep, mr, al, kd, sc⟩ ∧ sameL X l = false) ∨ ((XW == 3) = false ∧ (XW == 4) = false ∧ sameL X l = true)) := HTL
  have HN8 : Hid (l.length ≤ 8) := h8
  have HRD : Hid (RdC w a l.length cap l) := hr
  clear hX hXW hY hE hV hF HTL h8 hri hep hfa hfc hr
  go_enter Try.func8, Try.ntmps8
  go_wp2_with (first
      | ((with_reducible show wpList _ _ _ (Oper.mk (some 7) (Op.box 23 _) _ _ _ _ :: _) _ _); refine wpList_box M rfl _ rfl _ rfl ?_; clear M; intro k7 W M)
      | ((with_reducible show wpList _ _ _ (Oper.mk _ (Op.load 23 _) _ _ _ _ :: _) _ _); refine wpList_load M (by rfl) _ rfl rt23 rfl (by first | exact .head _) (by rfl) ?_)
      | (go_at_call 14; refine (KA _ M.below).mono ?_; clear KA; rintro e W1 ⟨rfl, b1⟩; replace M := M.later b1; clear b1)
      | (go_at_call 12; refine (KC _).mono ?_; clear KC; rintro e W1 ⟨rfl, b1⟩; replace M := M.later b1; clear b1)
      | (go_at_call 19; refine (K1 _ M.below).mono ?_; clear K1; rintro e W1 ⟨a1, c1, rfl, L1, o1, b1⟩; replace M := M.later b1; clear b1 o1)
      | (go_at_call 26; refine (K2 _ M.below).mono ?_; clear K2; rintro e W2 ⟨a2, c2, rfl, L2, o2, b2⟩; replace L1 := L1.below b2; replace M := M.later b2; clear b2 o2)
      | (go_at_call 28; refine (K3 _ M.below).mono ?_; clear K3; rintro e W3 ⟨a3, c3, rfl, L3, o3, b3⟩; replace L1 := L1.below b3; replace L2 := L2.below b3; replace M := M.later b3; clear b3 o3; have B := M.below; have H7 := M.get (.head _); clear M; have M := Mem.nil W3)
      | ((with_reducible show wpList _ _ _ (Oper.mk _ (Op.buildSlice 48 3 _) _ _ _ _ :: _) _ _); refine wpList_mk3 M (by rfl) _ _ _ rfl _ _ _ _ _ _ _ _ _ rfl rfl rfl ?_; clear M; intro kb WS M))
  have L1 := L1.below M.below
  have L2 := L2.below M.below
  have L3 := L3.below M.below
  have HB := M.get (.head _)
  have BW := B.trans (M.below.mono B.size)
  have H7 := (M.below.block k7 (row_lt H7)).trans H7
  have HT : Hid (∀ t, t < 3 → ∃ aT cT T, WS.cell? ⟨kb, t, none⟩ = some (.slice aT T.length cT) ∧ LstC WS aT T.length cT T ∧ Up l T ∧ kb < WS.heap.size) := by
    intro t ht
    match t, ht with
    | 0, _ => exact ⟨_, _, X, row_cell HB 0 _ rfl, L1, UX, row_lt HB⟩
    | 1, _ => exact ⟨_, _, Y, row_cell HB 1 _ rfl, L2, UY, row_lt HB⟩
    | 2, _ => exact ⟨_, _, V, row_cell HB 2 _ rfl, L3, UZ, row_lt HB⟩
  have HUX : Hid (X.length ≤ 8) := (fitsB_iff.1 UX.1).1
  have HUY : Hid (Y.length ≤ 8) := (fitsB_iff.1 UY.1).1
  have HUZ : Hid (V.length ≤ 8) := (fitsB_iff.1 UZ.1).1
  clear M B HB UX UY UZ
  go_loopg [20, 22, 23, 24, 77] 3 (fun gk v20 v22 v23 v24 v77 wr => ∃ t : Nat, v77 = .int .i64 (t : Int) ∧ t + gk = 3 ∧ Below WS.heap.size WS wr)
  case atStart => exact ⟨0, by first | rfl | go_num, by omega, Below.refl _ _⟩
  case round =>
    obtain ⟨t, rfl, hgk, BR⟩ := hrel
    obtain ⟨gko, hgo⟩ : ∃ g, g = gk := ⟨_, rfl⟩
    subst hgo
    obtain ⟨wo, hwo⟩ : ∃ x, x = wr := ⟨_, rfl⟩
    subst hwo
    by_cases ht : t < 3
    case pos =>
      have HI : Hid (t < 3) := ht
      have HGK : Hid (t + gko = 3) := hgk
      have htI : (t : Int) < 3 := by omega
      have hwt : IntKind.i64.wrap ((t : Int) + 1) = (t : Int) + 1 := by rw [IntKind.wrap_i64]; omega
      obtain ⟨aT, cT, T, hcell, LT, UT, hkb⟩ := HT.out t ht
      have x0 : wo.cell? ⟨kb, t, none⟩ = some (.slice aT T.length cT) := (World.cell?_of_block (w := WS) (a := ⟨kb, t, none⟩) (BR.block kb hkb)).trans hcell
      have HT8 : Hid (T.length ≤ 8) := (fitsB_iff.1 UT.1).1
      have KF := fits_any aT T.length cT T wo ((LT.below BR).rd (by have := HT8.out; omega))
      rw [UT.1] at KF
      have HUP : Hid (∀ d, d ∈ l → ∃ x, lk d.nm T = some x ∧ nwZ d.ep d.mr x.ep x.mr = false) := UT.2
      clear UT hkb hcell ht hgk
      go_wp2_with (go_at_call 13; refine KF.mono ?_; clear KF; rintro e W1 ⟨rfl, b1⟩; replace BR := BR.trans (b1.mono BR.size); clear b1)
      go_loopg [22, 23, 24, 86] l.length (fun gk v22 v23 v24 v86 wr => ∃ i : Nat, v86 = .int .i64 (i : Int) ∧ i + gk = l.length ∧ Below WS.heap.size WS wr)
      case atStart => exact ⟨0, by first | rfl | go_num, by omega, BR⟩
      case round =>
        clear BR x0
        obtain ⟨i, rfl, hgk, BR⟩ := hrel
        by_cases hi : i < l.length
        case pos =>
          have HII : Hid (i < l.length) := hi
          have hiI : (i : Int) < (l.length : Int) := by omega
          have hwr : IntKind.i64.wrap ((i : Int) + 1) = (i : Int) + 1 := by rw [IntKind.wrap_i64]; have := HN8.out; omega
          obtain ⟨b, off, rfl, hb1, hd, hra⟩ := HRD.out.at i hi
          obtain ⟨⟨nm', ep', mr', al', kd', sc'⟩, hri⟩ : ∃ r, l.getD i CH.z = r := ⟨_, rfl⟩
          rw [hri] at hra hd
          obtain ⟨⟨nx, ex, mx, ax, kx, sx⟩, hx, hnw⟩ := HUP.out _ (List.mem_of_getElem? hd)
          have hra2 := range_later hra hb1 (BW.trans (BR.mono BW.size))
          have hbl : b < wr.heap.size := Nat.lt_of_lt_of_le hb1 (by have := BW.size; have := BR.size; omega)
          have KF := fun W (B : Below wr.heap.size wr W) => find_any aT T.length cT T nm' W (((LT.below BR).below B).rd (by have := HT8.out; omega))
          dsimp only at hx hnw
          rw [hx] at KF
          replace KF : ∀ W, Below wr.heap.size wr W → Calls Try.prog 21 #[.slice aT T.length cT, .string nm'] W fun e w' => e = .returned (.tuple #[chv nx ex mx ax kx sx, .bool true]) ∧ Below W.heap.size W w' := KF
          have KN := fun w => newer_any nm' ep' mr' al' kd' sc' nx ex mx ax kx sx w
          rw [hnw] at KN
          have M := Mem.nil wr
          clear hri hd hra hx hnw hi
          go_wp2_with (first
      | ((with_reducible show wpList _ _ _ (Oper.mk _ (Op.load 23 (Operand.tmp 88)) _ _ _ _ :: _) _ _); refine wpList_load23w (by rfl) _ rfl b (off + i * 6) nm' ep' mr' al' kd' sc' rfl (range_later hra2 hbl M.below) ?_)
      | ((with_reducible show wpList _ _ _ (Oper.mk (some 22) (Op.alloc 23) _ _ _ _ :: _) _ _); refine wpList_alloc M rfl rfl rt23 ?_; clear M; intro k22 W M)
      | ((with_reducible show wpList _ _ _ (Oper.mk (some 23) (Op.alloc 23) _ _ _ _ :: _) _ _); refine wpList_alloc M rfl rfl rt23 ?_; clear M; intro k23 W M)
      | ((with_reducible show wpList _ _ _ (Oper.mk _ (Op.store 23 _ _) _ _ _ _ :: _) _ _); refine wpList_put M rfl _ _ rfl rt23 0 _ rfl rfl rfl rfl rfl (by simp [Value.oneCell']) ?_; clear M; intro W M; simp only [List.set_cons_zero, List.set_cons_succ] at M)
      | ((with_reducible show wpList _ _ _ (Oper.mk _ (Op.load 9 _) _ _ _ _ :: _) _ _); refine wpList_cell9 M (by rfl) _ rfl _ rfl (by first | exact .head _ | exact .tail _ (.head _)) rfl ?_)
      | ((with_reducible show wpList _ _ _ (Oper.mk _ (Op.load 23 _) _ _ _ _ :: _) _ _); refine wpList_load M (by rfl) _ rfl rt23 rfl (by first | exact .head _ | exact .tail _ (.head _)) (by rfl) ?_)
      | (go_at_call 21; refine (KF _ M.below).mono ?_; clear KF; rintro e W1 ⟨rfl, b1⟩; replace M := M.later b1; clear b1)
      | (go_at_call 15; refine (KN _).mono ?_; clear KN; rintro e W1 ⟨rfl, b1⟩; replace M := M.later b1; clear b1))
          go_roundg (gk - 1)
          case measure => have := HII.out; omega
          case rel => exact ⟨i + 1, by first | rfl | go_num, by have := HII.out; omega, BR.trans (M.below.mono BR.size)⟩
        case neg =>
          have hiI : ¬ (i : Int) < (l.length : Int) := by omega
          go_wp2
          go_roundg (gko - 1)
          case measure => have := HI.out; have := HGK.out; omega
          case rel => exact ⟨t + 1, by first | rfl | go_num, by have := HI.out; have := HGK.out; omega, BR⟩
    case neg =>
      have htI : ¬ (t : Int) < 3 := by omega
      clear HT ht hgk
      have BX := BW.trans (BR.mono BW.size)
      have N7 : ∀ W, Below wo.heap.size wo W → W.heap[k7]? = some (.cells (chc nm ep mr al kd sc) 23 (0, 0)) := fun W b => by
        have h1 := BR.block k7 (row_lt H7)
        have h2 := b.block k7 (by have := row_lt H7; have := BR.size; omega)
        exact h2.trans (h1.trans H7)
      have KL := fun W (b : Below w.heap.size w W) => find_any a l.length cap l name W (HRD.out.below b)
      have KY := fun W (b : Below wo.heap.size wo W) => find_any a2 Y.length c2 Y name W (((L2.below BR).below b).rd (by have := HUY.out; omega))
      have KV := fun W (b : Below wo.heap.size wo W) => find_any a3 V.length c3 V name W (((L3.below BR).below b).rd (by have := HUZ.out; omega))
      have KX := fun W (b : Below wo.heap.size wo W) => find_any a1 X.length c1 X nm W (((L1.below BR).below b).rd (by have := HUX.out; omega))
      have KS := fun W (b : Below wo.heap.size wo W) => same_any a1 a X.length l.length c1 cap X l W (((L1.below BR).below b).rd (by have := HUX.out; omega)) (HRD.out.below (BX.trans (b.mono BX.size)))
      obtain ⟨⟨n4, e4, m4, g4, y4, z4⟩, hd4⟩ : ∃ d4, fdc (lk nm X) = d4 := ⟨_, rfl⟩
      obtain ⟨b4, hb4⟩ : ∃ b4, (lk nm X).isSome = b4 := ⟨_, rfl⟩
      have HD4 : Hid (fdc (lk nm X) = ⟨n4, e4, m4, g4, y4, z4⟩) := hd4
      unfold fnd at KX
      rw [hd4, hb4] at KX
      replace KX : ∀ W, Below wo.heap.size wo W → Calls Try.prog 21 #[.slice a1 X.length c1, .string nm] W fun e w' => e = .returned (.tuple #[chv n4 e4 m4 g4 y4 z4, .bool b4]) ∧ Below W.heap.size W w' := KX
      have M := Mem.nil wo
      clear hd4 hb4 L1 L2 L3 BW BR
      have HCM : Hid (crM l maker name kind scale = ⟨name, (fdc (lk name l)).ep + 1, maker, true, kind, scale⟩) := rfl
      by_cases hE0 : E = 0
      · obtain ⟨hcf, hal⟩ := HCR.out hE0
        have hF0 : (F == 0) = false := by
          cases hq : (F == 0) with
          | false => rfl
          | true =>
            obtain ⟨_, o, ho, hoa⟩ := HDL.out (by simpa using hq)
            rw [ho] at hal
            have : o.al = false := hal
            rw [this] at hoa
            cases hoa
        have hE1 : (E == 0) = true := by simp [hE0]
        rw [hcf, HCM.out] at KY
        replace KY : ∀ W, Below wo.heap.size wo W → Calls Try.prog 21 #[.slice a2 Y.length c2, .string name] W fun e w' => e = .returned (.tuple #[chv name ((fdc (lk name l)).ep + 1) maker true kind scale, .bool true]) ∧ Below W.heap.size W w' := KY
        have KN := fun w => newer_any name ((fdc (lk name l)).ep + 1) maker true kind scale (fdc (lk name l)).nm (fdc (lk name l)).ep (fdc (lk name l)).mr (fdc (lk name l)).al (fdc (lk name l)).kd (fdc (lk name l)).sc w
        rw [nw_next] at KN
        obtain ⟨b0, hb0⟩ : ∃ b0, (lk name l).isSome = b0 := ⟨_, rfl⟩
        obtain ⟨d0, hd0⟩ : ∃ d0, fdc (lk name l) = d0 := ⟨_, rfl⟩
        unfold fnd at KL
        rw [hb0, hd0] at KL
        rw [hd0] at KY KN hal
        obtain ⟨no, eo, mo, ao, ko, so⟩ := d0
        dsimp only at KN KY hal
        subst hal
        replace KL : ∀ W, Below w.heap.size w W → Calls Try.prog 21 #[.slice a l.length cap, .string name] W fun e w' => e = .returned (.tuple #[chv no eo mo false ko so, .bool b0]) ∧ Below W.heap.size W w' := KL
        clear HCR HDL HCM hcf hb0 hd0 KV hE0
        cases b0 with
        | true =>
          go_wp2_with (first
      | (go_at_call 21; refine (KL _ (BX.trans (M.below.mono BX.size))).mono ?_; clear KL; rintro e W1 ⟨rfl, b1⟩; replace M := M.later b1; clear b1)
      | ((with_reducible show wpList _ _ _ (Oper.mk (some 25) (Op.alloc 23) _ _ _ _ :: _) _ _); refine wpList_alloc M rfl rfl rt23 ?_; clear M; intro k25 W M)
      | ((with_reducible show wpList _ _ _ (Oper.mk _ (Op.store 23 _ _) _ _ _ _ :: _) _ _); refine wpList_put M rfl _ _ rfl rt23 0 _ rfl rfl rfl rfl rfl (by simp [Value.oneCell']) ?_; clear M; intro W M; simp only [List.set_cons_zero, List.set_cons_succ] at M)
      | (go_at_call 21; refine (KY _ M.below).mono ?_; clear KY; rintro e W1 ⟨rfl, b1⟩; replace M := M.later b1; clear b1)
      | ((with_reducible show wpList _ _ _ (Oper.mk (some 27) (Op.alloc 23) _ _ _ _ :: _) _ _); refine wpList_alloc M rfl rfl rt23 ?_; clear M; intro k27 W M)
      | ((with_reducible show wpList _ _ _ (Oper.mk _ (Op.load 4 _) _ _ _ _ :: _) _ _); refine wpList_cell4 M (by rfl) _ rfl _ rfl (by first | exact .head _ | exact .tail _ (.head _) | exact .tail _ (.tail _ (.head _))) rfl ?_)
      | ((with_reducible show wpList _ _ _ (Oper.mk _ (Op.load 3 _) _ _ _ _ :: _) _ _); refine wpList_cell3 M (by rfl) _ rfl _ rfl (by first | exact .head _ | exact .tail _ (.head _) | exact .tail _ (.tail _ (.head _))) rfl ?_)
      | ((with_reducible show wpList _ _ _ (Oper.mk _ (Op.load 2 _) _ _ _ _ :: _) _ _); refine wpList_cell2 M (by rfl) _ rfl _ rfl (by first | exact .head _ | exact .tail _ (.head _) | exact .tail _ (.tail _ (.head _))) rfl ?_)
      | ((with_reducible show wpList _ _ _ (Oper.mk _ (Op.load 23 _) _ _ _ _ :: _) _ _); refine wpList_load M (by rfl) _ rfl rt23 rfl (by first | exact .head _ | exact .tail _ (.head _) | exact .tail _ (.tail _ (.head _))) (by rfl) ?_)
      | (go_at_call 15; refine (KN _).mono ?_; clear KN; rintro e W1 ⟨rfl, b1⟩; replace M := M.later b1; clear b1)
      | ((with_reducible show wpList _ _ _ (Oper.mk _ (Op.load 9 _) _ _ _ _ :: _) _ _); refine wpList_str (by rfl) _ rfl k7 0 nm rfl (row_cell (N7 _ M.below) 0 _ rfl) ?_))
          rcases HTL2.out with ⟨hA, hB, hC⟩ | ⟨hA, hB, hC⟩
          · rw [hC] at KS
            have HEQ : Hid (eqC ⟨n4, e4, m4, g4, y4, z4⟩ ⟨nm, ep, mr, al, kd, sc⟩ = true) := (eqC_iff _ _).2 (HD4.out.symm.trans hB)
            clear hC hB
            rcases hA with hA | ⟨hA, hA4⟩
            · as_aux_lemma =>
                go_wp2_with (first
      | (go_at_call 21; refine (KX _ M.below).mono ?_; clear KX; rintro e W1 ⟨rfl, b1⟩; replace M := M.later b1; clear b1)
      | ((with_reducible show wpList _ _ _ (Oper.mk (some 31) (Op.alloc 23) _ _ _ _ :: _) _ _); refine wpList_alloc M rfl rfl rt23 ?_; clear M; intro k31 W M)
      | ((with_reducible show wpList _ _ _ (Oper.mk _ (Op.store 23 _ _) _ _ _ _ :: _) _ _); refine wpList_put M rfl _ _ rfl rt23 0 _ rfl rfl rfl rfl rfl (by simp [Value.oneCell']) ?_; clear M; intro W M; simp only [List.set_cons_zero, List.set_cons_succ] at M)
      | ((with_reducible show wpList _ _ _ (Oper.mk _ (Op.load 23 (Operand.tmp 7)) _ _ _ _ :: _) _ _); refine wpList_load23w (by rfl) _ rfl k7 0 nm ep mr al kd sc rfl (range_rowC (d := ⟨nm, ep, mr, al, kd, sc⟩) (N7 _ M.below)) ?_)
      | ((with_reducible show wpList _ _ _ (Oper.mk _ (Op.load 23 (Operand.tmp 31)) _ _ _ _ :: _) _ _); refine wpList_load M (by rfl) _ rfl rt23 rfl (.head _) (by rfl) ?_)
      | ((with_reducible show wpList _ _ _ (Oper.mk _ (Op.binOp .eql 23 _ _ 23) _ _ _ _ :: _) _ _); refine wpList_val (by rfl) (.bool true) ((exec_eql23 rfl ⟨n4, e4, m4, g4, y4, z4⟩ ⟨nm, ep, mr, al, kd, sc⟩ rfl rfl _).trans (by rw [HEQ.out])) ?_)
      | (go_at_call 23; refine (KS _ M.below).mono ?_; clear KS; rintro e W8 ⟨rfl, b8⟩; replace M := M.later b8; clear b8)
      | (go_at_call 17; refine (awake_any _).mono ?_; rintro e W9 ⟨rfl, b9⟩; replace M := M.later b9; clear b9))
                go_ret
                exact ⟨rfl, BX.trans (M.below.mono BX.size)⟩
            · as_aux_lemma =>
                go_wp2_with (first
      | (go_at_call 21; refine (KX _ M.below).mono ?_; clear KX; rintro e W1 ⟨rfl, b1⟩; replace M := M.later b1; clear b1)
      | ((with_reducible show wpList _ _ _ (Oper.mk (some 31) (Op.alloc 23) _ _ _ _ :: _) _ _); refine wpList_alloc M rfl rfl rt23 ?_; clear M; intro k31 W M)
      | ((with_reducible show wpList _ _ _ (Oper.mk _ (Op.store 23 _ _) _ _ _ _ :: _) _ _); refine wpList_put M rfl _ _ rfl rt23 0 _ rfl rfl rfl rfl rfl (by simp [Value.oneCell']) ?_; clear M; intro W M; simp only [List.set_cons_zero, List.set_cons_succ] at M)
      | ((with_reducible show wpList _ _ _ (Oper.mk _ (Op.load 23 (Operand.tmp 7)) _ _ _ _ :: _) _ _); refine wpList_load23w (by rfl) _ rfl k7 0 nm ep mr al kd sc rfl (range_rowC (d := ⟨nm, ep, mr, al, kd, sc⟩) (N7 _ M.below)) ?_)
      | ((with_reducible show wpList _ _ _ (Oper.mk _ (Op.load 23 (Operand.tmp 31)) _ _ _ _ :: _) _ _); refine wpList_load M (by rfl) _ rfl rt23 rfl (.head _) (by rfl) ?_)
      | ((with_reducible show wpList _ _ _ (Oper.mk _ (Op.binOp .eql 23 _ _ 23) _ _ _ _ :: _) _ _); refine wpList_val (by rfl) (.bool true) ((exec_eql23 rfl ⟨n4, e4, m4, g4, y4, z4⟩ ⟨nm, ep, mr, al, kd, sc⟩ rfl rfl _).trans (by rw [HEQ.out])) ?_)
      | (go_at_call 23; refine (KS _ M.below).mono ?_; clear KS; rintro e W8 ⟨rfl, b8⟩; replace M := M.later b8; clear b8)
      | (go_at_call 17; refine (awake_any _).mono ?_; rintro e W9 ⟨rfl, b9⟩; replace M := M.later b9; clear b9))
                go_ret
                exact ⟨rfl, BX.trans (M.below.mono BX.size)⟩
          · rw [hC] at KS
            clear hC
            cases hq : eqC ⟨n4, e4, m4, g4, y4, z4⟩ ⟨nm, ep, mr, al, kd, sc⟩ with
            | true =>
              have HEQ : Hid (eqC ⟨n4, e4, m4, g4, y4, z4⟩ ⟨nm, ep, mr, al, kd, sc⟩ = true) := hq
              clear hq
              as_aux_lemma =>
                go_wp2_with (first
      | (go_at_call 21; refine (KX _ M.below).mono ?_; clear KX; rintro e W1 ⟨rfl, b1⟩; replace M := M.later b1; clear b1)
      | ((with_reducible show wpList _ _ _ (Oper.mk (some 31) (Op.alloc 23) _ _ _ _ :: _) _ _); refine wpList_alloc M rfl rfl rt23 ?_; clear M; intro k31 W M)
      | ((with_reducible show wpList _ _ _ (Oper.mk _ (Op.store 23 _ _) _ _ _ _ :: _) _ _); refine wpList_put M rfl _ _ rfl rt23 0 _ rfl rfl rfl rfl rfl (by simp [Value.oneCell']) ?_; clear M; intro W M; simp only [List.set_cons_zero, List.set_cons_succ] at M)
      | ((with_reducible show wpList _ _ _ (Oper.mk _ (Op.load 23 (Operand.tmp 7)) _ _ _ _ :: _) _ _); refine wpList_load23w (by rfl) _ rfl k7 0 nm ep mr al kd sc rfl (range_rowC (d := ⟨nm, ep, mr, al, kd, sc⟩) (N7 _ M.below)) ?_)
      | ((with_reducible show wpList _ _ _ (Oper.mk _ (Op.load 23 (Operand.tmp 31)) _ _ _ _ :: _) _ _); refine wpList_load M (by rfl) _ rfl rt23 rfl (.head _) (by rfl) ?_)
      | ((with_reducible show wpList _ _ _ (Oper.mk _ (Op.binOp .eql 23 _ _ 23) _ _ _ _ :: _) _ _); refine wpList_val (by rfl) (.bool true) ((exec_eql23 rfl ⟨n4, e4, m4, g4, y4, z4⟩ ⟨nm, ep, mr, al, kd, sc⟩ rfl rfl _).trans (by rw [HEQ.out])) ?_)
      | (go_at_call 23; refine (KS _ M.below).mono ?_; clear KS; rintro e W8 ⟨rfl, b8⟩; replace M := M.later b8; clear b8)
      | (go_at_call 17; refine (awake_any _).mono ?_; rintro e W9 ⟨rfl, b9⟩; replace M := M.later b9; clear b9))
                go_ret
                exact ⟨rfl, BX.trans (M.below.mono BX.size)⟩
            | false =>
              have HEQ : Hid (eqC ⟨n4, e4, m4, g4, y4, z4⟩ ⟨nm, ep, mr, al, kd, sc⟩ = false) := hq
              clear hq
              as_aux_lemma =>
                go_wp2_with (first
      | (go_at_call 21; refine (KX _ M.below).mono ?_; clear KX; rintro e W1 ⟨rfl, b1⟩; replace M := M.later b1; clear b1)
      | ((with_reducible show wpList _ _ _ (Oper.mk (some 31) (Op.alloc 23) _ _ _ _ :: _) _ _); refine wpList_alloc M rfl rfl rt23 ?_; clear M; intro k31 W M)
      | ((with_reducible show wpList _ _ _ (Oper.mk _ (Op.store 23 _ _) _ _ _ _ :: _) _ _); refine wpList_put M rfl _ _ rfl rt23 0 _ rfl rfl rfl rfl rfl (by simp [Value.oneCell']) ?_; clear M; intro W M; simp only [List.set_cons_zero, List.set_cons_succ] at M)
      | ((with_reducible show wpList _ _ _ (Oper.mk _ (Op.load 23 (Operand.tmp 7)) _ _ _ _ :: _) _ _); refine wpList_load23w (by rfl) _ rfl k7 0 nm ep mr al kd sc rfl (range_rowC (d := ⟨nm, ep, mr, al, kd, sc⟩) (N7 _ M.below)) ?_)
      | ((with_reducible show wpList _ _ _ (Oper.mk _ (Op.load 23 (Operand.tmp 31)) _ _ _ _ :: _) _ _); refine wpList_load M (by rfl) _ rfl rt23 rfl (.head _) (by rfl) ?_)
      | ((with_reducible show wpList _ _ _ (Oper.mk _ (Op.binOp .eql 23 _ _ 23) _ _ _ _ :: _) _ _); refine wpList_val (by rfl) (.bool false) ((exec_eql23 rfl ⟨n4, e4, m4, g4, y4, z4⟩ ⟨nm, ep, mr, al, kd, sc⟩ rfl rfl _).trans (by rw [HEQ.out])) ?_)
      | (go_at_call 23; refine (KS _ M.below).mono ?_; clear KS; rintro e W8 ⟨rfl, b8⟩; replace M := M.later b8; clear b8)
      | (go_at_call 17; refine (awake_any _).mono ?_; rintro e W9 ⟨rfl, b9⟩; replace M := M.later b9; clear b9))
                go_ret
                exact ⟨rfl, BX.trans (M.below.mono BX.size)⟩
        | false =>
          clear KN
          go_wp2_with (first
      | (go_at_call 21; refine (KL _ (BX.trans (M.below.mono BX.size))).mono ?_; clear KL; rintro e W1 ⟨rfl, b1⟩; replace M := M.later b1; clear b1)
      | ((with_reducible show wpList _ _ _ (Oper.mk (some 25) (Op.alloc 23) _ _ _ _ :: _) _ _); refine wpList_alloc M rfl rfl rt23 ?_; clear M; intro k25 W M)
      | ((with_reducible show wpList _ _ _ (Oper.mk _ (Op.store 23 _ _) _ _ _ _ :: _) _ _); refine wpList_put M rfl _ _ rfl rt23 0 _ rfl rfl rfl rfl rfl (by simp [Value.oneCell']) ?_; clear M; intro W M; simp only [List.set_cons_zero, List.set_cons_succ] at M)
      | (go_at_call 21; refine (KY _ M.below).mono ?_; clear KY; rintro e W1 ⟨rfl, b1⟩; replace M := M.later b1; clear b1)
      | ((with_reducible show wpList _ _ _ (Oper.mk (some 27) (Op.alloc 23) _ _ _ _ :: _) _ _); refine wpList_alloc M rfl rfl rt23 ?_; clear M; intro k27 W M)
      | ((with_reducible show wpList _ _ _ (Oper.mk _ (Op.load 4 _) _ _ _ _ :: _) _ _); refine wpList_cell4 M (by rfl) _ rfl _ rfl (by first | exact .head _ | exact .tail _ (.head _) | exact .tail _ (.tail _ (.head _))) rfl ?_)
      | ((with_reducible show wpList _ _ _ (Oper.mk _ (Op.load 3 _) _ _ _ _ :: _) _ _); refine wpList_cell3 M (by rfl) _ rfl _ rfl (by first | exact .head _ | exact .tail _ (.head _) | exact .tail _ (.tail _ (.head _))) rfl ?_)
      | ((with_reducible show wpList _ _ _ (Oper.mk _ (Op.load 2 _) _ _ _ _ :: _) _ _); refine wpList_cell2 M (by rfl) _ rfl _ rfl (by first | exact .head _ | exact .tail _ (.head _) | exact .tail _ (.tail _ (.head _))) rfl ?_)
      | ((with_reducible show wpList _ _ _ (Oper.mk _ (Op.load 23 _) _ _ _ _ :: _) _ _); refine wpList_load M (by rfl) _ rfl rt23 rfl (by first | exact .head _ | exact .tail _ (.head _) | exact .tail _ (.tail _ (.head _))) (by rfl) ?_)
      | (go_at_call 15; refine (KN _).mono ?_; clear KN; rintro e W1 ⟨rfl, b1⟩; replace M := M.later b1; clear b1)
      | ((with_reducible show wpList _ _ _ (Oper.mk _ (Op.load 9 _) _ _ _ _ :: _) _ _); refine wpList_str (by rfl) _ rfl k7 0 nm rfl (row_cell (N7 _ M.below) 0 _ rfl) ?_))
          rcases HTL2.out with ⟨hA, hB, hC⟩ | ⟨hA, hB, hC⟩
          · rw [hC] at KS
            have HEQ : Hid (eqC ⟨n4, e4, m4, g4, y4, z4⟩ ⟨nm, ep, mr, al, kd, sc⟩ = true) := (eqC_iff _ _).2 (HD4.out.symm.trans hB)
            clear hC hB
            rcases hA with hA | ⟨hA, hA4⟩
            · as_aux_lemma =>
                go_wp2_with (first
      | (go_at_call 21; refine (KX _ M.below).mono ?_; clear KX; rintro e W1 ⟨rfl, b1⟩; replace M := M.later b1; clear b1)
      | ((with_reducible show wpList _ _ _ (Oper.mk (some 31) (Op.alloc 23) _ _ _ _ :: _) _ _); refine wpList_alloc M rfl rfl rt23 ?_; clear M; intro k31 W M)
      | ((with_reducible show wpList _ _ _ (Oper.mk _ (Op.store 23 _ _) _ _ _ _ :: _) _ _); refine wpList_put M rfl _ _ rfl rt23 0 _ rfl rfl rfl rfl rfl (by simp [Value.oneCell']) ?_; clear M; intro W M; simp only [List.set_cons_zero, List.set_cons_succ] at M)
      | ((with_reducible show wpList _ _ _ (Oper.mk _ (Op.load 23 (Operand.tmp 7)) _ _ _ _ :: _) _ _); refine wpList_load23w (by rfl) _ rfl k7 0 nm ep mr al kd sc rfl (range_rowC (d := ⟨nm, ep, mr, al, kd, sc⟩) (N7 _ M.below)) ?_)
      | ((with_reducible show wpList _ _ _ (Oper.mk _ (Op.load 23 (Operand.tmp 31)) _ _ _ _ :: _) _ _); refine wpList_load M (by rfl) _ rfl rt23 rfl (.head _) (by rfl) ?_)
      | ((with_reducible show wpList _ _ _ (Oper.mk _ (Op.binOp .eql 23 _ _ 23) _ _ _ _ :: _) _ _); refine wpList_val (by rfl) (.bool true) ((exec_eql23 rfl ⟨n4, e4, m4, g4, y4, z4⟩ ⟨nm, ep, mr, al, kd, sc⟩ rfl rfl _).trans (by rw [HEQ.out])) ?_)
      | (go_at_call 23; refine (KS _ M.below).mono ?_; clear KS; rintro e W8 ⟨rfl, b8⟩; replace M := M.later b8; clear b8)
      | (go_at_call 17; refine (awake_any _).mono ?_; rintro e W9 ⟨rfl, b9⟩; replace M := M.later b9; clear b9))
                go_ret
                exact ⟨rfl, BX.trans (M.below.mono BX.size)⟩
            · as_aux_lemma =>
                go_wp2_with (first
      | (go_at_call 21; refine (KX _ M.below).mono ?_; clear KX; rintro e W1 ⟨rfl, b1⟩; replace M := M.later b1; clear b1)
      | ((with_reducible show wpList _ _ _ (Oper.mk (some 31) (Op.alloc 23) _ _ _ _ :: _) _ _); refine wpList_alloc M rfl rfl rt23 ?_; clear M; intro k31 W M)
      | ((with_reducible show wpList _ _ _ (Oper.mk _ (Op.store 23 _ _) _ _ _ _ :: _) _ _); refine wpList_put M rfl _ _ rfl rt23 0 _ rfl rfl rfl rfl rfl (by simp [Value.oneCell']) ?_; clear M; intro W M; simp only [List.set_cons_zero, List.set_cons_succ] at M)
      | ((with_reducible show wpList _ _ _ (Oper.mk _ (Op.load 23 (Operand.tmp 7)) _ _ _ _ :: _) _ _); refine wpList_load23w (by rfl) _ rfl k7 0 nm ep mr al kd sc rfl (range_rowC (d := ⟨nm, ep, mr, al, kd, sc⟩) (N7 _ M.below)) ?_)
      | ((with_reducible show wpList _ _ _ (Oper.mk _ (Op.load 23 (Operand.tmp 31)) _ _ _ _ :: _) _ _); refine wpList_load M (by rfl) _ rfl rt23 rfl (.head _) (by rfl) ?_)
      | ((with_reducible show wpList _ _ _ (Oper.mk _ (Op.binOp .eql 23 _ _ 23) _ _ _ _ :: _) _ _); refine wpList_val (by rfl) (.bool true) ((exec_eql23 rfl ⟨n4, e4, m4, g4, y4, z4⟩ ⟨nm, ep, mr, al, kd, sc⟩ rfl rfl _).trans (by rw [HEQ.out])) ?_)
      | (go_at_call 23; refine (KS _ M.below).mono ?_; clear KS; rintro e W8 ⟨rfl, b8⟩; replace M := M.later b8; clear b8)
      | (go_at_call 17; refine (awake_any _).mono ?_; rintro e W9 ⟨rfl, b9⟩; replace M := M.later b9; clear b9))
                go_ret
                exact ⟨rfl, BX.trans (M.below.mono BX.size)⟩
          · rw [hC] at KS
            clear hC
            cases hq : eqC ⟨n4, e4, m4, g4, y4, z4⟩ ⟨nm, ep, mr, al, kd, sc⟩ with
            | true =>
              have HEQ : Hid (eqC ⟨n4, e4, m4, g4, y4, z4⟩ ⟨nm, ep, mr, al, kd, sc⟩ = true) := hq
              clear hq
              as_aux_lemma =>
                go_wp2_with (first
      | (go_at_call 21; refine (KX _ M.below).mono ?_; clear KX; rintro e W1 ⟨rfl, b1⟩; replace M := M.later b1; clear b1)
      | ((with_reducible show wpList _ _ _ (Oper.mk (some 31) (Op.alloc 23) _ _ _ _ :: _) _ _); refine wpList_alloc M rfl rfl rt23 ?_; clear M; intro k31 W M)
      | ((with_reducible show wpList _ _ _ (Oper.mk _ (Op.store 23 _ _) _ _ _ _ :: _) _ _); refine wpList_put M rfl _ _ rfl rt23 0 _ rfl rfl rfl rfl rfl (by simp [Value.oneCell']) ?_; clear M; intro W M; simp only [List.set_cons_zero, List.set_cons_succ] at M)
      | ((with_reducible show wpList _ _ _ (Oper.mk _ (Op.load 23 (Operand.tmp 7)) _ _ _ _ :: _) _ _); refine wpList_load23w (by rfl) _ rfl k7 0 nm ep mr al kd sc rfl (range_rowC (d := ⟨nm, ep, mr, al, kd, sc⟩) (N7 _ M.below)) ?_)
      | ((with_reducible show wpList _ _ _ (Oper.mk _ (Op.load 23 (Operand.tmp 31)) _ _ _ _ :: _) _ _); refine wpList_load M (by rfl) _ rfl rt23 rfl (.head _) (by rfl) ?_)
      | ((with_reducible show wpList _ _ _ (Oper.mk _ (Op.binOp .eql 23 _ _ 23) _ _ _ _ :: _) _ _); refine wpList_val (by rfl) (.bool true) ((exec_eql23 rfl ⟨n4, e4, m4, g4, y4, z4⟩ ⟨nm, ep, mr, al, kd, sc⟩ rfl rfl _).trans (by rw [HEQ.out])) ?_)
      | (go_at_call 23; refine (KS _ M.below).mono ?_; clear KS; rintro e W8 ⟨rfl, b8⟩; replace M := M.later b8; clear b8)
      | (go_at_call 17; refine (awake_any _).mono ?_; rintro e W9 ⟨rfl, b9⟩; replace M := M.later b9; clear b9))
                go_ret
                exact ⟨rfl, BX.trans (M.below.mono BX.size)⟩
            | false =>
              have HEQ : Hid (eqC ⟨n4, e4, m4, g4, y4, z4⟩ ⟨nm, ep, mr, al, kd, sc⟩ = false) := hq
              clear hq
              as_aux_lemma =>
                go_wp2_with (first
      | (go_at_call 21; refine (KX _ M.below).mono ?_; clear KX; rintro e W1 ⟨rfl, b1⟩; replace M := M.later b1; clear b1)
      | ((with_reducible show wpList _ _ _ (Oper.mk (some 31) (Op.alloc 23) _ _ _ _ :: _) _ _); refine wpList_alloc M rfl rfl rt23 ?_; clear M; intro k31 W M)
      | ((with_reducible show wpList _ _ _ (Oper.mk _ (Op.store 23 _ _) _ _ _ _ :: _) _ _); refine wpList_put M rfl _ _ rfl rt23 0 _ rfl rfl rfl rfl rfl (by simp [Value.oneCell']) ?_; clear M; intro W M; simp only [List.set_cons_zero, List.set_cons_succ] at M)
      | ((with_reducible show wpList _ _ _ (Oper.mk _ (Op.load 23 (Operand.tmp 7)) _ _ _ _ :: _) _ _); refine wpList_load23w (by rfl) _ rfl k7 0 nm ep mr al kd sc rfl (range_rowC (d := ⟨nm, ep, mr, al, kd, sc⟩) (N7 _ M.below)) ?_)
      | ((with_reducible show wpList _ _ _ (Oper.mk _ (Op.load 23 (Operand.tmp 31)) _ _ _ _ :: _) _ _); refine wpList_load M (by rfl) _ rfl rt23 rfl (.head _) (by rfl) ?_)
      | ((with_reducible show wpList _ _ _ (Oper.mk _ (Op.binOp .eql 23 _ _ 23) _ _ _ _ :: _) _ _); refine wpList_val (by rfl) (.bool false) ((exec_eql23 rfl ⟨n4, e4, m4, g4, y4, z4⟩ ⟨nm, ep, mr, al, kd, sc⟩ rfl rfl _).trans (by rw [HEQ.out])) ?_)
      | (go_at_call 23; refine (KS _ M.below).mono ?_; clear KS; rintro e W8 ⟨rfl, b8⟩; replace M := M.later b8; clear b8)
      | (go_at_call 17; refine (awake_any _).mono ?_; rintro e W9 ⟨rfl, b9⟩; replace M := M.later b9; clear b9))
                go_ret
                exact ⟨rfl, BX.trans (M.below.mono BX.size)⟩
      · have hE1 : (E == 0) = false := by simp [hE0]
        clear KY HCR HCM
        by_cases hF0 : F = 0
        · obtain ⟨hdf, o, ho, hoa⟩ := HDL.out hF0
          have hF1 : (F == 0) = true := by simp [hF0]
          have hdm : dlM l maker name = ⟨o.nm, o.ep + 1, maker, false, o.kd, o.sc⟩ := by unfold dlM; rw [ho]; rfl
          obtain ⟨no, eo, mo, ao, ko, so⟩ := o
          dsimp only at hoa hdm
          subst hoa
          rw [hdf, hdm] at KV
          rw [ho] at KL
          replace KV : ∀ W, Below wo.heap.size wo W → Calls Try.prog 21 #[.slice a3 V.length c3, .string name] W fun e w' => e = .returned (.tuple #[chv no (eo + 1) maker false ko so, .bool true]) ∧ Below W.heap.size W w' := KV
          replace KL : ∀ W, Below w.heap.size w W → Calls Try.prog 21 #[.slice a l.length cap, .string name] W fun e w' => e = .returned (.tuple #[chv no eo mo true ko so, .bool true]) ∧ Below W.heap.size W w' := KL
          have KN := fun w => newer_any no (eo + 1) maker false ko so no eo mo true ko so w
          rw [nw_next] at KN
          clear HDL hdf hdm ho hE0 hF0
          go_wp2_with (first
      | (go_at_call 21; refine (KL _ (BX.trans (M.below.mono BX.size))).mono ?_; clear KL; rintro e W1 ⟨rfl, b1⟩; replace M := M.later b1; clear b1)
      | ((with_reducible show wpList _ _ _ (Oper.mk (some 25) (Op.alloc 23) _ _ _ _ :: _) _ _); refine wpList_alloc M rfl rfl rt23 ?_; clear M; intro k25 W M)
      | ((with_reducible show wpList _ _ _ (Oper.mk _ (Op.store 23 _ _) _ _ _ _ :: _) _ _); refine wpList_put M rfl _ _ rfl rt23 0 _ rfl rfl rfl rfl rfl (by simp [Value.oneCell']) ?_; clear M; intro W M; simp only [List.set_cons_zero, List.set_cons_succ] at M)
      | (go_at_call 21; refine (KV _ M.below).mono ?_; clear KV; rintro e W1 ⟨rfl, b1⟩; replace M := M.later b1; clear b1)
      | ((with_reducible show wpList _ _ _ (Oper.mk (some 29) (Op.alloc 23) _ _ _ _ :: _) _ _); refine wpList_alloc M rfl rfl rt23 ?_; clear M; intro k29 W M)
      | ((with_reducible show wpList _ _ _ (Oper.mk _ (Op.load 4 _) _ _ _ _ :: _) _ _); refine wpList_cell4 M (by rfl) _ rfl _ rfl (by first | exact .head _ | exact .tail _ (.head _) | exact .tail _ (.tail _ (.head _))) rfl ?_)
      | ((with_reducible show wpList _ _ _ (Oper.mk _ (Op.load 23 _) _ _ _ _ :: _) _ _); refine wpList_load M (by rfl) _ rfl rt23 rfl (by first | exact .head _ | exact .tail _ (.head _) | exact .tail _ (.tail _ (.head _))) (by rfl) ?_)
      | (go_at_call 15; refine (KN _).mono ?_; clear KN; rintro e W1 ⟨rfl, b1⟩; replace M := M.later b1; clear b1)
      | ((with_reducible show wpList _ _ _ (Oper.mk _ (Op.load 9 _) _ _ _ _ :: _) _ _); refine wpList_str (by rfl) _ rfl k7 0 nm rfl (row_cell (N7 _ M.below) 0 _ rfl) ?_))
          rcases HTL2.out with ⟨hA, hB, hC⟩ | ⟨hA, hB, hC⟩
          · rw [hC] at KS
            have HEQ : Hid (eqC ⟨n4, e4, m4, g4, y4, z4⟩ ⟨nm, ep, mr, al, kd, sc⟩ = true) := (eqC_iff _ _).2 (HD4.out.symm.trans hB)
            clear hC hB
            rcases hA with hA | ⟨hA, hA4⟩
            · as_aux_lemma =>
                go_wp2_with (first
      | (go_at_call 21; refine (KX _ M.below).mono ?_; clear KX; rintro e W1 ⟨rfl, b1⟩; replace M := M.later b1; clear b1)
      | ((with_reducible show wpList _ _ _ (Oper.mk (some 31) (Op.alloc 23) _ _ _ _ :: _) _ _); refine wpList_alloc M rfl rfl rt23 ?_; clear M; intro k31 W M)
      | ((with_reducible show wpList _ _ _ (Oper.mk _ (Op.store 23 _ _) _ _ _ _ :: _) _ _); refine wpList_put M rfl _ _ rfl rt23 0 _ rfl rfl rfl rfl rfl (by simp [Value.oneCell']) ?_; clear M; intro W M; simp only [List.set_cons_zero, List.set_cons_succ] at M)
      | ((with_reducible show wpList _ _ _ (Oper.mk _ (Op.load 23 (Operand.tmp 7)) _ _ _ _ :: _) _ _); refine wpList_load23w (by rfl) _ rfl k7 0 nm ep mr al kd sc rfl (range_rowC (d := ⟨nm, ep, mr, al, kd, sc⟩) (N7 _ M.below)) ?_)
      | ((with_reducible show wpList _ _ _ (Oper.mk _ (Op.load 23 (Operand.tmp 31)) _ _ _ _ :: _) _ _); refine wpList_load M (by rfl) _ rfl rt23 rfl (.head _) (by rfl) ?_)
      | ((with_reducible show wpList _ _ _ (Oper.mk _ (Op.binOp .eql 23 _ _ 23) _ _ _ _ :: _) _ _); refine wpList_val (by rfl) (.bool true) ((exec_eql23 rfl ⟨n4, e4, m4, g4, y4, z4⟩ ⟨nm, ep, mr, al, kd, sc⟩ rfl rfl _).trans (by rw [HEQ.out])) ?_)
      | (go_at_call 23; refine (KS _ M.below).mono ?_; clear KS; rintro e W8 ⟨rfl, b8⟩; replace M := M.later b8; clear b8)
      | (go_at_call 17; refine (awake_any _).mono ?_; rintro e W9 ⟨rfl, b9⟩; replace M := M.later b9; clear b9))
                go_ret
                exact ⟨rfl, BX.trans (M.below.mono BX.size)⟩
            · as_aux_lemma =>
                go_wp2_with (first
      | (go_at_call 21; refine (KX _ M.below).mono ?_; clear KX; rintro e W1 ⟨rfl, b1⟩; replace M := M.later b1; clear b1)
      | ((with_reducible show wpList _ _ _ (Oper.mk (some 31) (Op.alloc 23) _ _ _ _ :: _) _ _); refine wpList_alloc M rfl rfl rt23 ?_; clear M; intro k31 W M)
      | ((with_reducible show wpList _ _ _ (Oper.mk _ (Op.store 23 _ _) _ _ _ _ :: _) _ _); refine wpList_put M rfl _ _ rfl rt23 0 _ rfl rfl rfl rfl rfl (by simp [Value.oneCell']) ?_; clear M; intro W M; simp only [List.set_cons_zero, List.set_cons_succ] at M)
      | ((with_reducible show wpList _ _ _ (Oper.mk _ (Op.load 23 (Operand.tmp 7)) _ _ _ _ :: _) _ _); refine wpList_load23w (by rfl) _ rfl k7 0 nm ep mr al kd sc rfl (range_rowC (d := ⟨nm, ep, mr, al, kd, sc⟩) (N7 _ M.below)) ?_)
      | ((with_reducible show wpList _ _ _ (Oper.mk _ (Op.load 23 (Operand.tmp 31)) _ _ _ _ :: _) _ _); refine wpList_load M (by rfl) _ rfl rt23 rfl (.head _) (by rfl) ?_)
      | ((with_reducible show wpList _ _ _ (Oper.mk _ (Op.binOp .eql 23 _ _ 23) _ _ _ _ :: _) _ _); refine wpList_val (by rfl) (.bool true) ((exec_eql23 rfl ⟨n4, e4, m4, g4, y4, z4⟩ ⟨nm, ep, mr, al, kd, sc⟩ rfl rfl _).trans (by rw [HEQ.out])) ?_)
      | (go_at_call 23; refine (KS _ M.below).mono ?_; clear KS; rintro e W8 ⟨rfl, b8⟩; replace M := M.later b8; clear b8)
      | (go_at_call 17; refine (awake_any _).mono ?_; rintro e W9 ⟨rfl, b9⟩; replace M := M.later b9; clear b9))
                go_ret
                exact ⟨rfl, BX.trans (M.below.mono BX.size)⟩
          · rw [hC] at KS
            clear hC
            cases hq : eqC ⟨n4, e4, m4, g4, y4, z4⟩ ⟨nm, ep, mr, al, kd, sc⟩ with
            | true =>
              have HEQ : Hid (eqC ⟨n4, e4, m4, g4, y4, z4⟩ ⟨nm, ep, mr, al, kd, sc⟩ = true) := hq
              clear hq
              as_aux_lemma =>
                go_wp2_with (first
      | (go_at_call 21; refine (KX _ M.below).mono ?_; clear KX; rintro e W1 ⟨rfl, b1⟩; replace M := M.later b1; clear b1)
      | ((with_reducible show wpList _ _ _ (Oper.mk (some 31) (Op.alloc 23) _ _ _ _ :: _) _ _); refine wpList_alloc M rfl rfl rt23 ?_; clear M; intro k31 W M)
      | ((with_reducible show wpList _ _ _ (Oper.mk _ (Op.store 23 _ _) _ _ _ _ :: _) _ _); refine wpList_put M rfl _ _ rfl rt23 0 _ rfl rfl rfl rfl rfl (by simp [Value.oneCell']) ?_; clear M; intro W M; simp only [List.set_cons_zero, List.set_cons_succ] at M)
      | ((with_reducible show wpList _ _ _ (Oper.mk _ (Op.load 23 (Operand.tmp 7)) _ _ _ _ :: _) _ _); refine wpList_load23w (by rfl) _ rfl k7 0 nm ep mr al kd sc rfl (range_rowC (d := ⟨nm, ep, mr, al, kd, sc⟩) (N7 _ M.below)) ?_)
      | ((with_reducible show wpList _ _ _ (Oper.mk _ (Op.load 23 (Operand.tmp 31)) _ _ _ _ :: _) _ _); refine wpList_load M (by rfl) _ rfl rt23 rfl (.head _) (by rfl) ?_)
      | ((with_reducible show wpList _ _ _ (Oper.mk _ (Op.binOp .eql 23 _ _ 23) _ _ _ _ :: _) _ _); refine wpList_val (by rfl) (.bool true) ((exec_eql23 rfl ⟨n4, e4, m4, g4, y4, z4⟩ ⟨nm, ep, mr, al, kd, sc⟩ rfl rfl _).trans (by rw [HEQ.out])) ?_)
      | (go_at_call 23; refine (KS _ M.below).mono ?_; clear KS; rintro e W8 ⟨rfl, b8⟩; replace M := M.later b8; clear b8)
      | (go_at_call 17; refine (awake_any _).mono ?_; rintro e W9 ⟨rfl, b9⟩; replace M := M.later b9; clear b9))
                go_ret
                exact ⟨rfl, BX.trans (M.below.mono BX.size)⟩
            | false =>
              have HEQ : Hid (eqC ⟨n4, e4, m4, g4, y4, z4⟩ ⟨nm, ep, mr, al, kd, sc⟩ = false) := hq
              clear hq
              as_aux_lemma =>
                go_wp2_with (first
      | (go_at_call 21; refine (KX _ M.below).mono ?_; clear KX; rintro e W1 ⟨rfl, b1⟩; replace M := M.later b1; clear b1)
      | ((with_reducible show wpList _ _ _ (Oper.mk (some 31) (Op.alloc 23) _ _ _ _ :: _) _ _); refine wpList_alloc M rfl rfl rt23 ?_; clear M; intro k31 W M)
      | ((with_reducible show wpList _ _ _ (Oper.mk _ (Op.store 23 _ _) _ _ _ _ :: _) _ _); refine wpList_put M rfl _ _ rfl rt23 0 _ rfl rfl rfl rfl rfl (by simp [Value.oneCell']) ?_; clear M; intro W M; simp only [List.set_cons_zero, List.set_cons_succ] at M)
      | ((with_reducible show wpList _ _ _ (Oper.mk _ (Op.load 23 (Operand.tmp 7)) _ _ _ _ :: _) _ _); refine wpList_load23w (by rfl) _ rfl k7 0 nm ep mr al kd sc rfl (range_rowC (d := ⟨nm, ep, mr, al, kd, sc⟩) (N7 _ M.below)) ?_)
      | ((with_reducible show wpList _ _ _ (Oper.mk _ (Op.load 23 (Operand.tmp 31)) _ _ _ _ :: _) _ _); refine wpList_load M (by rfl) _ rfl rt23 rfl (.head _) (by rfl) ?_)
      | ((with_reducible show wpList _ _ _ (Oper.mk _ (Op.binOp .eql 23 _ _ 23) _ _ _ _ :: _) _ _); refine wpList_val (by rfl) (.bool false) ((exec_eql23 rfl ⟨n4, e4, m4, g4, y4, z4⟩ ⟨nm, ep, mr, al, kd, sc⟩ rfl rfl _).trans (by rw [HEQ.out])) ?_)
      | (go_at_call 23; refine (KS _ M.below).mono ?_; clear KS; rintro e W8 ⟨rfl, b8⟩; replace M := M.later b8; clear b8)
      | (go_at_call 17; refine (awake_any _).mono ?_; rintro e W9 ⟨rfl, b9⟩; replace M := M.later b9; clear b9))
                go_ret
                exact ⟨rfl, BX.trans (M.below.mono BX.size)⟩
        · have hF1 : (F == 0) = false := by simp [hF0]
          obtain ⟨b0, hb0⟩ : ∃ b0, (lk name l).isSome = b0 := ⟨_, rfl⟩
          obtain ⟨⟨no, eo, mo, ao, ko, so⟩, hd0⟩ : ∃ d0, fdc (lk name l) = d0 := ⟨_, rfl⟩
          unfold fnd at KL
          rw [hb0, hd0] at KL
          replace KL : ∀ W, Below w.heap.size w W → Calls Try.prog 21 #[.slice a l.length cap, .string name] W fun e w' => e = .returned (.tuple #[chv no eo mo ao ko so, .bool b0]) ∧ Below W.heap.size W w' := KL
          clear HDL KV hb0 hd0 hE0 hF0
          go_wp2_with (first
      | (go_at_call 21; refine (KL _ (BX.trans (M.below.mono BX.size))).mono ?_; clear KL; rintro e W1 ⟨rfl, b1⟩; replace M := M.later b1; clear b1)
      | ((with_reducible show wpList _ _ _ (Oper.mk (some 25) (Op.alloc 23) _ _ _ _ :: _) _ _); refine wpList_alloc M rfl rfl rt23 ?_; clear M; intro k25 W M)
      | ((with_reducible show wpList _ _ _ (Oper.mk _ (Op.store 23 _ _) _ _ _ _ :: _) _ _); refine wpList_put M rfl _ _ rfl rt23 0 _ rfl rfl rfl rfl rfl (by simp [Value.oneCell']) ?_; clear M; intro W M; simp only [List.set_cons_zero, List.set_cons_succ] at M)
      | ((with_reducible show wpList _ _ _ (Oper.mk _ (Op.load 9 _) _ _ _ _ :: _) _ _); refine wpList_str (by rfl) _ rfl k7 0 nm rfl (row_cell (N7 _ M.below) 0 _ rfl) ?_))
          rcases HTL2.out with ⟨hA, hB, hC⟩ | ⟨hA, hB, hC⟩
          · rw [hC] at KS
            have HEQ : Hid (eqC ⟨n4, e4, m4, g4, y4, z4⟩ ⟨nm, ep, mr, al, kd, sc⟩ = true) := (eqC_iff _ _).2 (HD4.out.symm.trans hB)
            clear hC hB
            rcases hA with hA | ⟨hA, hA4⟩
            · as_aux_lemma =>
                go_wp2_with (first
      | (go_at_call 21; refine (KX _ M.below).mono ?_; clear KX; rintro e W1 ⟨rfl, b1⟩; replace M := M.later b1; clear b1)
      | ((with_reducible show wpList _ _ _ (Oper.mk (some 31) (Op.alloc 23) _ _ _ _ :: _) _ _); refine wpList_alloc M rfl rfl rt23 ?_; clear M; intro k31 W M)
      | ((with_reducible show wpList _ _ _ (Oper.mk _ (Op.store 23 _ _) _ _ _ _ :: _) _ _); refine wpList_put M rfl _ _ rfl rt23 0 _ rfl rfl rfl rfl rfl (by simp [Value.oneCell']) ?_; clear M; intro W M; simp only [List.set_cons_zero, List.set_cons_succ] at M)
      | ((with_reducible show wpList _ _ _ (Oper.mk _ (Op.load 23 (Operand.tmp 7)) _ _ _ _ :: _) _ _); refine wpList_load23w (by rfl) _ rfl k7 0 nm ep mr al kd sc rfl (range_rowC (d := ⟨nm, ep, mr, al, kd, sc⟩) (N7 _ M.below)) ?_)
      | ((with_reducible show wpList _ _ _ (Oper.mk _ (Op.load 23 (Operand.tmp 31)) _ _ _ _ :: _) _ _); refine wpList_load M (by rfl) _ rfl rt23 rfl (.head _) (by rfl) ?_)
      | ((with_reducible show wpList _ _ _ (Oper.mk _ (Op.binOp .eql 23 _ _ 23) _ _ _ _ :: _) _ _); refine wpList_val (by rfl) (.bool true) ((exec_eql23 rfl ⟨n4, e4, m4, g4, y4, z4⟩ ⟨nm, ep, mr, al, kd, sc⟩ rfl rfl _).trans (by rw [HEQ.out])) ?_)
      | (go_at_call 23; refine (KS _ M.below).mono ?_; clear KS; rintro e W8 ⟨rfl, b8⟩; replace M := M.later b8; clear b8)
      | (go_at_call 17; refine (awake_any _).mono ?_; rintro e W9 ⟨rfl, b9⟩; replace M := M.later b9; clear b9))
                go_ret
                exact ⟨rfl, BX.trans (M.below.mono BX.size)⟩
            · as_aux_lemma =>
                go_wp2_with (first
      | (go_at_call 21; refine (KX _ M.below).mono ?_; clear KX; rintro e W1 ⟨rfl, b1⟩; replace M := M.later b1; clear b1)
      | ((with_reducible show wpList _ _ _ (Oper.mk (some 31) (Op.alloc 23) _ _ _ _ :: _) _ _); refine wpList_alloc M rfl rfl rt23 ?_; clear M; intro k31 W M)
      | ((with_reducible show wpList _ _ _ (Oper.mk _ (Op.store 23 _ _) _ _ _ _ :: _) _ _); refine wpList_put M rfl _ _ rfl rt23 0 _ rfl rfl rfl rfl rfl (by simp [Value.oneCell']) ?_; clear M; intro W M; simp only [List.set_cons_zero, List.set_cons_succ] at M)
      | ((with_reducible show wpList _ _ _ (Oper.mk _ (Op.load 23 (Operand.tmp 7)) _ _ _ _ :: _) _ _); refine wpList_load23w (by rfl) _ rfl k7 0 nm ep mr al kd sc rfl (range_rowC (d := ⟨nm, ep, mr, al, kd, sc⟩) (N7 _ M.below)) ?_)
      | ((with_reducible show wpList _ _ _ (Oper.mk _ (Op.load 23 (Operand.tmp 31)) _ _ _ _ :: _) _ _); refine wpList_load M (by rfl) _ rfl rt23 rfl (.head _) (by rfl) ?_)
      | ((with_reducible show wpList _ _ _ (Oper.mk _ (Op.binOp .eql 23 _ _ 23) _ _ _ _ :: _) _ _); refine wpList_val (by rfl) (.bool true) ((exec_eql23 rfl ⟨n4, e4, m4, g4, y4, z4⟩ ⟨nm, ep, mr, al, kd, sc⟩ rfl rfl _).trans (by rw [HEQ.out])) ?_)
      | (go_at_call 23; refine (KS _ M.below).mono ?_; clear KS; rintro e W8 ⟨rfl, b8⟩; replace M := M.later b8; clear b8)
      | (go_at_call 17; refine (awake_any _).mono ?_; rintro e W9 ⟨rfl, b9⟩; replace M := M.later b9; clear b9))
                go_ret
                exact ⟨rfl, BX.trans (M.below.mono BX.size)⟩
          · rw [hC] at KS
            clear hC
            cases hq : eqC ⟨n4, e4, m4, g4, y4, z4⟩ ⟨nm, ep, mr, al, kd, sc⟩ with
            | true =>
              have HEQ : Hid (eqC ⟨n4, e4, m4, g4, y4, z4⟩ ⟨nm, ep, mr, al, kd, sc⟩ = true) := hq
              clear hq
              as_aux_lemma =>
                go_wp2_with (first
      | (go_at_call 21; refine (KX _ M.below).mono ?_; clear KX; rintro e W1 ⟨rfl, b1⟩; replace M := M.later b1; clear b1)
      | ((with_reducible show wpList _ _ _ (Oper.mk (some 31) (Op.alloc 23) _ _ _ _ :: _) _ _); refine wpList_alloc M rfl rfl rt23 ?_; clear M; intro k31 W M)
      | ((with_reducible show wpList _ _ _ (Oper.mk _ (Op.store 23 _ _) _ _ _ _ :: _) _ _); refine wpList_put M rfl _ _ rfl rt23 0 _ rfl rfl rfl rfl rfl (by simp [Value.oneCell']) ?_; clear M; intro W M; simp only [List.set_cons_zero, List.set_cons_succ] at M)
      | ((with_reducible show wpList _ _ _ (Oper.mk _ (Op.load 23 (Operand.tmp 7)) _ _ _ _ :: _) _ _); refine wpList_load23w (by rfl) _ rfl k7 0 nm ep mr al kd sc rfl (range_rowC (d := ⟨nm, ep, mr, al, kd, sc⟩) (N7 _ M.below)) ?_)
      | ((with_reducible show wpList _ _ _ (Oper.mk _ (Op.load 23 (Operand.tmp 31)) _ _ _ _ :: _) _ _); refine wpList_load M (by rfl) _ rfl rt23 rfl (.head _) (by rfl) ?_)
      | ((with_reducible show wpList _ _ _ (Oper.mk _ (Op.binOp .eql 23 _ _ 23) _ _ _ _ :: _) _ _); refine wpList_val (by rfl) (.bool true) ((exec_eql23 rfl ⟨n4, e4, m4, g4, y4, z4⟩ ⟨nm, ep, mr, al, kd, sc⟩ rfl rfl _).trans (by rw [HEQ.out])) ?_)
      | (go_at_call 23; refine (KS _ M.below).mono ?_; clear KS; rintro e W8 ⟨rfl, b8⟩; replace M := M.later b8; clear b8)
      | (go_at_call 17; refine (awake_any _).mono ?_; rintro e W9 ⟨rfl, b9⟩; replace M := M.later b9; clear b9))
                go_ret
                exact ⟨rfl, BX.trans (M.below.mono BX.size)⟩
            | false =>
              have HEQ : Hid (eqC ⟨n4, e4, m4, g4, y4, z4⟩ ⟨nm, ep, mr, al, kd, sc⟩ = false) := hq
              clear hq
              as_aux_lemma =>
                go_wp2_with (first
      | (go_at_call 21; refine (KX _ M.below).mono ?_; clear KX; rintro e W1 ⟨rfl, b1⟩; replace M := M.later b1; clear b1)
      | ((with_reducible show wpList _ _ _ (Oper.mk (some 31) (Op.alloc 23) _ _ _ _ :: _) _ _); refine wpList_alloc M rfl rfl rt23 ?_; clear M; intro k31 W M)
      | ((with_reducible show wpList _ _ _ (Oper.mk _ (Op.store 23 _ _) _ _ _ _ :: _) _ _); refine wpList_put M rfl _ _ rfl rt23 0 _ rfl rfl rfl rfl rfl (by simp [Value.oneCell']) ?_; clear M; intro W M; simp only [List.set_cons_zero, List.set_cons_succ] at M)
      | ((with_reducible show wpList _ _ _ (Oper.mk _ (Op.load 23 (Operand.tmp 7)) _ _ _ _ :: _) _ _); refine wpList_load23w (by rfl) _ rfl k7 0 nm ep mr al kd sc rfl (range_rowC (d := ⟨nm, ep, mr, al, kd, sc⟩) (N7 _ M.below)) ?_)
      | ((with_reducible show wpList _ _ _ (Oper.mk _ (Op.load 23 (Operand.tmp 31)) _ _ _ _ :: _) _ _); refine wpList_load M (by rfl) _ rfl rt23 rfl (.head _) (by rfl) ?_)
      | ((with_reducible show wpList _ _ _ (Oper.mk _ (Op.binOp .eql 23 _ _ 23) _ _ _ _ :: _) _ _); refine wpList_val (by rfl) (.bool false) ((exec_eql23 rfl ⟨n4, e4, m4, g4, y4, z4⟩ ⟨nm, ep, mr, al, kd, sc⟩ rfl rfl _).trans (by rw [HEQ.out])) ?_)
      | (go_at_call 23; refine (KS _ M.below).mono ?_; clear KS; rintro e W8 ⟨rfl, b8⟩; replace M := M.later b8; clear b8)
      | (go_at_call 17; refine (awake_any _).mono ?_; rintro e W9 ⟨rfl, b9⟩; replace M := M.later b9; clear b9))
                go_ret
                exact ⟨rfl, BX.trans (M.below.mono BX.size)⟩
end Go.Proofs.Ytmbchcpggbfkcaa
