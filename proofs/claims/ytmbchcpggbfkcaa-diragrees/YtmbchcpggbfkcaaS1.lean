/-
  Is each stamp of a name one record's alone?
-/
import Derived.Test.YtmbchcpggbfkcaaW5
import Derived.Test.YtmbchcpggbfkcaaQ3
namespace Go.Proofs.Ytmbchcpggbfkcaa
open Go.ChangeShapes Go.WideShapes Go.ChangeAt Go.RowKit Go.Maps Go.Shelf
set_option linter.unusedVariables false
set_option linter.unusedSimpArgs false

section
variable {ops : Array Oper} {rest : List Oper} {o : Oper} {A : Act} {W : World} {Q : Exit → Act → World → Prop}
theorem wpList_i2 (hgd : Region.wanted o (yielded ops A.tmps) = true) (x : Operand) (ho : o.op = .load 2 x) (k i : Nat) (n : Int) (hx : A.eval x = .pointer (some ⟨k, i, none⟩)) (hc : W.cell? ⟨k, i, none⟩ = some (.int .i64 n))
    (H : wpList Try.prog ops Q rest (A.put o.dst (.int .i64 n)) W) : wpList Try.prog ops Q (o :: rest) A W := by
  refine wpList_val hgd _ ?_ H
  unfold execOp
  simp only [ho, hx]
  go_simp
theorem wpList_i3 (hgd : Region.wanted o (yielded ops A.tmps) = true) (x : Operand) (ho : o.op = .load 3 x) (k i : Nat) (n : Int) (hx : A.eval x = .pointer (some ⟨k, i, none⟩)) (hc : W.cell? ⟨k, i, none⟩ = some (.int .i64 n))
    (H : wpList Try.prog ops Q rest (A.put o.dst (.int .i64 n)) W) : wpList Try.prog ops Q (o :: rest) A W := by
  refine wpList_val hgd _ ?_ H
  unfold execOp
  simp only [ho, hx]
  go_simp
end
def clP (d c : CH) : Bool := decide (d.nm = c.nm) && (decide (d.ep = c.ep) && (decide (d.mr = c.mr) && !eqC d c))
def ofT (p q r : Nat) (t : Nat) : Nat := match t with
  | 0 => 0
  | 1 => p
  | 2 => p + q
  | _ => p + q + r
theorem any_step {P : List CH} {f : CH → Bool} {i : Nat} {x : CH} (h : P[i]? = some x) : (P.take (i + 1)).any f = ((P.take i).any f || f x) := by
  rw [List.take_add_one, h, List.any_append]
  simp
theorem any_in {P : List CH} {f : CH → Bool} {i : Nat} {x : CH} (h : P[i]? = some x) (hf : f x = true) : P.any f = true := List.any_eq_true.2 ⟨x, List.mem_of_getElem? h, hf⟩
theorem stR_step {F P : List CH} {p k : Nat} {c : CH} (h : F[p]? = some c) (hP : P = F.take p) : stR (F.drop p) P k = if clash P c = true then none else stR (F.drop (p + 1)) (P ++ [c]) (k + if known P c = true then 0 else 1) := by
  rw [drop_at h]
  rfl
theorem stmp_none {F : List CH} (h : stR F [] 0 = none) : stmpB F = false := by unfold stmpB; rw [h]
theorem stmp_some {F : List CH} {k : Nat} (h : stR F [] 0 = some k) : stmpB F = decide ((k : Int) ≤ 8) := by
  unfold stmpB
  rw [h]
  by_cases c : k ≤ 8
  · simp only [c, decide_true]; exact (decide_eq_true (by omega)).symm
  · simp only [c, decide_false]; exact (decide_eq_false (by omega)).symm
set_option maxRecDepth 100000 in
set_option maxHeartbeats 16000000 in
theorem stamped_any (a1 a2 a3 : Option Addr) (c1 c2 c3 kb : Nat) (l1 l2 l3 : List CH) (w : World) (hB : w.heap[kb]? = some (.cells #[.slice a1 l1.length c1, .slice a2 l2.length c2, .slice a3 l3.length c3] 24 (0, 0))) (r1 : RdC w a1 l1.length c1 l1) (r2 : RdC w a2 l2.length c2 l2) (r3 : RdC w a3 l3.length c3 l3) (n1 : l1.length ≤ 8) (n2 : l2.length ≤ 8) (n3 : l3.length ≤ 8) : Calls Try.prog 32 #[.slice (some ⟨kb, 0, none⟩) 3 3] w fun e w' => e = .returned (.bool (stmpB (l1 ++ l2 ++ l3))) ∧ Below w.heap.size w w' := by
  obtain ⟨F, hF⟩ : ∃ F, l1 ++ l2 ++ l3 = F := ⟨_, rfl⟩
  have HT : Hid (∀ t, t < 3 → ∃ aT cT T, w.cell? ⟨kb, t, none⟩ = some (.slice aT T.length cT) ∧ RdC w aT T.length cT T ∧ (∀ j x, T[j]? = some x → F[ofT l1.length l2.length l3.length t + j]? = some x) ∧ ofT l1.length l2.length l3.length (t + 1) = ofT l1.length l2.length l3.length t + T.length ∧ T.length ≤ 8 ∧ kb < w.heap.size) := by
    intro t ht
    match t, ht with
    | 0, _ => exact ⟨_, _, l1, row_cell hB 0 _ rfl, r1, fun j x h => by
        have hj := (List.getElem?_eq_some_iff.1 h).1
        show F[0 + j]? = some x
        rw [← hF, Nat.zero_add, List.append_assoc, List.getElem?_append_left hj]; exact h, (Nat.zero_add _).symm, n1, row_lt hB⟩
    | 1, _ => exact ⟨_, _, l2, row_cell hB 1 _ rfl, r2, fun j x h => by
        have hj := (List.getElem?_eq_some_iff.1 h).1
        show F[l1.length + j]? = some x
        rw [← hF, List.append_assoc, List.getElem?_append_right (by omega), Nat.add_sub_cancel_left, List.getElem?_append_left hj]; exact h, rfl, n2, row_lt hB⟩
    | 2, _ => exact ⟨_, _, l3, row_cell hB 2 _ rfl, r3, fun j x h => by
        have hj := (List.getElem?_eq_some_iff.1 h).1
        show F[l1.length + l2.length + j]? = some x
        rw [← hF, List.getElem?_append_right (by rw [List.length_append]; omega), List.length_append, Nat.add_sub_cancel_left]; exact h, rfl, n3, row_lt hB⟩
  have HOF : Hid (∀ t, t ≤ 3 → ofT l1.length l2.length l3.length t ≤ 24) := by
    intro t ht
    match t, ht with
    | 0, _ => exact Nat.zero_le _
    | 1, _ => show l1.length ≤ 24; omega
    | 2, _ => show l1.length + l2.length ≤ 24; omega
    | 3, _ => show l1.length + l2.length + l3.length ≤ 24; omega
  have HFL : Hid (F.length = ofT l1.length l2.length l3.length 3) := by show _ = _; rw [← hF, List.length_append, List.length_append]; rfl
  rw [hF]
  clear hF r1 r2 r3 n1 n2 n3 hB
  go_enter Try.func32, Try.ntmps32
  go_wp2
  go_loopg [3, 4, 6, 8, 9, 11, 14] 3 (fun gk v3 v4 v6 v8 v9 v11 v14 wr => ∃ (t k : Nat) (v : Value) (P : List CH), v = v3 ∧ v4 = .int .i64 (k : Int) ∧ v14 = .int .i64 (t : Int) ∧ t + gk = 3 ∧ Mem w wr [] ∧ wr.ownsRow w.heap.size 23 6 v P.length (csC P) ∧ Hid (P = F.take (ofT l1.length l2.length l3.length t) ∧ P.length = ofT l1.length l2.length l3.length t ∧ stR F [] 0 = stR (F.drop (ofT l1.length l2.length l3.length t)) P k ∧ k ≤ P.length))
  case atStart => exact ⟨0, 0, _, [], rfl, by first | rfl | go_num, by first | rfl | go_num, by omega, Mem.nil w, World.ownsRow_nil _ _ _ _, ⟨rfl, rfl, rfl, Nat.le_refl _⟩⟩
  case round =>
    obtain ⟨t, k0, v, P0, rfl, rfl, rfl, hgt, M0, O, HQ⟩ := hrel
    obtain ⟨gkt, hgo⟩ : ∃ g, g = gk := ⟨_, rfl⟩
    subst hgo
    obtain ⟨wo, hwo⟩ : ∃ x, x = wr := ⟨_, rfl⟩
    subst hwo
    by_cases ht : t < 3
    case pos =>
      have HI : Hid (t < 3 ∧ t + gkt = 3) := ⟨ht, hgt⟩
      have htI : (t : Int) < 3 := by omega
      have hwt : IntKind.i64.wrap ((t : Int) + 1) = (t : Int) + 1 := by rw [IntKind.wrap_i64]; omega
      obtain ⟨aT, cT, T, hcell, RT9, hFT, hof, hT8, hkb⟩ := HT.out t ht
      have x0 : wo.cell? ⟨kb, t, none⟩ = some (.slice aT T.length cT) := (World.cell?_of_block (w := w) (a := ⟨kb, t, none⟩) (M0.below.block kb hkb)).trans hcell
      have HT8 : Hid (T.length ≤ 8) := hT8
      have HFT : Hid (∀ j x, T[j]? = some x → F[ofT l1.length l2.length l3.length t + j]? = some x) := hFT
      have HOT : Hid (ofT l1.length l2.length l3.length (t + 1) = ofT l1.length l2.length l3.length t + T.length) := hof
      clear hFT hof hT8 hkb hcell ht hgt
      go_wp2
      clear x0
      go_loopg [3, 4, 8, 9, 11, 20] T.length (fun gk v3 v4 v8 v9 v11 v20 wr => ∃ (j k : Nat) (v : Value) (P : List CH), v = v3 ∧ v4 = .int .i64 (k : Int) ∧ v20 = .int .i64 (j : Int) ∧ j + gk = T.length ∧ Mem w wr [] ∧ wr.ownsRow w.heap.size 23 6 v P.length (csC P) ∧ Hid (P = F.take (ofT l1.length l2.length l3.length t + j) ∧ P.length = ofT l1.length l2.length l3.length t + j ∧ stR F [] 0 = stR (F.drop (ofT l1.length l2.length l3.length t + j)) P k ∧ k ≤ P.length))
      case atStart => exact ⟨0, k0, _, P0, rfl, rfl, by first | rfl | go_num, by omega, M0, O, HQ⟩
      case round =>
        clear M0 O HQ
        obtain ⟨j, k, v, P, rfl, rfl, rfl, hgj, M0, O, HQ⟩ := hrel
        obtain ⟨gkj, hgo⟩ : ∃ g, g = gk := ⟨_, rfl⟩
        subst hgo
        obtain ⟨wj, hwo⟩ : ∃ x, x = wr := ⟨_, rfl⟩
        subst hwo
        by_cases hj : j < T.length
        case pos =>
          have HJ : Hid (j < T.length) := hj
          have HGJ : Hid (j + gkj = T.length) := hgj
          have hjI : (j : Int) < (T.length : Int) := by omega
          have hwj : IntKind.i64.wrap ((j : Int) + 1) = (j : Int) + 1 := by rw [IntKind.wrap_i64]; have := HT8.out; omega
          obtain ⟨av, cv, rfl⟩ : ∃ av cv, v = .slice av P.length cv := by
            rcases O.2 with ⟨e, h0⟩ | ⟨g, cp, cur, e, _⟩
            · exact ⟨_, _, by rw [e, h0]⟩
            · exact ⟨_, _, e⟩
          obtain ⟨b, off, rfl, hb1, hd, hra⟩ := RT9.at j hj
          obtain ⟨⟨nm, ep, mr, al, kd, sc⟩, hri⟩ : ∃ r, T.getD j CH.z = r := ⟨_, rfl⟩
          rw [hri] at hra hd
          have HFX : Hid (F[ofT l1.length l2.length l3.length t + j]? = some ⟨nm, ep, mr, al, kd, sc⟩) := HFT.out j _ hd
          have HPP : Hid (P = F.take (ofT l1.length l2.length l3.length t + j) ∧ P.length = ofT l1.length l2.length l3.length t + j) := ⟨HQ.out.1, HQ.out.2.1⟩
          have HPL : Hid (P.length ≤ 24) := by
            show _ ≤ _
            rw [HPP.out.2]
            have h1 := HOT.out
            have h2 := HOF.out (t + 1) (by have := HI.out; omega)
            have := HJ.out
            omega
          have HKP : Hid (k ≤ P.length) := HQ.out.2.2.2
          have hwk : IntKind.i64.wrap ((k : Int) + 1) = (k : Int) + 1 := by rw [IntKind.wrap_i64]; have := HPL.out; have := HKP.out; omega
          have HST : Hid (stR F [] 0 = stR (F.drop (ofT l1.length l2.length l3.length t + j)) P k ∧ stR (F.drop (ofT l1.length l2.length l3.length t + j)) P k = if clash P ⟨nm, ep, mr, al, kd, sc⟩ = true then none else stR (F.drop (ofT l1.length l2.length l3.length t + j + 1)) (P ++ [⟨nm, ep, mr, al, kd, sc⟩]) (k + if known P ⟨nm, ep, mr, al, kd, sc⟩ = true then 0 else 1)) := ⟨HQ.out.2.2.1, stR_step HFX.out HPP.out.1⟩
          have KR : ∀ X, Below w.heap.size w X → X.rangeAt b (off + j * 6) (CH.cells ⟨nm, ep, mr, al, kd, sc⟩) := fun X h => range_later hra hb1 h
          have M := M0.own O (fun g hg p hp => by cases hp)
          clear hri hd hra hj hgj HQ
          go_wp2_with (first
      | ((with_reducible show wpList _ _ _ (Oper.mk _ (Op.load 23 (Operand.tmp 22)) _ _ _ _ :: _) _ _); refine wpList_load23w (by rfl) _ rfl b (off + j * 6) nm ep mr al kd sc rfl (KR _ (M0.back M).below) ?_)
      | ((with_reducible show wpList _ _ _ (Oper.mk (some 8) (Op.alloc 23) _ _ _ _ :: _) _ _); refine wpList_alloc M rfl rfl rt23 ?_; clear M; intro k8 W M)
      | ((with_reducible show wpList _ _ _ (Oper.mk _ (Op.store 23 _ _) _ _ _ _ :: _) _ _); refine wpList_put M rfl _ _ rfl rt23 0 _ rfl rfl rfl rfl rfl (by simp [Value.oneCell']) ?_; clear M; intro W M; simp only [List.set_cons_zero, List.set_cons_succ] at M))
          have M0c := M0.back M
          have Oc := M.owns O
          have hnec := M.ne
          have N8 : ∀ X, Below W.heap.size W X → X.heap[k8]? = some (.cells (chc nm ep mr al kd sc) 23 (0, 0)) := fun X b => (b.block k8 (M.lt (k := k8) (.head _))).trans (M.get (.head _))
          obtain ⟨ax, cx, ex, LP, _⟩ := own_lstC Oc rfl
          have BC := M0c.below
          cases ex
          clear M M0 O
          go_loopg [9, 11, 26] P.length (fun gk v9 v11 v26 wr => ∃ (i : Nat) (kn : Bool), v9 = .bool kn ∧ v26 = .int .i64 (i : Int) ∧ i + gk = P.length ∧ Below W.heap.size W wr ∧ Hid ((P.take i).any (fun d => decide (d.nm = nm)) = kn) ∧ Hid ((P.take i).any (fun d => clP d ⟨nm, ep, mr, al, kd, sc⟩) = false))
          case atStart => exact ⟨0, false, rfl, by first | rfl | go_num, by omega, Below.refl _ _, rfl, rfl⟩
          case round =>
            obtain ⟨i, kn, rfl, rfl, hgi, BR, HK, HCL⟩ := hrel
            by_cases hi : i < P.length
            case pos =>
              have HII : Hid (i < P.length) := hi
              have HGI : Hid (i + gk = P.length) := hgi
              have hiI : (i : Int) < (P.length : Int) := by omega
              have hwi : IntKind.i64.wrap ((i : Int) + 1) = (i : Int) + 1 := by rw [IntKind.wrap_i64]; have := HPL.out; omega
              obtain ⟨g9, off9, e9, hg9, hd9, hra9⟩ := ((LP.below BR).rd (by have := HPL.out; omega)).at i hi
              subst e9
              obtain ⟨⟨nm', ep', mr', al', kd', sc'⟩, hri⟩ : ∃ r, P.getD i CH.z = r := ⟨_, rfl⟩
              rw [hri] at hra9 hd9
              have HK1 : Hid ((P.take (i + 1)).any (fun d => decide (d.nm = nm)) = ((P.take i).any (fun d => decide (d.nm = nm)) || decide (nm' = nm))) := any_step hd9
              have HC1 : Hid ((P.take (i + 1)).any (fun d => clP d ⟨nm, ep, mr, al, kd, sc⟩) = ((P.take i).any (fun d => clP d ⟨nm, ep, mr, al, kd, sc⟩) || clP ⟨nm', ep', mr', al', kd', sc'⟩ ⟨nm, ep, mr, al, kd, sc⟩)) := any_step hd9
              have HKN : Hid ((P.take i).any (fun d => decide (d.nm = nm)) = kn ∧ (P.take i).any (fun d => clP d ⟨nm, ep, mr, al, kd, sc⟩) = false) := ⟨HK.out, HCL.out⟩
              have HDD : Hid (P[i]? = some ⟨nm', ep', mr', al', kd', sc'⟩) := hd9
              have M := Mem.nil wr
              clear hri hi HK HCL hd9 hgi
              by_cases h1 : nm' = nm
              case neg =>
                have g1 : (nm'.toList == nm.toList) = false := nm_bne h1
                have H1 : Hid (nm' ≠ nm) := h1
                clear h1
                go_wp2_with (first
      | ((with_reducible show wpList _ _ _ (Oper.mk _ (Op.load 23 (Operand.tmp 28)) _ _ _ _ :: _) _ _); refine wpList_load23w (by rfl) _ rfl g9 (off9 + i * 6) nm' ep' mr' al' kd' sc' rfl (range_later hra9 hg9 M.below) ?_)
      | ((with_reducible show wpList _ _ _ (Oper.mk (some 11) (Op.alloc 23) _ _ _ _ :: _) _ _); refine wpList_alloc M rfl rfl rt23 ?_; clear M; intro k11 W M)
      | ((with_reducible show wpList _ _ _ (Oper.mk _ (Op.store 23 _ _) _ _ _ _ :: _) _ _); refine wpList_put M rfl _ _ rfl rt23 0 _ rfl rfl rfl rfl rfl (by simp [Value.oneCell']) ?_; clear M; intro W M; simp only [List.set_cons_zero, List.set_cons_succ] at M)
      | ((with_reducible show wpList _ _ _ (Oper.mk _ (Op.load 9 _) _ _ _ _ :: _) _ _); refine wpList_cell9 M (by rfl) _ rfl _ rfl (.head _) rfl ?_)
      | ((with_reducible show wpList _ _ _ (Oper.mk _ (Op.load 2 _) _ _ _ _ :: _) _ _); refine wpList_cell2 M (by rfl) _ rfl _ rfl (.head _) rfl ?_)
      | ((with_reducible show wpList _ _ _ (Oper.mk _ (Op.load 3 _) _ _ _ _ :: _) _ _); refine wpList_cell3 M (by rfl) _ rfl _ rfl (.head _) rfl ?_)
      | ((with_reducible show wpList _ _ _ (Oper.mk _ (Op.load 9 _) _ _ _ _ :: _) _ _); refine wpList_str (by rfl) _ rfl k8 0 nm rfl (row_cell (N8 _ (BR.trans (M.below.mono BR.size))) 0 _ rfl) ?_)
      | ((with_reducible show wpList _ _ _ (Oper.mk _ (Op.load 2 _) _ _ _ _ :: _) _ _); refine wpList_i2 (by rfl) _ rfl k8 1 ep rfl (row_cell (N8 _ (BR.trans (M.below.mono BR.size))) 1 _ rfl) ?_)
      | ((with_reducible show wpList _ _ _ (Oper.mk _ (Op.load 3 _) _ _ _ _ :: _) _ _); refine wpList_i3 (by rfl) _ rfl k8 2 mr rfl (row_cell (N8 _ (BR.trans (M.below.mono BR.size))) 2 _ rfl) ?_)
      | ((with_reducible show wpList _ _ _ (Oper.mk _ (Op.load 23 (Operand.tmp 11)) _ _ _ _ :: _) _ _); refine wpList_load M (by rfl) _ rfl rt23 rfl (.head _) (by rfl) ?_)
      | ((with_reducible show wpList _ _ _ (Oper.mk _ (Op.load 23 (Operand.tmp 8)) _ _ _ _ :: _) _ _); refine wpList_load23w (by rfl) _ rfl k8 0 nm ep mr al kd sc rfl (range_rowC (d := ⟨nm, ep, mr, al, kd, sc⟩) (N8 _ (BR.trans (M.below.mono BR.size)))) ?_))
                go_roundg (gk - 1)
                case measure => have := HII.out; have := HGI.out; omega
                case rel =>
                  exact ⟨i + 1, kn, rfl, by first | rfl | go_num, by have := HII.out; have := HGI.out; omega, BR.trans (M.below.mono BR.size), by show _ = _; rw [HK1.out, HKN.out.1]; simp [H1.out], by show _ = _; rw [HC1.out, HKN.out.2]; simp [clP, H1.out]⟩
              case pos =>
              have g1 : (nm'.toList == nm.toList) = true := nm_beq.2 h1
              have H1 : Hid (nm' = nm) := h1
              clear h1
              by_cases h2 : ep' = ep
              case neg =>
                have g2 : (ep' == ep) = false := by simp [h2]
                have H2 : Hid (ep' ≠ ep) := h2
                clear h2
                go_wp2_with (first
      | ((with_reducible show wpList _ _ _ (Oper.mk _ (Op.load 23 (Operand.tmp 28)) _ _ _ _ :: _) _ _); refine wpList_load23w (by rfl) _ rfl g9 (off9 + i * 6) nm' ep' mr' al' kd' sc' rfl (range_later hra9 hg9 M.below) ?_)
      | ((with_reducible show wpList _ _ _ (Oper.mk (some 11) (Op.alloc 23) _ _ _ _ :: _) _ _); refine wpList_alloc M rfl rfl rt23 ?_; clear M; intro k11 W M)
      | ((with_reducible show wpList _ _ _ (Oper.mk _ (Op.store 23 _ _) _ _ _ _ :: _) _ _); refine wpList_put M rfl _ _ rfl rt23 0 _ rfl rfl rfl rfl rfl (by simp [Value.oneCell']) ?_; clear M; intro W M; simp only [List.set_cons_zero, List.set_cons_succ] at M)
      | ((with_reducible show wpList _ _ _ (Oper.mk _ (Op.load 9 _) _ _ _ _ :: _) _ _); refine wpList_cell9 M (by rfl) _ rfl _ rfl (.head _) rfl ?_)
      | ((with_reducible show wpList _ _ _ (Oper.mk _ (Op.load 2 _) _ _ _ _ :: _) _ _); refine wpList_cell2 M (by rfl) _ rfl _ rfl (.head _) rfl ?_)
      | ((with_reducible show wpList _ _ _ (Oper.mk _ (Op.load 3 _) _ _ _ _ :: _) _ _); refine wpList_cell3 M (by rfl) _ rfl _ rfl (.head _) rfl ?_)
      | ((with_reducible show wpList _ _ _ (Oper.mk _ (Op.load 9 _) _ _ _ _ :: _) _ _); refine wpList_str (by rfl) _ rfl k8 0 nm rfl (row_cell (N8 _ (BR.trans (M.below.mono BR.size))) 0 _ rfl) ?_)
      | ((with_reducible show wpList _ _ _ (Oper.mk _ (Op.load 2 _) _ _ _ _ :: _) _ _); refine wpList_i2 (by rfl) _ rfl k8 1 ep rfl (row_cell (N8 _ (BR.trans (M.below.mono BR.size))) 1 _ rfl) ?_)
      | ((with_reducible show wpList _ _ _ (Oper.mk _ (Op.load 3 _) _ _ _ _ :: _) _ _); refine wpList_i3 (by rfl) _ rfl k8 2 mr rfl (row_cell (N8 _ (BR.trans (M.below.mono BR.size))) 2 _ rfl) ?_)
      | ((with_reducible show wpList _ _ _ (Oper.mk _ (Op.load 23 (Operand.tmp 11)) _ _ _ _ :: _) _ _); refine wpList_load M (by rfl) _ rfl rt23 rfl (.head _) (by rfl) ?_)
      | ((with_reducible show wpList _ _ _ (Oper.mk _ (Op.load 23 (Operand.tmp 8)) _ _ _ _ :: _) _ _); refine wpList_load23w (by rfl) _ rfl k8 0 nm ep mr al kd sc rfl (range_rowC (d := ⟨nm, ep, mr, al, kd, sc⟩) (N8 _ (BR.trans (M.below.mono BR.size)))) ?_))
                go_roundg (gk - 1)
                case measure => have := HII.out; have := HGI.out; omega
                case rel =>
                  exact ⟨i + 1, true, rfl, by first | rfl | go_num, by have := HII.out; have := HGI.out; omega, BR.trans (M.below.mono BR.size), by show _ = _; rw [HK1.out, HKN.out.1]; simp [H1.out], by show _ = _; rw [HC1.out, HKN.out.2]; simp [clP, H2.out]⟩
              case pos =>
              have g2 : (ep' == ep) = true := by simp [h2]
              have H2 : Hid (ep' = ep) := h2
              clear h2
              by_cases h3 : mr' = mr
              case neg =>
                have g3 : (mr' == mr) = false := by simp [h3]
                have H3 : Hid (mr' ≠ mr) := h3
                clear h3
                go_wp2_with (first
      | ((with_reducible show wpList _ _ _ (Oper.mk _ (Op.load 23 (Operand.tmp 28)) _ _ _ _ :: _) _ _); refine wpList_load23w (by rfl) _ rfl g9 (off9 + i * 6) nm' ep' mr' al' kd' sc' rfl (range_later hra9 hg9 M.below) ?_)
      | ((with_reducible show wpList _ _ _ (Oper.mk (some 11) (Op.alloc 23) _ _ _ _ :: _) _ _); refine wpList_alloc M rfl rfl rt23 ?_; clear M; intro k11 W M)
      | ((with_reducible show wpList _ _ _ (Oper.mk _ (Op.store 23 _ _) _ _ _ _ :: _) _ _); refine wpList_put M rfl _ _ rfl rt23 0 _ rfl rfl rfl rfl rfl (by simp [Value.oneCell']) ?_; clear M; intro W M; simp only [List.set_cons_zero, List.set_cons_succ] at M)
      | ((with_reducible show wpList _ _ _ (Oper.mk _ (Op.load 9 _) _ _ _ _ :: _) _ _); refine wpList_cell9 M (by rfl) _ rfl _ rfl (.head _) rfl ?_)
      | ((with_reducible show wpList _ _ _ (Oper.mk _ (Op.load 2 _) _ _ _ _ :: _) _ _); refine wpList_cell2 M (by rfl) _ rfl _ rfl (.head _) rfl ?_)
      | ((with_reducible show wpList _ _ _ (Oper.mk _ (Op.load 3 _) _ _ _ _ :: _) _ _); refine wpList_cell3 M (by rfl) _ rfl _ rfl (.head _) rfl ?_)
      | ((with_reducible show wpList _ _ _ (Oper.mk _ (Op.load 9 _) _ _ _ _ :: _) _ _); refine wpList_str (by rfl) _ rfl k8 0 nm rfl (row_cell (N8 _ (BR.trans (M.below.mono BR.size))) 0 _ rfl) ?_)
      | ((with_reducible show wpList _ _ _ (Oper.mk _ (Op.load 2 _) _ _ _ _ :: _) _ _); refine wpList_i2 (by rfl) _ rfl k8 1 ep rfl (row_cell (N8 _ (BR.trans (M.below.mono BR.size))) 1 _ rfl) ?_)
      | ((with_reducible show wpList _ _ _ (Oper.mk _ (Op.load 3 _) _ _ _ _ :: _) _ _); refine wpList_i3 (by rfl) _ rfl k8 2 mr rfl (row_cell (N8 _ (BR.trans (M.below.mono BR.size))) 2 _ rfl) ?_)
      | ((with_reducible show wpList _ _ _ (Oper.mk _ (Op.load 23 (Operand.tmp 11)) _ _ _ _ :: _) _ _); refine wpList_load M (by rfl) _ rfl rt23 rfl (.head _) (by rfl) ?_)
      | ((with_reducible show wpList _ _ _ (Oper.mk _ (Op.load 23 (Operand.tmp 8)) _ _ _ _ :: _) _ _); refine wpList_load23w (by rfl) _ rfl k8 0 nm ep mr al kd sc rfl (range_rowC (d := ⟨nm, ep, mr, al, kd, sc⟩) (N8 _ (BR.trans (M.below.mono BR.size)))) ?_))
                go_roundg (gk - 1)
                case measure => have := HII.out; have := HGI.out; omega
                case rel =>
                  exact ⟨i + 1, true, rfl, by first | rfl | go_num, by have := HII.out; have := HGI.out; omega, BR.trans (M.below.mono BR.size), by show _ = _; rw [HK1.out, HKN.out.1]; simp [H1.out], by show _ = _; rw [HC1.out, HKN.out.2]; simp [clP, H3.out]⟩
              case pos =>
              have g3 : (mr' == mr) = true := by simp [h3]
              have H3 : Hid (mr' = mr) := h3
              clear h3
              cases he : eqC ⟨nm', ep', mr', al', kd', sc'⟩ ⟨nm, ep, mr, al, kd, sc⟩ with
              | true =>
                have HEQ : Hid (eqC ⟨nm', ep', mr', al', kd', sc'⟩ ⟨nm, ep, mr, al, kd, sc⟩ = true) := he
                clear he
                go_wp2_with (first
      | ((with_reducible show wpList _ _ _ (Oper.mk _ (Op.load 23 (Operand.tmp 28)) _ _ _ _ :: _) _ _); refine wpList_load23w (by rfl) _ rfl g9 (off9 + i * 6) nm' ep' mr' al' kd' sc' rfl (range_later hra9 hg9 M.below) ?_)
      | ((with_reducible show wpList _ _ _ (Oper.mk (some 11) (Op.alloc 23) _ _ _ _ :: _) _ _); refine wpList_alloc M rfl rfl rt23 ?_; clear M; intro k11 W M)
      | ((with_reducible show wpList _ _ _ (Oper.mk _ (Op.store 23 _ _) _ _ _ _ :: _) _ _); refine wpList_put M rfl _ _ rfl rt23 0 _ rfl rfl rfl rfl rfl (by simp [Value.oneCell']) ?_; clear M; intro W M; simp only [List.set_cons_zero, List.set_cons_succ] at M)
      | ((with_reducible show wpList _ _ _ (Oper.mk _ (Op.load 9 _) _ _ _ _ :: _) _ _); refine wpList_cell9 M (by rfl) _ rfl _ rfl (.head _) rfl ?_)
      | ((with_reducible show wpList _ _ _ (Oper.mk _ (Op.load 2 _) _ _ _ _ :: _) _ _); refine wpList_cell2 M (by rfl) _ rfl _ rfl (.head _) rfl ?_)
      | ((with_reducible show wpList _ _ _ (Oper.mk _ (Op.load 3 _) _ _ _ _ :: _) _ _); refine wpList_cell3 M (by rfl) _ rfl _ rfl (.head _) rfl ?_)
      | ((with_reducible show wpList _ _ _ (Oper.mk _ (Op.load 9 _) _ _ _ _ :: _) _ _); refine wpList_str (by rfl) _ rfl k8 0 nm rfl (row_cell (N8 _ (BR.trans (M.below.mono BR.size))) 0 _ rfl) ?_)
      | ((with_reducible show wpList _ _ _ (Oper.mk _ (Op.load 2 _) _ _ _ _ :: _) _ _); refine wpList_i2 (by rfl) _ rfl k8 1 ep rfl (row_cell (N8 _ (BR.trans (M.below.mono BR.size))) 1 _ rfl) ?_)
      | ((with_reducible show wpList _ _ _ (Oper.mk _ (Op.load 3 _) _ _ _ _ :: _) _ _); refine wpList_i3 (by rfl) _ rfl k8 2 mr rfl (row_cell (N8 _ (BR.trans (M.below.mono BR.size))) 2 _ rfl) ?_)
      | ((with_reducible show wpList _ _ _ (Oper.mk _ (Op.load 23 (Operand.tmp 11)) _ _ _ _ :: _) _ _); refine wpList_load M (by rfl) _ rfl rt23 rfl (.head _) (by rfl) ?_)
      | ((with_reducible show wpList _ _ _ (Oper.mk _ (Op.load 23 (Operand.tmp 8)) _ _ _ _ :: _) _ _); refine wpList_load23w (by rfl) _ rfl k8 0 nm ep mr al kd sc rfl (range_rowC (d := ⟨nm, ep, mr, al, kd, sc⟩) (N8 _ (BR.trans (M.below.mono BR.size)))) ?_)
      | ((with_reducible show wpList _ _ _ (Oper.mk _ (Op.binOp .neq 23 _ _ 23) _ _ _ _ :: _) _ _); refine wpList_val (by rfl) (.bool false) ((exec_neq23 rfl ⟨nm', ep', mr', al', kd', sc'⟩ ⟨nm, ep, mr, al, kd, sc⟩ rfl rfl _).trans (by rw [HEQ.out]; rfl)) ?_))
                go_roundg (gk - 1)
                case measure => have := HII.out; have := HGI.out; omega
                case rel =>
                  exact ⟨i + 1, true, rfl, by first | rfl | go_num, by have := HII.out; have := HGI.out; omega, BR.trans (M.below.mono BR.size), by show _ = _; rw [HK1.out, HKN.out.1]; simp [H1.out], by show _ = _; rw [HC1.out, HKN.out.2]; simp [clP, HEQ.out]⟩
              | false =>
                have HEQ : Hid (eqC ⟨nm', ep', mr', al', kd', sc'⟩ ⟨nm, ep, mr, al, kd, sc⟩ = false) := he
                clear he
                have HV : Hid (stmpB F = false) := by
                  refine stmp_none ?_
                  rw [HST.out.1, HST.out.2, if_pos]
                  refine any_in HDD.out ?_
                  show clP ⟨nm', ep', mr', al', kd', sc'⟩ ⟨nm, ep, mr, al, kd, sc⟩ = true
                  simp [clP, H1.out, H2.out, H3.out]
                  have := HEQ.out
                  rw [H1.out, H2.out, H3.out] at this
                  exact this
                go_wp2_with (first
      | ((with_reducible show wpList _ _ _ (Oper.mk _ (Op.load 23 (Operand.tmp 28)) _ _ _ _ :: _) _ _); refine wpList_load23w (by rfl) _ rfl g9 (off9 + i * 6) nm' ep' mr' al' kd' sc' rfl (range_later hra9 hg9 M.below) ?_)
      | ((with_reducible show wpList _ _ _ (Oper.mk (some 11) (Op.alloc 23) _ _ _ _ :: _) _ _); refine wpList_alloc M rfl rfl rt23 ?_; clear M; intro k11 W M)
      | ((with_reducible show wpList _ _ _ (Oper.mk _ (Op.store 23 _ _) _ _ _ _ :: _) _ _); refine wpList_put M rfl _ _ rfl rt23 0 _ rfl rfl rfl rfl rfl (by simp [Value.oneCell']) ?_; clear M; intro W M; simp only [List.set_cons_zero, List.set_cons_succ] at M)
      | ((with_reducible show wpList _ _ _ (Oper.mk _ (Op.load 9 _) _ _ _ _ :: _) _ _); refine wpList_cell9 M (by rfl) _ rfl _ rfl (.head _) rfl ?_)
      | ((with_reducible show wpList _ _ _ (Oper.mk _ (Op.load 2 _) _ _ _ _ :: _) _ _); refine wpList_cell2 M (by rfl) _ rfl _ rfl (.head _) rfl ?_)
      | ((with_reducible show wpList _ _ _ (Oper.mk _ (Op.load 3 _) _ _ _ _ :: _) _ _); refine wpList_cell3 M (by rfl) _ rfl _ rfl (.head _) rfl ?_)
      | ((with_reducible show wpList _ _ _ (Oper.mk _ (Op.load 9 _) _ _ _ _ :: _) _ _); refine wpList_str (by rfl) _ rfl k8 0 nm rfl (row_cell (N8 _ (BR.trans (M.below.mono BR.size))) 0 _ rfl) ?_)
      | ((with_reducible show wpList _ _ _ (Oper.mk _ (Op.load 2 _) _ _ _ _ :: _) _ _); refine wpList_i2 (by rfl) _ rfl k8 1 ep rfl (row_cell (N8 _ (BR.trans (M.below.mono BR.size))) 1 _ rfl) ?_)
      | ((with_reducible show wpList _ _ _ (Oper.mk _ (Op.load 3 _) _ _ _ _ :: _) _ _); refine wpList_i3 (by rfl) _ rfl k8 2 mr rfl (row_cell (N8 _ (BR.trans (M.below.mono BR.size))) 2 _ rfl) ?_)
      | ((with_reducible show wpList _ _ _ (Oper.mk _ (Op.load 23 (Operand.tmp 11)) _ _ _ _ :: _) _ _); refine wpList_load M (by rfl) _ rfl rt23 rfl (.head _) (by rfl) ?_)
      | ((with_reducible show wpList _ _ _ (Oper.mk _ (Op.load 23 (Operand.tmp 8)) _ _ _ _ :: _) _ _); refine wpList_load23w (by rfl) _ rfl k8 0 nm ep mr al kd sc rfl (range_rowC (d := ⟨nm, ep, mr, al, kd, sc⟩) (N8 _ (BR.trans (M.below.mono BR.size)))) ?_)
      | ((with_reducible show wpList _ _ _ (Oper.mk _ (Op.binOp .neq 23 _ _ 23) _ _ _ _ :: _) _ _); refine wpList_val (by rfl) (.bool true) ((exec_neq23 rfl ⟨nm', ep', mr', al', kd', sc'⟩ ⟨nm, ep, mr, al, kd, sc⟩ rfl rfl _).trans (by rw [HEQ.out]; rfl)) ?_))
                go_ret
                exact ⟨ret_bool HV.out.symm, BC.trans ((BR.trans (M.below.mono BR.size)).mono BC.size)⟩
            case neg =>
              have hiI : ¬ (i : Int) < (P.length : Int) := by omega
              have hip : i = P.length := by omega
              have HKK : Hid (known P ⟨nm, ep, mr, al, kd, sc⟩ = kn) := by
                have := HK.out
                rw [hip, List.take_length] at this
                exact this
              have HCC : Hid (clash P ⟨nm, ep, mr, al, kd, sc⟩ = false) := by
                have := HCL.out
                rw [hip, List.take_length] at this
                exact this
              have M0r := M0c.later BR
              have Or := owns_later Oc BR
              have M := M0r.own Or hnec
              clear hip hi HK HCL hgi
              have HNX : Hid (stR F [] 0 = stR (F.drop (ofT l1.length l2.length l3.length t + j + 1)) (P ++ [⟨nm, ep, mr, al, kd, sc⟩]) (k + if kn = true then 0 else 1)) := by
                show _ = _
                rw [HST.out.1, HST.out.2, if_neg (by rw [HCC.out]; decide), HKK.out]
              have HNP : Hid (P ++ [⟨nm, ep, mr, al, kd, sc⟩] = F.take (ofT l1.length l2.length l3.length t + (j + 1)) ∧ (P ++ [(⟨nm, ep, mr, al, kd, sc⟩ : CH)]).length = ofT l1.length l2.length l3.length t + (j + 1)) := by
                refine ⟨?_, by rw [List.length_append, HPP.out.2]; rfl⟩
                rw [← Nat.add_assoc, List.take_add_one, HFX.out, ← HPP.out.1]
                rfl
              cases kn with
              | true =>
                go_wp2_with (first
      | ((with_reducible show wpList _ _ _ (Oper.mk _ (Op.load 23 (Operand.tmp 8)) _ _ _ _ :: _) _ _); refine wpList_load M (by rfl) _ rfl rt23 rfl (.head _) (by rfl) ?_)
      | ((with_reducible show wpList _ _ _ (Oper.mk _ (Op.buildSlice 24 1 _) _ _ _ _ :: _) _ _); refine wpList_mk1 M rfl _ rfl nm ep mr al kd sc rfl ?_; clear M; intro q W M)
      | ((with_reducible show wpList _ _ _ (Oper.mk _ (Op.call { callee := Callee.builtin Builtin.append, args := _, argTypes := #[24, 24] }) _ _ _ _ :: _) _ _); refine wpList_appM M Or rfl _ _ rfl rfl rfl (by have := HPL.out; omega) ?_; clear M; intro g cp W M1 O1 N1))
                go_roundg (gkj - 1)
                case measure => have := HJ.out; have := HGJ.out; omega
                case rel =>
                  refine ⟨j + 1, k, _, P ++ [⟨nm, ep, mr, al, kd, sc⟩], rfl, by first | rfl | go_num, by first | rfl | go_num, by have := HJ.out; have := HGJ.out; omega, (M0r.back M1).tail, by rw [csC_snoc, List.length_append]; exact O1, ⟨HNP.out.1, HNP.out.2, ?_, ?_⟩⟩
                  · rw [← Nat.add_assoc, HNX.out]; rfl
                  · have := HKP.out; rw [List.length_append]; simp only [List.length_cons, List.length_nil]; omega
              | false =>
                go_wp2_with (first
      | ((with_reducible show wpList _ _ _ (Oper.mk _ (Op.load 23 (Operand.tmp 8)) _ _ _ _ :: _) _ _); refine wpList_load M (by rfl) _ rfl rt23 rfl (.head _) (by rfl) ?_)
      | ((with_reducible show wpList _ _ _ (Oper.mk _ (Op.buildSlice 24 1 _) _ _ _ _ :: _) _ _); refine wpList_mk1 M rfl _ rfl nm ep mr al kd sc rfl ?_; clear M; intro q W M)
      | ((with_reducible show wpList _ _ _ (Oper.mk _ (Op.call { callee := Callee.builtin Builtin.append, args := _, argTypes := #[24, 24] }) _ _ _ _ :: _) _ _); refine wpList_appM M Or rfl _ _ rfl rfl rfl (by have := HPL.out; omega) ?_; clear M; intro g cp W M1 O1 N1))
                go_roundg (gkj - 1)
                case measure => have := HJ.out; have := HGJ.out; omega
                case rel =>
                  refine ⟨j + 1, k + 1, _, P ++ [⟨nm, ep, mr, al, kd, sc⟩], rfl, by first | rfl | go_num, by first | rfl | go_num, by have := HJ.out; have := HGJ.out; omega, (M0r.back M1).tail, by rw [csC_snoc, List.length_append]; exact O1, ⟨HNP.out.1, HNP.out.2, ?_, ?_⟩⟩
                  · rw [← Nat.add_assoc, HNX.out]; rfl
                  · have := HKP.out; rw [List.length_append]; simp only [List.length_cons, List.length_nil]; omega
        case neg =>
          have hjI : ¬ (j : Int) < (T.length : Int) := by omega
          have hjT : j = T.length := by omega
          have HZ : Hid (P = F.take (ofT l1.length l2.length l3.length (t + 1)) ∧ P.length = ofT l1.length l2.length l3.length (t + 1) ∧ stR F [] 0 = stR (F.drop (ofT l1.length l2.length l3.length (t + 1))) P k ∧ k ≤ P.length) := by
            have h1 := HOT.out
            have h2 := HQ.out
            rw [hjT, ← h1] at h2
            exact h2
          clear hjT hj hgj HQ
          go_wp2
          go_roundg (gkt - 1)
          case measure => have := HI.out; omega
          case rel => exact ⟨t + 1, k, _, P, rfl, rfl, by first | rfl | go_num, by have := HI.out; omega, M0, O, HZ⟩
    case neg =>
      have htI : ¬ (t : Int) < 3 := by omega
      have ht3 : t = 3 := by omega
      have HV : Hid (stmpB F = decide ((k0 : Int) ≤ 8)) := by
        have h1 := HQ.out.2.2.1
        rw [ht3, ← HFL.out, List.drop_length] at h1
        exact stmp_some h1
      have B := M0.below
      clear ht3 ht hgt HQ HT
      go_wp2
      go_ret
      exact ⟨ret_bool HV.out.symm, B⟩
end Go.Proofs.Ytmbchcpggbfkcaa
