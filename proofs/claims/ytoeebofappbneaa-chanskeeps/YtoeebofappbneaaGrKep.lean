/-
  Calls change nothing of other names; what Set told is there until the record changes (P18.10, P18.12): the law ChansKeeps returns true for every input.
-/
import Derived.Test.YtoeebofappbneaaGrTc
import Derived.Test.YtoeebofappbneaaGrTa
import Derived.Test.YtoeebofappbneaaY1
import Derived.Test.YtoeebofappbneaaGrTd
import Derived.Test.YtoeebofappbneaaRows
import Derived.Test.YtoeebofappbneaaInT
import Derived.WalkKit
import Derived.ProofKit
import Derived.OpenShut
import Derived.ShutString
import Derived.ChangeOld
import Derived.Below
import Derived.SizedLaws
namespace Go.Proofs.Ytoeebofappbneaa
open Go.ChangeShapes Go.WideShapes Go.ChangeAt Go.RowKit Go.Maps Go.Shelf
set_option linter.unusedVariables false
set_option linter.unusedSimpArgs false

abbrev cN1 : CH := ⟨nM, 1, 3, true, 1, 4⟩
abbrev cN2 : CH := ⟨nM, 2, 3, false, 1, 4⟩
abbrev sN1 : ST := ⟨cN1, true, 20, E.EX.z, E.EX.z⟩
theorem fit_nil : fitL [] = true := by decide
theorem xa1 : crE (recs []) nM 1 4 = 0 := by decide
theorem xa2 : crS [] 3 nM 1 4 = [begs cN1] := by unfold crS; rw [if_pos xa1]; rfl
theorem is_m {s : ST} (h1 : s.c.nm = nM) (h2 : s.c.al = true) : isP nM s = true := by unfold isP; rw [eqN_iff.2 h1, h2]; rfl
theorem plc_m {s : ST} (h1 : s.c.nm = nM) (h2 : s.c.al = true) : plc nM [s] = some 0 := plc_some (by simp) (fun j h => by omega) (is_m h1 h2)
theorem xf1 : fitL [begs cN1] = true := by rw [← xa2]; exact crS_fit fit_nil (by decide) nM 1 4
theorem xb1 : stE [begs cN1] nM 5 = 0 := by unfold stE; rw [plc_m rfl rfl]; decide
theorem xb2 : stS [begs cN1] 3 nM 5 = [sN1] := by unfold stS; rw [plc_m rfl rfl]; rfl
theorem xb3 : stE [begs cN1] nM 600000000 = 10 := by unfold stE; rw [plc_m rfl rfl]; decide
theorem xf2 : fitL [sN1] = true := by rw [← xb2]; exact stS_fit xf1 (by decide) nM 5
theorem xc1 : fdV nM [sN1] = .tuple #[sN1.val, .bool true] := by unfold fdV fdT; rw [plc_m rfl rfl]; rfl
theorem lkN : lk nM (recs [sN1]) = some cN1 := if_pos rfl
theorem xd1 : dlE (recs [sN1]) nM = 0 := by unfold dlE; rw [lkN]; rfl
theorem xd2 : dlS [sN1] 3 nM = [begs cN2] := by
  have e : dlM (recs [sN1]) 3 nM = cN2 := by unfold dlM; rw [lkN]; rfl
  have h : ltN nM nM = false := lt_irr _
  unfold dlS
  rw [if_pos xd1, e, anw, if_neg (by rw [h]; decide), if_neg (by rw [h]; decide)]
theorem xf3 : fitL [begs cN2] = true := by rw [← xd2]; exact dlS_fit xf2 (by decide) nM
theorem xe1 : stE [begs cN2] nM 1 = 44 := by
  unfold stE
  rw [plc_none (fun j hj => ?_)]
  have : j = 0 := by simpa using hj
  subst this
  unfold isP
  rw [show ([begs cN2].getD 0 ST.z).c.al = false from rfl, Bool.and_false]
theorem xg1 : fitS 3 [sN1] = true := by rw [fitS_iff]; exact ⟨by decide, xf2⟩
set_option maxRecDepth 100000 in
set_option maxHeartbeats 8000000 in
theorem awake_anyS (w : World) : Calls Try.prog 14 #[] w fun e w' => e = .returned (.bool true) ∧ Below w.heap.size w w' := by
  have K1 := create_anyS none 0 [] 3 nM 1 4 w (rdT_nil w) fit_nil
  rw [xa1, xa2] at K1
  have K2 : ∀ W a c, LstT W a 1 c [begs cN1] → Calls Try.prog 27 #[.slice a 1 c, .int .i64 3, .string nM, .int .i64 5] W (AnsV W [sN1] (.int .i64 0)) := fun W a c h => by
    have h9 := set_anyS a c [begs cN1] 3 nM 5 W (h.rd (by decide)) xf1
    rw [xb1, xb2] at h9
    exact h9
  have K3 : ∀ W a c, LstT W a 1 c [begs cN1] → Calls Try.prog 27 #[.slice a 1 c, .int .i64 3, .string nM, .int .i64 600000000] W fun e w' => ∃ v, e = .returned (.tuple #[v, .int .i64 10]) ∧ Below W.heap.size W w' := fun W a c h => by
    have h9 := set_anyS a c [begs cN1] 3 nM 600000000 W (h.rd (by decide)) xf1
    rw [xb3] at h9
    refine h9.mono ?_
    rintro e w' ⟨a', c', rfl, _, _, b⟩
    exact ⟨_, rfl, b⟩
  have K4 : ∀ W a c, LstT W a 1 c [sN1] → Calls Try.prog 16 #[.slice a 1 c, .string nM] W fun e w' => e = .returned (.tuple #[ste nM 1 3 true 1 4 true 20 false 0 0 0 false 0 0 0, .bool true]) ∧ Below W.heap.size W w' := fun W a c h => by
    have h9 := find_anyT a 1 c [sN1] nM W (h.rd (by decide))
    rw [xc1] at h9
    exact h9
  have K5 : ∀ W a c, LstT W a 1 c [sN1] → Calls Try.prog 26 #[.slice a 1 c, .int .i64 3, .string nM] W (AnsV W [begs cN2] (.int .i64 0)) := fun W a c h => by
    have h9 := delete_anyS a c [sN1] 3 nM W (h.rd (by decide)) xf2
    rw [xd1, xd2] at h9
    exact h9
  have K6 : ∀ W a c, LstT W a 1 c [begs cN2] → Calls Try.prog 27 #[.slice a 1 c, .int .i64 3, .string nM, .int .i64 1] W fun e w' => ∃ v, e = .returned (.tuple #[v, .int .i64 44]) ∧ Below W.heap.size W w' := fun W a c h => by
    have h9 := set_anyS a c [begs cN2] 3 nM 1 W (h.rd (by decide)) xf3
    rw [xe1] at h9
    refine h9.mono ?_
    rintro e w' ⟨a', c', rfl, _, _, b⟩
    exact ⟨_, rfl, b⟩
  have K7 : ∀ W a c, LstT W a 1 c [sN1] → Calls Try.prog 7 #[.int .i64 3, .slice a 1 c] W fun e w' => e = .returned (.bool true) ∧ Below W.heap.size W w' := fun W a c h => by
    have h9 := fit_any7 3 a 1 c [sN1] W (h.rd (by decide))
    rw [xg1] at h9
    exact h9
  have K8 := fun W => flows_any 1 W
  rw [show flowsB 1 = true from rfl] at K8
  go_enter Try.func14, Try.ntmps14
  go_wp2_with (first
      | (go_at_call 25; refine K1.mono ?_; clear K1; rintro e W1 ⟨a1, c1, rfl, L1, f1, b1⟩; have M := (Mem.nil w).later b1)
      | (go_at_call 27; refine (K2 _ _ _ L1).mono ?_; clear K2; rintro e W2 ⟨a2, c2, rfl, L2, f2, b2⟩; replace L1 := L1.below b2; replace M := M.later b2; clear b2)
      | (go_at_call 27; refine (K3 _ _ _ L1).mono ?_; clear K3 L1; rintro e W3 ⟨v3, rfl, b3⟩; replace L2 := L2.below b3; replace M := M.later b3; clear b3)
      | (go_at_call 16; refine (K4 _ _ _ L2).mono ?_; clear K4; rintro e W4 ⟨rfl, b4⟩; replace L2 := L2.below b4; replace M := M.later b4; clear b4; have B := M.below; clear M; have M := Mem.nil W4)
      | ((with_reducible show wpList _ _ _ (Oper.mk (some 7) (Op.alloc 35) _ _ _ _ :: _) _ _); refine wpList_alloc M rfl rfl rtT ?_; clear M; intro k7 W M)
      | ((with_reducible show wpList _ _ _ (Oper.mk _ (Op.store 35 _ _) _ _ _ _ :: _) _ _); (first | (refine wpList_put M rfl _ _ rfl rtT 0 _ rfl rfl rfl rfl rfl (by simp [Value.oneCell']) ?_)); clear M; intro W M; simp only [List.set_cons_zero, List.set_cons_succ] at M)
      | (go_at_call 26; refine (K5 _ _ _ (L2.below M.below)).mono ?_; clear K5; rintro e W5 ⟨a3, c3, rfl, L3, f3, b3⟩; replace M := M.later b3; clear b3)
      | (go_at_call 27; refine (K6 _ _ _ L3).mono ?_; clear K6 L3; rintro e W6 ⟨v6, rfl, b6⟩; replace M := M.later b6; clear b6)
      | ((with_reducible show wpList _ _ _ (Oper.mk _ (Op.load 2 _) _ _ _ _ :: _) _ _); refine wpList_cell2 M (by rfl) _ rfl _ rfl (by first | exact .head _) rfl ?_)
      | ((with_reducible show wpList _ _ _ (Oper.mk _ (Op.load 4 _) _ _ _ _ :: _) _ _); refine wpList_cell4 M (by rfl) _ rfl _ rfl (by first | exact .head _) rfl ?_)
      | (go_at_call 7; refine (K7 _ _ _ (L2.below M.below)).mono ?_; clear K7; rintro e W7 ⟨rfl, b7⟩; replace M := M.later b7; clear b7)
      | (go_at_call 9; refine (K8 _).mono ?_; clear K8; rintro e W8 ⟨rfl, rfl⟩))
  go_ret
  exact ⟨rfl, B.trans (M.below.mono B.size)⟩
end Go.Proofs.Ytoeebofappbneaa

namespace Go.Proofs.Ytoeebofappbneaa
open Go.ChangeShapes Go.WideShapes Go.ChangeAt Go.RowKit Go.Maps Go.Shelf
set_option linter.unusedVariables false
set_option linter.unusedSimpArgs false

def tkN (l : List ST) (id : Int) (i : Nat) : List ST := (l.take i).map (tickT id) ++ l.drop i
theorem tkN_len (l : List ST) (id : Int) (i : Nat) : (tkN l id i).length = l.length := by unfold tkN; simp; omega
theorem tkN_get {l : List ST} {id : Int} {i : Nat} (h : i < l.length) : (tkN l id i).getD i ST.z = l.getD i ST.z := by
  unfold tkN
  rw [List.getD_eq_getElem?_getD, List.getElem?_append_right (by simp; omega), List.getElem?_drop, List.getD_eq_getElem?_getD]
  congr 2
  simp
  omega
theorem tkN_set {l : List ST} {id : Int} {i : Nat} (h : i < l.length) : (tkN l id i).set i (tickT id (l.getD i ST.z)) = tkN l id (i + 1) := by
  unfold tkN
  have e : l.drop i = l.getD i ST.z :: l.drop (i + 1) := by rw [List.drop_eq_getElem_cons h, List.getD_eq_getElem?_getD, List.getElem?_eq_getElem h]; rfl
  have e2 : l.take (i + 1) = l.take i ++ [l.getD i ST.z] := by rw [List.take_add_one, List.getD_eq_getElem?_getD, List.getElem?_eq_getElem h]; rfl
  have e3 : ((l.take i).map (tickT id)).length = i := by simp; omega
  rw [e, e2, List.set_append_right _ _ (by omega), e3, Nat.sub_self, List.map_append]
  simp
theorem tkN_all {l : List ST} {id : Int} {n : Nat} (h : l.length = n) : tkN l id n = tkS l id := by unfold tkN tkS; rw [List.take_of_length_le (by omega), List.drop_of_length_le (by omega), List.append_nil]
set_option maxRecDepth 100000 in
set_option maxHeartbeats 16000000 in
theorem tick_anyS (a : Option Addr) (cap : Nat) (l : List ST) (id : Int) (w : World) (hr : RdT w a l.length cap l) (hf : fitL l = true) : Calls Try.prog 29 #[.slice a l.length cap, .int .i64 id] w (AnsT w (tkS l id)) := by
  have B0 := Below.refl w.heap.size w
  have HFL : Hid (fitL l = true) := hf
  obtain ⟨n, hn⟩ : ∃ n, l.length = n := ⟨_, rfl⟩
  have h8 := fitL_len hf
  have HN : Hid (n ≤ 8) := by show _ ≤ _; rw [← hn]; exact h8
  have HL0 : Hid (l.length = n) := hn
  have KCP := copy_any a cap l w hr
  have HAN : Hid (AnsT w (tkS l id) = fun e w' => ∃ a' cap', e = .returned (.slice a' n cap') ∧ LstT w' a' n cap' (tkS l id) ∧ (∀ g off, a' = some ⟨g, off, none⟩ → w.heap.size ≤ g) ∧ Below w.heap.size w w') := by
    show _ = _
    unfold AnsT
    rw [show (tkS l id).length = n from by rw [← hn]; exact List.length_map _]
  have KC2 : Calls Try.prog 20 #[.slice a n cap] w fun e w' => ∃ a' cap', e = .returned (.slice a' n cap') ∧ LstT w' a' n cap' l ∧ (∀ g off, a' = some ⟨g, off, none⟩ → w.heap.size ≤ g) ∧ Below w.heap.size w w' := by
    rw [← hn]; exact KCP
  rw [HAN.out, hn]
  clear hn h8 KCP hf hr HAN B0
  go_enter Try.func29, Try.ntmps29
  go_wp2_with (first
      | (go_at_call 20; refine KC2.mono ?_; clear KC2; rintro e W1 ⟨a1, c1, rfl, L1, fo1, b1⟩))
  have HFO : Hid (∀ g off, a1 = some ⟨g, off, none⟩ → w.heap.size ≤ g) := fo1
  clear fo1
  go_loopg [6, 7, 12] n (fun gk v6 v7 v12 wr => ∃ i : Nat, v12 = .int .i64 (i : Int) ∧ i + gk = n ∧ LstT wr a1 n c1 (tkN l id i) ∧ Below w.heap.size w wr)
  case atStart => exact ⟨0, by first | rfl | go_num, by omega, L1, b1⟩
  case round =>
    clear L1 b1
    obtain ⟨i, rfl, hgk, L, B⟩ := hrel
    by_cases hi : i < n
    case pos =>
      have HI : Hid (i < n) := hi
      have hiI : (i : Int) < (n : Int) := by omega
      have hwr : IntKind.i64.wrap ((i : Int) + 1) = (i : Int) + 1 := by rw [IntKind.wrap_i64]; have := HN.out; omega
      obtain ⟨g, off, rfl⟩ := lst_addr L hi
      have O := OwnI.mk0 (i := i) B (HFO.out g off rfl) L hi
      rw [tkN_get (by rw [HL0.out]; exact hi)] at O
      have hok := ok_at HFL.out (i := i) (by rw [HL0.out]; exact hi)
      have hts := tkN_set (id := id) (l := l) (i := i) (by rw [HL0.out]; exact hi)
      obtain ⟨⟨⟨nm, ep, mr, al, kd, sc⟩, hv, iv, ⟨h1, v1, o1, g1⟩, ⟨h2, v2, o2, g2⟩⟩, hri⟩ : ∃ r, l.getD i ST.z = r := ⟨_, rfl⟩
      rw [hri] at O hok hts
      have hff := ok_fits hok
      clear hri hi L B hok
      by_cases hc : al = true ∧ kd = 4
      case neg =>
        have HTS : Hid ((tkN l id i).set i ⟨⟨nm, ep, mr, al, kd, sc⟩, hv, iv, ⟨h1, v1, o1, g1⟩, ⟨h2, v2, o2, g2⟩⟩ = tkN l id (i + 1)) := by
          show _ = _
          rw [← hts]
          unfold tickT
          rw [if_neg hc]
        clear hts hff
        cases al with
        | false =>
          clear hc
          go_wp2_with (first
      | ((with_reducible show wpList _ _ _ (Oper.mk _ (Op.load 4 _) _ _ _ _ :: _) _ _); refine wpList_cell4w (by rfl) _ rfl _ rfl (O.range 3 _ rfl) ?_)
      | ((with_reducible show wpList _ _ _ (Oper.mk _ (Op.load 3 _) _ _ _ _ :: _) _ _); refine wpList_cell3w (by rfl) _ rfl _ rfl (O.range 4 _ rfl) ?_))
          go_roundg (gk - 1)
          case measure => have := HI.out; omega
          case rel =>
            have HL := O.lst
            rw [HTS.out] at HL
            exact ⟨i + 1, by first | rfl | go_num, by have := HI.out; omega, HL, O.below⟩
        | true =>
          have h4b : (kd == 4) = false := by
            cases h : (kd == 4) with
            | false => rfl
            | true => exact absurd ⟨rfl, by simpa using h⟩ hc
          clear hc
          go_wp2_with (first
      | ((with_reducible show wpList _ _ _ (Oper.mk _ (Op.load 4 _) _ _ _ _ :: _) _ _); refine wpList_cell4w (by rfl) _ rfl _ rfl (O.range 3 _ rfl) ?_)
      | ((with_reducible show wpList _ _ _ (Oper.mk _ (Op.load 3 _) _ _ _ _ :: _) _ _); refine wpList_cell3w (by rfl) _ rfl _ rfl (O.range 4 _ rfl) ?_))
          go_roundg (gk - 1)
          case measure => have := HI.out; omega
          case rel =>
            have HL := O.lst
            rw [HTS.out] at HL
            exact ⟨i + 1, by first | rfl | go_num, by have := HI.out; omega, HL, O.below⟩
      case pos =>
        obtain ⟨h1a, h4⟩ := hc
        subst h1a h4
        obtain ⟨⟨⟨h5, v5, o5, g5⟩, ⟨h6, v6, o6, g6⟩⟩, h56⟩ : ∃ p, E.tickX id hv iv ⟨h1, v1, o1, g1⟩ ⟨h2, v2, o2, g2⟩ = p := ⟨_, rfl⟩
        have HTS : Hid ((tkN l id i).set i ⟨⟨nm, ep, mr, true, 4, sc⟩, hv, iv, ⟨h5, v5, o5, g5⟩, ⟨h6, v6, o6, g6⟩⟩ = tkN l id (i + 1)) := by
          show _ = _
          rw [← hts]
          unfold tickT
          rw [if_pos ⟨rfl, rfl⟩]
          dsimp only
          rw [h56]
        have KS := fun W => E.tick_any id hv iv h1 v1 o1 g1 h2 v2 o2 g2 W hff.1 hff.2.1
        rw [h56] at KS
        unfold E.two at KS
        dsimp only at KS
        clear hts h56 hff
        go_wp2_with (first
          | ((with_reducible show wpList _ _ _ (Oper.mk _ (Op.load 4 _) _ _ _ _ :: _) _ _); refine wpList_cell4w (by rfl) _ rfl _ rfl (O.range 3 _ rfl) ?_)
          | ((with_reducible show wpList _ _ _ (Oper.mk _ (Op.load 3 _) _ _ _ _ :: _) _ _); refine wpList_cell3w (by rfl) _ rfl _ rfl (O.range 4 _ rfl) ?_)
          | fail)
        refine wp_region_any (by kernel_rfl) ?_
        change wpAny _ _ _ _ _ _ _ (World.drew _)
        refine any_take 1 33 (.pointer (some ⟨g, off + i * 16, none⟩)) rfl rfl (by kernel_rfl) (by kernel_rfl) (by kernel_rfl) (fun _ _ _ h => h) (Or.inl ⟨by rfl, by intro w; go_simp⟩) ?_
        try simp only [Act.put, List.setIfInBounds_toArray, List.set_cons_zero, List.set_cons_succ]
        replace O := O.drew
        revert O
        generalize World.drew _ = WD
        intro O
        refine wpAny_until (fun W' => OwnI w W' g off n c1 (tkN l id i) i ⟨⟨nm, ep, mr, true, 4, sc⟩, hv, iv, ⟨h1, v1, o1, g1⟩, ⟨h2, v2, o2, g2⟩⟩) 25 _ _ _ _ ?_
        refine anyM_take 0 32 (.pointer (some ⟨g, off + i * 16, none⟩)) rfl rfl (by kernel_rfl) (by kernel_rfl) (by kernel_rfl) (fun _ _ _ h => h) (.inl (by kernel_rfl)) (by kernel_rfl) (Or.inl ⟨by rfl, by intro w hSw; go_simp⟩) (O) ?_
        try simp only [Act.put, List.setIfInBounds_toArray, List.set_cons_zero, List.set_cons_succ]
        refine anyM_take 2 34 (.int .i64 id) rfl rfl (by kernel_rfl) (by kernel_rfl) (by kernel_rfl) (fun _ _ _ h => h) (.inl (by kernel_rfl)) (by kernel_rfl) (Or.inl ⟨by rfl, by intro w hSw; go_simp⟩) (O) ?_
        try simp only [Act.put, List.setIfInBounds_toArray, List.set_cons_zero, List.set_cons_succ]
        refine anyM_take 3 35 (.pointer (some ⟨g, off + i * 16, none⟩)) rfl rfl (by kernel_rfl) (by kernel_rfl) (by kernel_rfl) (fun _ _ _ h => h) (.inl (by kernel_rfl)) (by kernel_rfl) (Or.inl ⟨by rfl, by intro w hSw; go_simp⟩) (O) ?_
        try simp only [Act.put, List.setIfInBounds_toArray, List.set_cons_zero, List.set_cons_succ]
        refine anyM_take 4 36 (.pointer (some ⟨g, off + i * 16, none⟩)) rfl rfl (by kernel_rfl) (by kernel_rfl) (by kernel_rfl) (fun _ _ _ h => h) (.inl (by kernel_rfl)) (by kernel_rfl) (Or.inl ⟨by rfl, by intro w hSw; go_simp⟩) (O) ?_
        try simp only [Act.put, List.setIfInBounds_toArray, List.set_cons_zero, List.set_cons_succ]
        refine anyM_take 5 37 (.pointer (some ⟨g, off + i * 16 + 6, none⟩)) rfl rfl (by kernel_rfl) (by kernel_rfl) (by kernel_rfl) (fun _ _ _ h => h) (.inl (by kernel_rfl)) (by kernel_rfl) (Or.inl ⟨by rfl, by intro w hSw; go_simp⟩) (O) ?_
        try simp only [Act.put, List.setIfInBounds_toArray, List.set_cons_zero, List.set_cons_succ]
        refine anyM_take 6 38 (.bool hv) rfl rfl (by kernel_rfl) (by kernel_rfl) (by kernel_rfl) (fun _ _ _ h => h) (.inl (by kernel_rfl)) (by kernel_rfl) (Or.inl ⟨by rfl, fun X hSw => by have hc := hSw.range 6 _ rfl; go_simp⟩) (O) ?_
        try simp only [Act.put, List.setIfInBounds_toArray, List.set_cons_zero, List.set_cons_succ]
        refine anyM_take 7 39 (.pointer (some ⟨g, off + i * 16, none⟩)) rfl rfl (by kernel_rfl) (by kernel_rfl) (by kernel_rfl) (fun _ _ _ h => h) (.inl (by kernel_rfl)) (by kernel_rfl) (Or.inl ⟨by rfl, by intro w hSw; go_simp⟩) (O) ?_
        try simp only [Act.put, List.setIfInBounds_toArray, List.set_cons_zero, List.set_cons_succ]
        refine anyM_take 8 40 (.pointer (some ⟨g, off + i * 16, none⟩)) rfl rfl (by kernel_rfl) (by kernel_rfl) (by kernel_rfl) (fun _ _ _ h => h) (.inl (by kernel_rfl)) (by kernel_rfl) (Or.inl ⟨by rfl, by intro w hSw; go_simp⟩) (O) ?_
        try simp only [Act.put, List.setIfInBounds_toArray, List.set_cons_zero, List.set_cons_succ]
        refine anyM_take 9 41 (.pointer (some ⟨g, off + i * 16 + 7, none⟩)) rfl rfl (by kernel_rfl) (by kernel_rfl) (by kernel_rfl) (fun _ _ _ h => h) (.inl (by kernel_rfl)) (by kernel_rfl) (Or.inl ⟨by rfl, by intro w hSw; go_simp⟩) (O) ?_
        try simp only [Act.put, List.setIfInBounds_toArray, List.set_cons_zero, List.set_cons_succ]
        refine anyM_take 10 42 (.int .i64 iv) rfl rfl (by kernel_rfl) (by kernel_rfl) (by kernel_rfl) (fun _ _ _ h => h) (.inl (by kernel_rfl)) (by kernel_rfl) (Or.inl ⟨by rfl, fun X hSw => by have hc := hSw.range 7 _ rfl; go_simp⟩) (O) ?_
        try simp only [Act.put, List.setIfInBounds_toArray, List.set_cons_zero, List.set_cons_succ]
        refine anyM_take 11 43 (.pointer (some ⟨g, off + i * 16, none⟩)) rfl rfl (by kernel_rfl) (by kernel_rfl) (by kernel_rfl) (fun _ _ _ h => h) (.inl (by kernel_rfl)) (by kernel_rfl) (Or.inl ⟨by rfl, by intro w hSw; go_simp⟩) (O) ?_
        try simp only [Act.put, List.setIfInBounds_toArray, List.set_cons_zero, List.set_cons_succ]
        refine anyM_take 12 44 (.pointer (some ⟨g, off + i * 16, none⟩)) rfl rfl (by kernel_rfl) (by kernel_rfl) (by kernel_rfl) (fun _ _ _ h => h) (.inl (by kernel_rfl)) (by kernel_rfl) (Or.inl ⟨by rfl, by intro w hSw; go_simp⟩) (O) ?_
        try simp only [Act.put, List.setIfInBounds_toArray, List.set_cons_zero, List.set_cons_succ]
        refine anyM_take 13 45 (.pointer (some ⟨g, off + i * 16 + 8, none⟩)) rfl rfl (by kernel_rfl) (by kernel_rfl) (by kernel_rfl) (fun _ _ _ h => h) (.inl (by kernel_rfl)) (by kernel_rfl) (Or.inl ⟨by rfl, by intro w hSw; go_simp⟩) (O) ?_
        try simp only [Act.put, List.setIfInBounds_toArray, List.set_cons_zero, List.set_cons_succ]
        refine anyM_take 14 46 (exv h1 v1 o1 g1) rfl rfl (by kernel_rfl) (by kernel_rfl) (by kernel_rfl) (fun _ _ _ h => h) (.inl (by kernel_rfl)) (by kernel_rfl) (Or.inl ⟨by rfl, fun X hSw => exec_loadX rfl rfl (rng_mn hSw.range)⟩) (O) ?_
        try simp only [Act.put, List.setIfInBounds_toArray, List.set_cons_zero, List.set_cons_succ]
        refine anyM_take 15 47 (.pointer (some ⟨g, off + i * 16, none⟩)) rfl rfl (by kernel_rfl) (by kernel_rfl) (by kernel_rfl) (fun _ _ _ h => h) (.inl (by kernel_rfl)) (by kernel_rfl) (Or.inl ⟨by rfl, by intro w hSw; go_simp⟩) (O) ?_
        try simp only [Act.put, List.setIfInBounds_toArray, List.set_cons_zero, List.set_cons_succ]
        refine anyM_take 16 48 (.pointer (some ⟨g, off + i * 16, none⟩)) rfl rfl (by kernel_rfl) (by kernel_rfl) (by kernel_rfl) (fun _ _ _ h => h) (.inl (by kernel_rfl)) (by kernel_rfl) (Or.inl ⟨by rfl, by intro w hSw; go_simp⟩) (O) ?_
        try simp only [Act.put, List.setIfInBounds_toArray, List.set_cons_zero, List.set_cons_succ]
        refine anyM_take 17 49 (.pointer (some ⟨g, off + i * 16 + 12, none⟩)) rfl rfl (by kernel_rfl) (by kernel_rfl) (by kernel_rfl) (fun _ _ _ h => h) (.inl (by kernel_rfl)) (by kernel_rfl) (Or.inl ⟨by rfl, by intro w hSw; go_simp⟩) (O) ?_
        try simp only [Act.put, List.setIfInBounds_toArray, List.set_cons_zero, List.set_cons_succ]
        refine anyM_take 18 50 (exv h2 v2 o2 g2) rfl rfl (by kernel_rfl) (by kernel_rfl) (by kernel_rfl) (fun _ _ _ h => h) (.inl (by kernel_rfl)) (by kernel_rfl) (Or.inl ⟨by rfl, fun X hSw => exec_loadX rfl rfl (rng_mx hSw.range)⟩) (O) ?_
        try simp only [Act.put, List.setIfInBounds_toArray, List.set_cons_zero, List.set_cons_succ]
        refine anyM_one 19 (by kernel_rfl) rfl (fun K hK => ?_)
        go_simp
        go_wp2_with (go_at_call 49; refine (KS _).mono ?_; clear KS; rintro e W6 ⟨rfl, b6⟩; replace O := O.later b6; clear b6)
        refine hK.out _ _ (fun _ => O) ?_
        clear hK
        try simp only [Act.put, List.setIfInBounds_toArray, List.set_cons_zero, List.set_cons_succ]
        refine anyM_take 20 31 ((.tuple #[exv h5 v5 o5 g5, exv h6 v6 o6 g6])) rfl rfl (by kernel_rfl) (by kernel_rfl) (by kernel_rfl) (fun _ _ _ h => h) (.inl (by kernel_rfl)) (by kernel_rfl) (Or.inl ⟨by rfl, by intro w hSw; go_simp⟩) (O) ?_
        try simp only [Act.put, List.setIfInBounds_toArray, List.set_cons_zero, List.set_cons_succ]
        refine anyM_take 21 52 (exv h5 v5 o5 g5) rfl rfl (by kernel_rfl) (by kernel_rfl) (by kernel_rfl) (fun _ _ _ h => h) (.inl (by kernel_rfl)) (by kernel_rfl) (Or.inl ⟨by rfl, by intro w hSw; go_simp⟩) (O) ?_
        try simp only [Act.put, List.setIfInBounds_toArray, List.set_cons_zero, List.set_cons_succ]
        refine anyM_take 23 54 (.pointer (some ⟨g, off + i * 16, none⟩)) rfl rfl (by kernel_rfl) (by kernel_rfl) (by kernel_rfl) (fun _ _ _ h => h) (.inr ⟨24, by kernel_rfl, by kernel_rfl, by kernel_rfl⟩) (by kernel_rfl) (Or.inl ⟨by rfl, by intro w hSw; go_simp⟩) (O) ?_
        try simp only [Act.put, List.setIfInBounds_toArray, List.set_cons_zero, List.set_cons_succ]
        refine anyM_take 24 55 (.pointer (some ⟨g, off + i * 16 + 8, none⟩)) rfl rfl (by kernel_rfl) (by kernel_rfl) (by kernel_rfl) (fun _ _ _ h => h) (.inl (by kernel_rfl)) (by kernel_rfl) (Or.inl ⟨by rfl, by intro w hSw; go_simp⟩) (O) ?_
        try simp only [Act.put, List.setIfInBounds_toArray, List.set_cons_zero, List.set_cons_succ]
        refine anyM_two 22 25 (by kernel_rfl) rfl rfl (fun K hK => ?_) (fun K hK => ?_)
        · go_simp
          refine hK.out _ _ (fun _ => O) ?_
          clear hK
          try simp only [Act.put, List.setIfInBounds_toArray, List.set_cons_zero, List.set_cons_succ]
          refine anyM_one 25 (by kernel_rfl) rfl (fun K hK => ?_)
          rw [if_pos (by rfl)]
          refine wp_ownmn O _ _ rfl _ _ _ _ rfl rfl ?_
          clear O
          intro W9 O
          refine hK.out _ _ (fun h => absurd h (by decide)) ?_
          clear hK
          try simp only [Act.put, List.setIfInBounds_toArray, List.set_cons_zero, List.set_cons_succ]
          refine anyM_one 26 (by kernel_rfl) rfl (fun K hK => ?_)
          go_simp
          refine hK.out _ _ (fun h => absurd h (by decide)) ?_
          clear hK
          try simp only [Act.put, List.setIfInBounds_toArray, List.set_cons_zero, List.set_cons_succ]
          refine anyM_one 27 (by kernel_rfl) rfl (fun K hK => ?_)
          go_simp
          refine hK.out _ _ (fun h => absurd h (by decide)) ?_
          clear hK
          try simp only [Act.put, List.setIfInBounds_toArray, List.set_cons_zero, List.set_cons_succ]
          refine anyM_one 28 (by kernel_rfl) rfl (fun K hK => ?_)
          rw [if_pos (by rfl)]
          refine wp_ownmx O _ _ rfl _ _ _ _ rfl rfl ?_
          clear O
          intro W9 O
          refine hK.out _ _ (fun h => absurd h (by decide)) ?_
          clear hK
          try simp only [Act.put, List.setIfInBounds_toArray, List.set_cons_zero, List.set_cons_succ]
          refine anyM_done (by kernel_rfl) ?_ _
          go_wp2
          go_roundg (gk - 1)
          case measure => have := HI.out; omega
          case rel =>
            have HL := O.lst
            rw [HTS.out] at HL
            exact ⟨i + 1, by first | rfl | go_num, by have := HI.out; omega, HL, O.below⟩
        · rw [if_pos (by rfl)]
          refine wp_ownmn O _ _ rfl _ _ _ _ rfl rfl ?_
          clear O
          intro W9 O
          refine hK.out _ _ (fun h => absurd h (by decide)) ?_
          clear hK
          try simp only [Act.put, List.setIfInBounds_toArray, List.set_cons_zero, List.set_cons_succ]
          refine anyM_one 22 (by kernel_rfl) rfl (fun K hK => ?_)
          go_simp
          refine hK.out _ _ (fun h => absurd h (by decide)) ?_
          clear hK
          try simp only [Act.put, List.setIfInBounds_toArray, List.set_cons_zero, List.set_cons_succ]
          refine anyM_one 26 (by kernel_rfl) rfl (fun K hK => ?_)
          go_simp
          refine hK.out _ _ (fun h => absurd h (by decide)) ?_
          clear hK
          try simp only [Act.put, List.setIfInBounds_toArray, List.set_cons_zero, List.set_cons_succ]
          refine anyM_one 27 (by kernel_rfl) rfl (fun K hK => ?_)
          go_simp
          refine hK.out _ _ (fun h => absurd h (by decide)) ?_
          clear hK
          try simp only [Act.put, List.setIfInBounds_toArray, List.set_cons_zero, List.set_cons_succ]
          refine anyM_one 28 (by kernel_rfl) rfl (fun K hK => ?_)
          rw [if_pos (by rfl)]
          refine wp_ownmx O _ _ rfl _ _ _ _ rfl rfl ?_
          clear O
          intro W9 O
          refine hK.out _ _ (fun h => absurd h (by decide)) ?_
          clear hK
          try simp only [Act.put, List.setIfInBounds_toArray, List.set_cons_zero, List.set_cons_succ]
          refine anyM_done (by kernel_rfl) ?_ _
          go_wp2
          go_roundg (gk - 1)
          case measure => have := HI.out; omega
          case rel =>
            have HL := O.lst
            rw [HTS.out] at HL
            exact ⟨i + 1, by first | rfl | go_num, by have := HI.out; omega, HL, O.below⟩
    case neg =>
      have hiI : ¬ (i : Int) < (n : Int) := by omega
      have hin : i = n := by omega
      rw [hin, tkN_all HL0.out] at L
      clear hin hi hgk
      go_wp2
      go_ret
      exact ⟨a1, c1, rfl, L, HFO.out, B⟩
end Go.Proofs.Ytoeebofappbneaa

namespace Go.Proofs.Ytoeebofappbneaa
open Go.ChangeShapes Go.WideShapes Go.ChangeAt Go.RowKit Go.Maps Go.Shelf
set_option linter.unusedVariables false
set_option linter.unusedSimpArgs false

theorem names_small {l : List ST} (hf : fitL l = true) : ∀ x, x ∈ recs l → (x.nm.size : Int) ≤ 9223372036854775807 := fun x hx => by
  have h := (fit_parts (fitsB_fit (fitL_iff.1 hf).1 x hx)).1
  unfold nameB at h
  rw [Bool.and_eq_true] at h
  have := of_decide_eq_true h.1
  omega
theorem fitS_of {id : Int} {l : List ST} (h1 : nodeB id = true) (h2 : fitL l = true) : fitS id l = true := fitS_iff.2 ⟨h1, h2⟩
theorem rd8 {W : World} {a : Option Addr} {cap : Nat} {l : List ST} (hf : fitL l = true) (L : LstT W a l.length cap l) : RdT W a l.length cap l := L.rd (by have := fitL_len hf; omega)
set_option maxRecDepth 100000 in
set_option maxHeartbeats 8000000 in
theorem learns_walk (id : Int) (a : Option Addr) (n cap : Nat) (l : List ST) (cn : ByteArray) (ce cm : Int) (ca : Bool) (ck cs : Int) (w : World) (hr : RdT w a n cap l) (hs : Hid (∀ x, x ∈ recs l → (x.nm.size : Int) ≤ 9223372036854775807)) (hc : Hid ((cn.size : Int) ≤ 9223372036854775807)) :
    Calls Try.prog 5 #[.int .i64 id, .slice a n cap, chv cn ce cm ca ck cs] w fun e w' => e = .returned (.bool true) ∧ Below w.heap.size w w' := by
  have M := Mem.nil w
  have hn := hr.size
  subst hn
  have K1 := fun W (b : Below w.heap.size w W) => rfit_any8 id a _ cap l W (hr.below b) hs.out
  have K2 := fun W => rfit_any cn ce cm ca ck cs W hc
  cases hf : fitS id l with
  | false =>
    rw [hf] at K1
    clear hf hr hs hc
    go_enter Try.func5, Try.ntmps5
    go_wp2_with (first
      | ((with_reducible show wpList _ _ _ (Oper.mk (some 5) (Op.box 30 _) _ _ _ _ :: _) _ _); refine wpList_box M rfl _ rfl _ rfl ?_; clear M; intro k5 W M)
      | (go_at_call 8; refine (K1 _ M.below).mono ?_; rintro e W1 ⟨rfl, b1⟩; replace M := M.later b1; clear b1)
      | (go_at_call 14; refine (awake_anyS _).mono ?_; rintro e W9 ⟨rfl, b9⟩; replace M := M.later b9; clear b9))
    go_ret
    exact ⟨rfl, M.below⟩
  | true =>
  rw [hf] at K1
  cases hcf : CH.fit ⟨cn, ce, cm, ca, ck, cs⟩ with
  | false =>
    rw [hcf] at K2
    clear hf hr hs hc hcf
    go_enter Try.func5, Try.ntmps5
    go_wp2_with (first
      | ((with_reducible show wpList _ _ _ (Oper.mk (some 5) (Op.box 30 _) _ _ _ _ :: _) _ _); refine wpList_box M rfl _ rfl _ rfl ?_; clear M; intro k5 W M)
      | ((with_reducible show wpList _ _ _ (Oper.mk _ (Op.load 30 _) _ _ _ _ :: _) _ _); refine wpList_load M (by rfl) _ rfl rt23 rfl (by first | exact .head _) (by rfl) ?_)
      | (go_at_call 8; refine (K1 _ M.below).mono ?_; rintro e W1 ⟨rfl, b1⟩; replace M := M.later b1; clear b1)
      | (go_at_call 15; refine (K2 _).mono ?_; rintro e W1 ⟨rfl, b1⟩; replace M := M.later b1; clear b1)
      | (go_at_call 14; refine (awake_anyS _).mono ?_; rintro e W9 ⟨rfl, b9⟩; replace M := M.later b9; clear b9))
    go_ret
    exact ⟨rfl, M.below⟩
  | true =>
    rw [hcf] at K2
    obtain ⟨hid, hfl⟩ := fitS_iff.1 hf
    have HFL : Hid (fitL l = true) := hfl
    have K3 := fun W (b : Below w.heap.size w W) => rcopy_any a cap l W (hr.below b)
    have K4 := fun (a1 : Option Addr) (c1 : Nat) W (L : LstT W a1 l.length c1 l) => learn_anyS a1 c1 l cn ce cm ca ck cs W (rd8 HFL.out L) HFL.out
    have K5 := fun W (b : Below w.heap.size w W) => rlearn_anyS a cap l cn ce cm ca ck cs W (hr.below b) HFL.out
    have hfl2 := lrnS_fit (c := ⟨cn, ce, cm, ca, ck, cs⟩) hfl hcf
    have hag := lrnS_again (c := ⟨cn, ce, cm, ca, ck, cs⟩) hfl
    have hbg := lrnB_again (c := ⟨cn, ce, cm, ca, ck, cs⟩) hfl
    obtain ⟨LL, hLL⟩ : ∃ LL, lrnS l ⟨cn, ce, cm, ca, ck, cs⟩ = LL := ⟨_, rfl⟩
    obtain ⟨B, hB⟩ : ∃ B, lrnB l ⟨cn, ce, cm, ca, ck, cs⟩ = B := ⟨_, rfl⟩
    rw [hLL] at hfl2 hag hbg
    rw [hLL, hB] at K4 K5
    have HF2 : Hid (fitL LL = true) := hfl2
    have K6 := fun (a1 a2 : Option Addr) (c1 c2 : Nat) W (L1 : LstT W a1 LL.length c1 LL) (L2 : LstT W a2 LL.length c2 LL) => rsame_any a1 a2 _ _ c1 c2 LL LL W (rd8 HF2.out L1) (rd8 HF2.out L2)
    have K7 := fun (a1 : Option Addr) (c1 : Nat) W (L1 : LstT W a1 LL.length c1 LL) => rfit_any8 id a1 _ c1 LL W (rd8 HF2.out L1) (names_small HF2.out)
    have K8 := fun (a1 : Option Addr) (c1 : Nat) W (b : Below w.heap.size w W) (L1 : LstT W a1 l.length c1 l) => rsame_any a1 a _ _ c1 cap l l W (rd8 HFL.out L1) (hr.below b)
    have K9 := fun (a1 : Option Addr) (c1 : Nat) W (L : LstT W a1 LL.length c1 LL) => learn_anyS a1 c1 LL cn ce cm ca ck cs W (rd8 HF2.out L) HF2.out
    rw [hag, hbg] at K9
    rw [sameT_self] at K6 K8
    rw [fitS_of hid hfl2] at K7
    have eB : (B != B) = false := by simp
    clear hf hr hs hc hcf hid hfl hfl2 hag hbg hLL hB
    go_enter Try.func5, Try.ntmps5
    go_wp2_with (first
      | ((with_reducible show wpList _ _ _ (Oper.mk (some 5) (Op.box 30 _) _ _ _ _ :: _) _ _); refine wpList_box M rfl _ rfl _ rfl ?_; clear M; intro k5 W M)
      | ((with_reducible show wpList _ _ _ (Oper.mk _ (Op.load 30 _) _ _ _ _ :: _) _ _); refine wpList_load M (by rfl) _ rfl rt23 rfl (by first | exact .head _) (by rfl) ?_)
      | (go_at_call 8; refine (K1 _ M.below).mono ?_; clear K1; rintro e W1 ⟨rfl, b1⟩; replace M := M.later b1; clear b1)
      | (go_at_call 15; refine (K2 _).mono ?_; clear K2; rintro e W1 ⟨rfl, b1⟩; replace M := M.later b1; clear b1)
      | (go_at_call 13; refine (K3 _ M.below).mono ?_; clear K3; rintro e W1 ⟨a1, c1, rfl, L1, fo1, b1⟩; replace M := M.later b1; clear b1 fo1)
      | (go_at_call 23; refine (K4 _ _ _ L1).mono ?_; clear K4; rintro e W1 ⟨a2, c2, rfl, L2, fo2, b1⟩; replace M := M.later b1; replace L1 := L1.below b1; clear b1 fo2)
      | (go_at_call 24; refine (K5 _ M.below).mono ?_; clear K5; rintro e W1 ⟨a3, c3, rfl, L3, fo3, b1⟩; replace M := M.later b1; replace L1 := L1.below b1; replace L2 := L2.below b1; clear b1 fo3)
      | (go_at_call 12; refine (K6 a2 a3 _ _ _ L2 L3).mono ?_; clear L3; rintro e W1 ⟨rfl, b1⟩; replace M := M.later b1; replace L1 := L1.below b1; replace L2 := L2.below b1; clear b1)
      | (go_at_call 8; refine (K7 _ _ _ L2).mono ?_; clear K7; rintro e W1 ⟨rfl, b1⟩; replace M := M.later b1; replace L1 := L1.below b1; replace L2 := L2.below b1; clear b1)
      | (go_at_call 12; refine (K8 _ _ _ M.below L1).mono ?_; clear K8 L1; rintro e W1 ⟨rfl, b1⟩; replace M := M.later b1; replace L2 := L2.below b1; clear b1)
      | (go_at_call 23; refine (K9 _ _ _ L2).mono ?_; clear K9; rintro e W1 ⟨a4, c4, rfl, L4, fo4, b1⟩; replace M := M.later b1; replace L2 := L2.below b1; clear b1 fo4)
      | (go_at_call 12; refine (K6 a4 a2 _ _ _ L4 L2).mono ?_; clear K6 L4; rintro e W1 ⟨rfl, b1⟩; replace M := M.later b1; clear b1)
      | (go_at_call 14; refine (awake_anyS _).mono ?_; rintro e W9 ⟨rfl, b9⟩; replace M := M.later b9; clear b9))
    go_ret
    exact ⟨rfl, M.below⟩
end Go.Proofs.Ytoeebofappbneaa

namespace Go.Proofs.Ytoeebofappbneaa
open Go.ChangeShapes Go.WideShapes Go.ChangeAt Go.RowKit Go.Maps Go.Shelf
set_option linter.unusedVariables false
set_option linter.unusedSimpArgs false

theorem crS_other {l : List ST} {s : ST} (h : s ∈ l) {id : Int} {name : ByteArray} {kind x : Int} (hn : s.c.nm ≠ name) : s ∈ crS l id name kind x := by
  unfold crS
  split
  · exact anw_other h hn
  · exact h
theorem dlS_other {l : List ST} {s : ST} (h : s ∈ l) {id : Int} {name : ByteArray} (hn : s.c.nm ≠ name) : s ∈ dlS l id name := by
  unfold dlS
  split
  · rename_i h0
    exact anw_other h (by rw [dlM_nm h0]; exact hn)
  · exact h
theorem lrnS_other {l : List ST} {s : ST} (h : s ∈ l) {c : CH} (hn : s.c.nm ≠ c.nm) : s ∈ lrnS l c := by
  unfold lrnS
  split
  · exact anw_other h hn
  · exact h
theorem stS_other {l : List ST} {s : ST} (h : s ∈ l) {id : Int} {name : ByteArray} {x : Int} (hn : s.c.nm ≠ name) : s ∈ stS l id name x := by
  unfold stS
  cases hp : plc name l with
  | none => exact h
  | some i =>
    dsimp only
    split
    · obtain ⟨h1, h2, _⟩ := plc_at hp
      obtain ⟨j, hj, rfl⟩ := List.getElem_of_mem h
      have hij : i ≠ j := by
        rintro rfl
        rw [getT_at h1] at h2
        exact hn (isP_nm h2).1
      exact List.mem_iff_getElem.2 ⟨j, by rw [List.length_set]; exact hj, by rw [List.getElem_set_ne hij]⟩
    · exact h
theorem getD_set {l : List ST} {i j : Nat} {s : ST} (hi : i < l.length) : (l.set i s).getD j ST.z = if i = j then s else l.getD j ST.z := by
  rw [List.getD_eq_getElem?_getD, List.getElem?_set, List.getD_eq_getElem?_getD]
  split
  · rename_i e
    subst e
    simp [hi]
  · rfl
theorem plc_set {name : ByteArray} {l : List ST} {i : Nat} {s : ST} (h : plc name l = some i) (hc : s.c = (l.getD i ST.z).c) : plc name (l.set i s) = some i := by
  obtain ⟨h1, h2, h3⟩ := plc_at h
  refine plc_some (by rw [List.length_set]; exact h1) (fun j hj => ?_) ?_
  · rw [getD_set h1, if_neg (by omega)]
    exact h3 j hj
  · rw [getD_set h1, if_pos rfl]
    unfold isP
    rw [hc]
    exact h2
theorem tick_form (id : Int) (s : ST) : ∃ x y, tickT id s = ⟨s.c, s.h, s.i, x, y⟩ := by
  unfold tickT
  split
  · exact ⟨_, _, rfl⟩
  · exact ⟨_, _, rfl⟩
theorem keeps_find {l : List ST} {id : Int} {name : ByteArray} {x : Int} (h : stE l name x = 0) : ∃ s, s.h = true ∧ fdV name (stS l id name x) = .tuple #[s.val, .bool true] ∧ fdV name (tkS (stS l id name x) id) = .tuple #[(tickT id s).val, .bool true] := by
  unfold stE at h
  unfold stS
  cases hp : plc name l with
  | none => rw [hp] at h; cases h
  | some i =>
    rw [hp] at h
    dsimp only at h ⊢
    rw [if_pos h]
    obtain ⟨h1, _, _⟩ := plc_at hp
    obtain ⟨s, hs⟩ : ∃ s, setT id (tldV (l.getD i ST.z).c.kd x (l.getD i ST.z).c.sc) (l.getD i ST.z) = s := ⟨_, rfl⟩
    have hc : s.c = (l.getD i ST.z).c := by rw [← hs]; exact setT_c _ _ _
    have hh : s.h = true := by rw [← hs]; unfold setT; split <;> rfl
    rw [hs]
    have hp2 := plc_set hp hc
    have hp3 : plc name (tkS (l.set i s) id) = some i := by unfold tkS; rw [plc_map _ (tickT_c id)]; exact hp2
    have hg : (tkS (l.set i s) id).getD i ST.z = tickT id s := by
      unfold tkS
      rw [List.getD_eq_getElem?_getD, List.getElem?_map, List.getElem?_set_self h1]
      rfl
    refine ⟨s, hh, ?_, ?_⟩
    · unfold fdV fdT
      rw [hp2]
      dsimp only
      rw [getD_set h1, if_pos rfl]
      rfl
    · unfold fdV fdT
      rw [hp3]
      dsimp only
      rw [hg]
      rfl
set_option maxRecDepth 100000 in
set_option maxHeartbeats 16000000 in
theorem keeps_walk (id : Int) (a : Option Addr) (n cap : Nat) (l : List ST) (name : ByteArray) (kind x : Int) (cn : ByteArray) (ce cm : Int) (ca : Bool) (ck cs : Int) (w : World) (hr : RdT w a n cap l) (hs : Hid (∀ x, x ∈ recs l → (x.nm.size : Int) ≤ 9223372036854775807)) (hc : Hid ((cn.size : Int) ≤ 9223372036854775807)) :
    Calls Try.prog 6 #[.int .i64 id, .slice a n cap, .string name, .int .i64 kind, .int .i64 x, chv cn ce cm ca ck cs] w fun e w' => e = .returned (.bool true) ∧ Below w.heap.size w w' := by
  have M := Mem.nil w
  have hn := hr.size
  subst hn
  have K1 := fun W (b : Below w.heap.size w W) => rfit_any8 id a _ cap l W (hr.below b) hs.out
  have K2 := fun W => rfit_any cn ce cm ca ck cs W hc
  cases hf : fitS id l with
  | false =>
    rw [hf] at K1
    clear hf hr hs hc
    go_enter Try.func6, Try.ntmps6
    go_wp2_with (first
      | ((with_reducible show wpList _ _ _ (Oper.mk (some 11) (Op.box 30 _) _ _ _ _ :: _) _ _); refine wpList_box M rfl _ rfl _ rfl ?_; clear M; intro k11 W M)
      | (go_at_call 8; refine (K1 _ M.below).mono ?_; clear K1; rintro e W1 ⟨rfl, b1⟩; replace M := M.later b1; clear b1)
      | (go_at_call 14; refine (awake_anyS _).mono ?_; rintro e W9 ⟨rfl, b9⟩; replace M := M.later b9; clear b9))
    go_ret
    exact ⟨rfl, M.below⟩
  | true =>
  rw [hf] at K1
  cases hcf : CH.fit ⟨cn, ce, cm, ca, ck, cs⟩ with
  | false =>
    rw [hcf] at K2
    clear hf hr hs hc hcf
    go_enter Try.func6, Try.ntmps6
    go_wp2_with (first
      | ((with_reducible show wpList _ _ _ (Oper.mk (some 11) (Op.box 30 _) _ _ _ _ :: _) _ _); refine wpList_box M rfl _ rfl _ rfl ?_; clear M; intro k11 W M)
      | ((with_reducible show wpList _ _ _ (Oper.mk _ (Op.load 30 _) _ _ _ _ :: _) _ _); refine wpList_load M (by rfl) _ rfl rt23 rfl (by first | exact .head _) (by rfl) ?_)
      | (go_at_call 8; refine (K1 _ M.below).mono ?_; clear K1; rintro e W1 ⟨rfl, b1⟩; replace M := M.later b1; clear b1)
      | (go_at_call 15; refine (K2 _).mono ?_; clear K2; rintro e W1 ⟨rfl, b1⟩; replace M := M.later b1; clear b1)
      | (go_at_call 14; refine (awake_anyS _).mono ?_; rintro e W9 ⟨rfl, b9⟩; replace M := M.later b9; clear b9))
    go_ret
    exact ⟨rfl, M.below⟩
  | true =>
    rw [hcf] at K2
    obtain ⟨hid, hfl⟩ := fitS_iff.1 hf
    have HFL : Hid (fitL l = true) := hfl
    have HLN : Hid (l.length ≤ 8) := fitL_len hfl
    have K3 := fun W (b : Below w.heap.size w W) => create_anyS a cap l id name kind x W (hr.below b) HFL.out
    have K4 := fun W (b : Below w.heap.size w W) => delete_anyS a cap l id name W (hr.below b) HFL.out
    have K5 := fun W (b : Below w.heap.size w W) => set_anyS a cap l id name x W (hr.below b) HFL.out
    have K6 := fun W (b : Below w.heap.size w W) => learn_anyS a cap l cn ce cm ca ck cs W (hr.below b) HFL.out
    have HF13 : Hid (fitL (crS l id name kind x) = true) := crS_fit hfl hid name kind x
    have HF15 : Hid (fitL (dlS l id name) = true) := dlS_fit hfl hid name
    have HF17 : Hid (fitL (stS l id name x) = true) := stS_fit hfl hid name x
    have HF19 : Hid (fitL (lrnS l ⟨cn, ce, cm, ca, ck, cs⟩) = true) := lrnS_fit hfl hcf
    have HO13 : Hid (∀ s, s ∈ l → s.c.nm ≠ name → hasT (crS l id name kind x) s = true) := fun s h hn => hasT_iff.2 (crS_other h hn)
    have HO15 : Hid (∀ s, s ∈ l → s.c.nm ≠ name → hasT (dlS l id name) s = true) := fun s h hn => hasT_iff.2 (dlS_other h hn)
    have HO17 : Hid (∀ s, s ∈ l → s.c.nm ≠ name → hasT (stS l id name x) s = true) := fun s h hn => hasT_iff.2 (stS_other h hn)
    have HO19 : Hid (∀ s, s ∈ l → s.c.nm ≠ cn → hasT (lrnS l ⟨cn, ce, cm, ca, ck, cs⟩) s = true) := fun s h hn => hasT_iff.2 (lrnS_other h hn)
    have HKF : Hid (stE l name x = 0 → ∃ s, s.h = true ∧ fdV name (stS l id name x) = .tuple #[s.val, .bool true] ∧ fdV name (tkS (stS l id name x) id) = .tuple #[(tickT id s).val, .bool true]) := keeps_find
    obtain ⟨A13, e13⟩ : ∃ L, crS l id name kind x = L := ⟨_, rfl⟩
    obtain ⟨A15, e15⟩ : ∃ L, dlS l id name = L := ⟨_, rfl⟩
    obtain ⟨A17, e17⟩ : ∃ L, stS l id name x = L := ⟨_, rfl⟩
    obtain ⟨A19, e19⟩ : ∃ L, lrnS l ⟨cn, ce, cm, ca, ck, cs⟩ = L := ⟨_, rfl⟩
    obtain ⟨E3, f3⟩ : ∃ E, crE (recs l) name kind x = E := ⟨_, rfl⟩
    obtain ⟨E4, f4⟩ : ∃ E, dlE (recs l) name = E := ⟨_, rfl⟩
    obtain ⟨E5, f5⟩ : ∃ E, stE l name x = E := ⟨_, rfl⟩
    obtain ⟨E6, f6⟩ : ∃ E, lrnB l ⟨cn, ce, cm, ca, ck, cs⟩ = E := ⟨_, rfl⟩
    rw [e13, f3] at K3
    rw [e15, f4] at K4
    rw [e17, f5] at K5
    rw [e19, f6] at K6
    rw [e13] at HF13 HO13
    rw [e15] at HF15 HO15
    rw [e17] at HF17 HO17
    rw [e19] at HF19 HO19
    rw [e17, f5] at HKF
    clear hf hs hc hcf hid hfl e13 e15 e17 e19 f3 f4 f5 f6
    go_enter Try.func6, Try.ntmps6
    go_wp2_with (first
      | ((with_reducible show wpList _ _ _ (Oper.mk (some 11) (Op.box 30 _) _ _ _ _ :: _) _ _); refine wpList_box M rfl _ rfl _ rfl ?_; clear M; intro k11 W M)
      | ((with_reducible show wpList _ _ _ (Oper.mk _ (Op.load 30 _) _ _ _ _ :: _) _ _); refine wpList_load M (by rfl) _ rfl rt23 rfl (by first | exact .head _) (by rfl) ?_)
      | (go_at_call 8; refine (K1 _ M.below).mono ?_; clear K1; rintro e W1 ⟨rfl, b1⟩; replace M := M.later b1; clear b1)
      | (go_at_call 15; refine (K2 _).mono ?_; clear K2; rintro e W1 ⟨rfl, b1⟩; replace M := M.later b1; clear b1)
      | (go_at_call 25; refine (K3 _ M.below).mono ?_; clear K3; rintro e W1 ⟨a13, c13, rfl, L13, fo13, b1⟩; replace M := M.later b1; have R13 := rd8 HF13.out L13; clear b1 fo13 L13)
      | (go_at_call 26; refine (K4 _ M.below).mono ?_; clear K4; rintro e W1 ⟨a15, c15, rfl, L15, fo15, b1⟩; replace M := M.later b1; have R15 := rd8 HF15.out L15; replace R13 := R13.below b1; clear b1 fo15 L15)
      | (go_at_call 27; refine (K5 _ M.below).mono ?_; clear K5; rintro e W1 ⟨a17, c17, rfl, L17, fo17, b1⟩; replace M := M.later b1; have R17 := rd8 HF17.out L17; replace R13 := R13.below b1; replace R15 := R15.below b1; clear b1 fo17 L17)
      | (go_at_call 23; refine (K6 _ M.below).mono ?_; clear K6; rintro e W1 ⟨a19, c19, rfl, L19, fo19, b1⟩; replace M := M.later b1; have R19 := rd8 HF19.out L19; replace R13 := R13.below b1; replace R15 := R15.below b1; replace R17 := R17.below b1; clear b1 fo19 L19))
    obtain ⟨Wc, hWc⟩ : ∃ Wc : World, Wc = W1 := ⟨_, rfl⟩
    subst hWc
    have hrc := hr.below M.below
    have KNM : ∀ X, Below Wc.heap.size Wc X → X.cell? ⟨k11, 0, none⟩ = some (.string cn) := fun X b => row_cell ((b.block k11 (M.lt (.head _))).trans (M.get (.head _))) 0 _ rfl
    clear hr
    go_loopg [21, 22] l.length (fun gk v21 v22 wr => ∃ i : Nat, v21 = .int .i64 (i : Int) ∧ i + gk = l.length ∧ Below Wc.heap.size Wc wr)
    case atStart => exact ⟨0, by first | rfl | go_num, by omega, Below.refl _ _⟩
    case round =>
      obtain ⟨i, rfl, hgk, B9⟩ := hrel
      by_cases hi : i < l.length
      case pos =>
        have HI : Hid (i < l.length) := hi
        have hiI : (i : Int) < (l.length : Int) := by omega
        have hwr : IntKind.i64.wrap ((i : Int) + 1) = (i : Int) + 1 := by rw [IntKind.wrap_i64]; have := HLN.out; omega
        obtain ⟨b, off, rfl, hb1, hd, hra⟩ := hrc.at i hi
        have hm : l.getD i ST.z ∈ l := List.mem_of_getElem? hd
        obtain ⟨⟨⟨nm, ep, mr, al, kd, sc⟩, hv, iv, ⟨h1, v1, o1, g1⟩, ⟨h2, v2, o2, g2⟩⟩, hri⟩ : ∃ r, l.getD i ST.z = r := ⟨_, rfl⟩
        rw [hri] at hra hm
        have KR : ∀ X, Below Wc.heap.size Wc X → X.rangeAt b (off + i * 16) (ST.cells ⟨⟨nm, ep, mr, al, kd, sc⟩, hv, iv, ⟨h1, v1, o1, g1⟩, ⟨h2, v2, o2, g2⟩⟩) := fun X h => range_later hra hb1 h
        have HM13 : Hid (nm ≠ name → hasT A13 ⟨⟨nm, ep, mr, al, kd, sc⟩, hv, iv, ⟨h1, v1, o1, g1⟩, ⟨h2, v2, o2, g2⟩⟩ = true) := fun h => HO13.out _ hm h
        have HM15 : Hid (nm ≠ name → hasT A15 ⟨⟨nm, ep, mr, al, kd, sc⟩, hv, iv, ⟨h1, v1, o1, g1⟩, ⟨h2, v2, o2, g2⟩⟩ = true) := fun h => HO15.out _ hm h
        have HM17 : Hid (nm ≠ name → hasT A17 ⟨⟨nm, ep, mr, al, kd, sc⟩, hv, iv, ⟨h1, v1, o1, g1⟩, ⟨h2, v2, o2, g2⟩⟩ = true) := fun h => HO17.out _ hm h
        have HM19 : Hid (nm ≠ cn → hasT A19 ⟨⟨nm, ep, mr, al, kd, sc⟩, hv, iv, ⟨h1, v1, o1, g1⟩, ⟨h2, v2, o2, g2⟩⟩ = true) := fun h => HO19.out _ hm h
        have H13 := fun W (b : Below Wc.heap.size Wc W) => has_any a13 _ c13 A13 nm ep mr al kd sc hv iv h1 v1 o1 g1 h2 v2 o2 g2 W (R13.below b)
        have H15 := fun W (b : Below Wc.heap.size Wc W) => has_any a15 _ c15 A15 nm ep mr al kd sc hv iv h1 v1 o1 g1 h2 v2 o2 g2 W (R15.below b)
        have H17 := fun W (b : Below Wc.heap.size Wc W) => has_any a17 _ c17 A17 nm ep mr al kd sc hv iv h1 v1 o1 g1 h2 v2 o2 g2 W (R17.below b)
        have H19 := fun W (b : Below Wc.heap.size Wc W) => has_any a19 _ c19 A19 nm ep mr al kd sc hv iv h1 v1 o1 g1 h2 v2 o2 g2 W (R19.below b)
        clear hri hd hi hra hm hb1
        by_cases e1 : nm = name
        case pos =>
          by_cases e2 : nm = cn
          case pos =>
            as_aux_lemma =>
              have hq1 : (nm.toList == name.toList) = true := nm_beq.2 e1
              have hq2 : (nm.toList == cn.toList) = true := nm_beq.2 e2
              have hq3 : (nm.toList != name.toList) = false := by rw [bne, hq1]; rfl
              have hq4 : (nm.toList != cn.toList) = false := by rw [bne, hq2]; rfl
              clear e1 e2 H13 H15 H17 H19
              go_wp2_with (first
                    | ((with_reducible show wpList _ _ _ (Oper.mk _ (Op.load 9 (Operand.tmp 77)) _ _ _ _ :: _) _ _); refine wpList_cell9w (by rfl) _ rfl _ rfl (KR _ B9 0 _ rfl) ?_)
                    | ((with_reducible show wpList _ _ _ (Oper.mk _ (Op.load 9 (Operand.tmp 111)) _ _ _ _ :: _) _ _); refine wpList_cell9w (by rfl) _ rfl cn rfl (KNM _ B9) ?_)
                    | ((with_reducible show wpList _ _ _ (Oper.mk _ (Op.load 35 (Operand.tmp 86)) _ _ _ _ :: _) _ _); refine wpList_load35w (by rfl) _ rfl b (off + i * 16) _ _ _ _ _ _ _ _ _ _ _ _ _ _ _ _ rfl (KR _ B9) ?_)
                    | ((with_reducible show wpList _ _ _ (Oper.mk _ (Op.load 35 (Operand.tmp 94)) _ _ _ _ :: _) _ _); refine wpList_load35w (by rfl) _ rfl b (off + i * 16) _ _ _ _ _ _ _ _ _ _ _ _ _ _ _ _ rfl (KR _ B9) ?_)
                    | ((with_reducible show wpList _ _ _ (Oper.mk _ (Op.load 35 (Operand.tmp 103)) _ _ _ _ :: _) _ _); refine wpList_load35w (by rfl) _ rfl b (off + i * 16) _ _ _ _ _ _ _ _ _ _ _ _ _ _ _ _ rfl (KR _ B9) ?_)
                    | ((with_reducible show wpList _ _ _ (Oper.mk _ (Op.load 35 (Operand.tmp 118)) _ _ _ _ :: _) _ _); refine wpList_load35w (by rfl) _ rfl b (off + i * 16) _ _ _ _ _ _ _ _ _ _ _ _ _ _ _ _ rfl (KR _ B9) ?_)
                    | (go_at_call 28; refine (H13 _ B9).mono ?_; clear H13; rintro e W1 ⟨rfl, b1⟩; replace B9 := B9.trans (b1.mono B9.size); clear b1)
                    | (go_at_call 28; refine (H15 _ B9).mono ?_; clear H15; rintro e W1 ⟨rfl, b1⟩; replace B9 := B9.trans (b1.mono B9.size); clear b1)
                    | (go_at_call 28; refine (H17 _ B9).mono ?_; clear H17; rintro e W1 ⟨rfl, b1⟩; replace B9 := B9.trans (b1.mono B9.size); clear b1)
                    | (go_at_call 28; refine (H19 _ B9).mono ?_; clear H19; rintro e W1 ⟨rfl, b1⟩; replace B9 := B9.trans (b1.mono B9.size); clear b1))
              go_roundg (gk - 1)
              case measure => have := HI.out; omega
              case rel => exact ⟨i + 1, by first | rfl | go_num, by have := HI.out; omega, B9⟩
          case neg =>
            as_aux_lemma =>
              have hq1 : (nm.toList == name.toList) = true := nm_beq.2 e1
              have hq2 : (nm.toList == cn.toList) = false := nm_bne e2
              have hq3 : (nm.toList != name.toList) = false := by rw [bne, hq1]; rfl
              have hq4 : (nm.toList != cn.toList) = true := by rw [bne, hq2]; rfl
              replace H19 := fun W (b : Below Wc.heap.size Wc W) => (by have := H19 W b; rw [HM19.out e2] at this; exact this : Calls _ _ _ _ _)
              clear e1 e2 H13 H15 H17
              go_wp2_with (first
                    | ((with_reducible show wpList _ _ _ (Oper.mk _ (Op.load 9 (Operand.tmp 77)) _ _ _ _ :: _) _ _); refine wpList_cell9w (by rfl) _ rfl _ rfl (KR _ B9 0 _ rfl) ?_)
                    | ((with_reducible show wpList _ _ _ (Oper.mk _ (Op.load 9 (Operand.tmp 111)) _ _ _ _ :: _) _ _); refine wpList_cell9w (by rfl) _ rfl cn rfl (KNM _ B9) ?_)
                    | ((with_reducible show wpList _ _ _ (Oper.mk _ (Op.load 35 (Operand.tmp 86)) _ _ _ _ :: _) _ _); refine wpList_load35w (by rfl) _ rfl b (off + i * 16) _ _ _ _ _ _ _ _ _ _ _ _ _ _ _ _ rfl (KR _ B9) ?_)
                    | ((with_reducible show wpList _ _ _ (Oper.mk _ (Op.load 35 (Operand.tmp 94)) _ _ _ _ :: _) _ _); refine wpList_load35w (by rfl) _ rfl b (off + i * 16) _ _ _ _ _ _ _ _ _ _ _ _ _ _ _ _ rfl (KR _ B9) ?_)
                    | ((with_reducible show wpList _ _ _ (Oper.mk _ (Op.load 35 (Operand.tmp 103)) _ _ _ _ :: _) _ _); refine wpList_load35w (by rfl) _ rfl b (off + i * 16) _ _ _ _ _ _ _ _ _ _ _ _ _ _ _ _ rfl (KR _ B9) ?_)
                    | ((with_reducible show wpList _ _ _ (Oper.mk _ (Op.load 35 (Operand.tmp 118)) _ _ _ _ :: _) _ _); refine wpList_load35w (by rfl) _ rfl b (off + i * 16) _ _ _ _ _ _ _ _ _ _ _ _ _ _ _ _ rfl (KR _ B9) ?_)
                    | (go_at_call 28; refine (H13 _ B9).mono ?_; clear H13; rintro e W1 ⟨rfl, b1⟩; replace B9 := B9.trans (b1.mono B9.size); clear b1)
                    | (go_at_call 28; refine (H15 _ B9).mono ?_; clear H15; rintro e W1 ⟨rfl, b1⟩; replace B9 := B9.trans (b1.mono B9.size); clear b1)
                    | (go_at_call 28; refine (H17 _ B9).mono ?_; clear H17; rintro e W1 ⟨rfl, b1⟩; replace B9 := B9.trans (b1.mono B9.size); clear b1)
                    | (go_at_call 28; refine (H19 _ B9).mono ?_; clear H19; rintro e W1 ⟨rfl, b1⟩; replace B9 := B9.trans (b1.mono B9.size); clear b1))
              go_roundg (gk - 1)
              case measure => have := HI.out; omega
              case rel => exact ⟨i + 1, by first | rfl | go_num, by have := HI.out; omega, B9⟩
        case neg =>
          by_cases e2 : nm = cn
          case pos =>
            as_aux_lemma =>
              have hq1 : (nm.toList == name.toList) = false := nm_bne e1
              have hq2 : (nm.toList == cn.toList) = true := nm_beq.2 e2
              have hq3 : (nm.toList != name.toList) = true := by rw [bne, hq1]; rfl
              have hq4 : (nm.toList != cn.toList) = false := by rw [bne, hq2]; rfl
              replace H13 := fun W (b : Below Wc.heap.size Wc W) => (by have := H13 W b; rw [HM13.out e1] at this; exact this : Calls _ _ _ _ _)
              replace H15 := fun W (b : Below Wc.heap.size Wc W) => (by have := H15 W b; rw [HM15.out e1] at this; exact this : Calls _ _ _ _ _)
              replace H17 := fun W (b : Below Wc.heap.size Wc W) => (by have := H17 W b; rw [HM17.out e1] at this; exact this : Calls _ _ _ _ _)
              clear e1 e2 H19
              go_wp2_with (first
                    | ((with_reducible show wpList _ _ _ (Oper.mk _ (Op.load 9 (Operand.tmp 77)) _ _ _ _ :: _) _ _); refine wpList_cell9w (by rfl) _ rfl _ rfl (KR _ B9 0 _ rfl) ?_)
                    | ((with_reducible show wpList _ _ _ (Oper.mk _ (Op.load 9 (Operand.tmp 111)) _ _ _ _ :: _) _ _); refine wpList_cell9w (by rfl) _ rfl cn rfl (KNM _ B9) ?_)
                    | ((with_reducible show wpList _ _ _ (Oper.mk _ (Op.load 35 (Operand.tmp 86)) _ _ _ _ :: _) _ _); refine wpList_load35w (by rfl) _ rfl b (off + i * 16) _ _ _ _ _ _ _ _ _ _ _ _ _ _ _ _ rfl (KR _ B9) ?_)
                    | ((with_reducible show wpList _ _ _ (Oper.mk _ (Op.load 35 (Operand.tmp 94)) _ _ _ _ :: _) _ _); refine wpList_load35w (by rfl) _ rfl b (off + i * 16) _ _ _ _ _ _ _ _ _ _ _ _ _ _ _ _ rfl (KR _ B9) ?_)
                    | ((with_reducible show wpList _ _ _ (Oper.mk _ (Op.load 35 (Operand.tmp 103)) _ _ _ _ :: _) _ _); refine wpList_load35w (by rfl) _ rfl b (off + i * 16) _ _ _ _ _ _ _ _ _ _ _ _ _ _ _ _ rfl (KR _ B9) ?_)
                    | ((with_reducible show wpList _ _ _ (Oper.mk _ (Op.load 35 (Operand.tmp 118)) _ _ _ _ :: _) _ _); refine wpList_load35w (by rfl) _ rfl b (off + i * 16) _ _ _ _ _ _ _ _ _ _ _ _ _ _ _ _ rfl (KR _ B9) ?_)
                    | (go_at_call 28; refine (H13 _ B9).mono ?_; clear H13; rintro e W1 ⟨rfl, b1⟩; replace B9 := B9.trans (b1.mono B9.size); clear b1)
                    | (go_at_call 28; refine (H15 _ B9).mono ?_; clear H15; rintro e W1 ⟨rfl, b1⟩; replace B9 := B9.trans (b1.mono B9.size); clear b1)
                    | (go_at_call 28; refine (H17 _ B9).mono ?_; clear H17; rintro e W1 ⟨rfl, b1⟩; replace B9 := B9.trans (b1.mono B9.size); clear b1)
                    | (go_at_call 28; refine (H19 _ B9).mono ?_; clear H19; rintro e W1 ⟨rfl, b1⟩; replace B9 := B9.trans (b1.mono B9.size); clear b1))
              go_roundg (gk - 1)
              case measure => have := HI.out; omega
              case rel => exact ⟨i + 1, by first | rfl | go_num, by have := HI.out; omega, B9⟩
          case neg =>
            as_aux_lemma =>
              have hq1 : (nm.toList == name.toList) = false := nm_bne e1
              have hq2 : (nm.toList == cn.toList) = false := nm_bne e2
              have hq3 : (nm.toList != name.toList) = true := by rw [bne, hq1]; rfl
              have hq4 : (nm.toList != cn.toList) = true := by rw [bne, hq2]; rfl
              replace H13 := fun W (b : Below Wc.heap.size Wc W) => (by have := H13 W b; rw [HM13.out e1] at this; exact this : Calls _ _ _ _ _)
              replace H15 := fun W (b : Below Wc.heap.size Wc W) => (by have := H15 W b; rw [HM15.out e1] at this; exact this : Calls _ _ _ _ _)
              replace H17 := fun W (b : Below Wc.heap.size Wc W) => (by have := H17 W b; rw [HM17.out e1] at this; exact this : Calls _ _ _ _ _)
              replace H19 := fun W (b : Below Wc.heap.size Wc W) => (by have := H19 W b; rw [HM19.out e2] at this; exact this : Calls _ _ _ _ _)
              clear e1 e2
              go_wp2_with (first
                    | ((with_reducible show wpList _ _ _ (Oper.mk _ (Op.load 9 (Operand.tmp 77)) _ _ _ _ :: _) _ _); refine wpList_cell9w (by rfl) _ rfl _ rfl (KR _ B9 0 _ rfl) ?_)
                    | ((with_reducible show wpList _ _ _ (Oper.mk _ (Op.load 9 (Operand.tmp 111)) _ _ _ _ :: _) _ _); refine wpList_cell9w (by rfl) _ rfl cn rfl (KNM _ B9) ?_)
                    | ((with_reducible show wpList _ _ _ (Oper.mk _ (Op.load 35 (Operand.tmp 86)) _ _ _ _ :: _) _ _); refine wpList_load35w (by rfl) _ rfl b (off + i * 16) _ _ _ _ _ _ _ _ _ _ _ _ _ _ _ _ rfl (KR _ B9) ?_)
                    | ((with_reducible show wpList _ _ _ (Oper.mk _ (Op.load 35 (Operand.tmp 94)) _ _ _ _ :: _) _ _); refine wpList_load35w (by rfl) _ rfl b (off + i * 16) _ _ _ _ _ _ _ _ _ _ _ _ _ _ _ _ rfl (KR _ B9) ?_)
                    | ((with_reducible show wpList _ _ _ (Oper.mk _ (Op.load 35 (Operand.tmp 103)) _ _ _ _ :: _) _ _); refine wpList_load35w (by rfl) _ rfl b (off + i * 16) _ _ _ _ _ _ _ _ _ _ _ _ _ _ _ _ rfl (KR _ B9) ?_)
                    | ((with_reducible show wpList _ _ _ (Oper.mk _ (Op.load 35 (Operand.tmp 118)) _ _ _ _ :: _) _ _); refine wpList_load35w (by rfl) _ rfl b (off + i * 16) _ _ _ _ _ _ _ _ _ _ _ _ _ _ _ _ rfl (KR _ B9) ?_)
                    | (go_at_call 28; refine (H13 _ B9).mono ?_; clear H13; rintro e W1 ⟨rfl, b1⟩; replace B9 := B9.trans (b1.mono B9.size); clear b1)
                    | (go_at_call 28; refine (H15 _ B9).mono ?_; clear H15; rintro e W1 ⟨rfl, b1⟩; replace B9 := B9.trans (b1.mono B9.size); clear b1)
                    | (go_at_call 28; refine (H17 _ B9).mono ?_; clear H17; rintro e W1 ⟨rfl, b1⟩; replace B9 := B9.trans (b1.mono B9.size); clear b1)
                    | (go_at_call 28; refine (H19 _ B9).mono ?_; clear H19; rintro e W1 ⟨rfl, b1⟩; replace B9 := B9.trans (b1.mono B9.size); clear b1))
              go_roundg (gk - 1)
              case measure => have := HI.out; omega
              case rel => exact ⟨i + 1, by first | rfl | go_num, by have := HI.out; omega, B9⟩
      case neg =>
        have hiI : ¬ (i : Int) < (l.length : Int) := by omega
        replace M := M.later B9
        replace R17 := R17.below B9
        clear hgk hi R13 R15 R19 hrc B9 KNM
        as_aux_lemma =>
          by_cases h0 : E5 = 0
          case neg =>
            have h0b : (E5 != 0) = true := by simpa using h0
            clear h0
            go_wp2_with (first
      | (go_at_call 14; refine (awake_anyS _).mono ?_; rintro e W9 ⟨rfl, b9⟩; replace M := M.later b9; clear b9))
            go_ret
            exact ⟨rfl, M.below⟩
          case pos =>
            obtain ⟨s, hh, hf1, hf2⟩ := HKF.out h0
            subst h0
            obtain ⟨tx, ty, htt⟩ := tick_form id s
            rw [htt] at hf2
            obtain ⟨⟨nm, ep, mr, al, kd, sc⟩, hv, iv, ⟨h1, v1, o1, g1⟩, ⟨h2, v2, o2, g2⟩⟩ := s
            obtain ⟨y1, y2, y3, y4⟩ := tx
            obtain ⟨z1, z2, z3, z4⟩ := ty
            dsimp only at hh
            subst hh
            have K7 : ∀ W, RdT W a17 A17.length c17 A17 → Calls Try.prog 16 #[.slice a17 A17.length c17, .string name] W fun e w' => e = .returned (.tuple #[ste nm ep mr al kd sc true iv h1 v1 o1 g1 h2 v2 o2 g2, .bool true]) ∧ Below W.heap.size W w' := fun W R => by
              have := find_anyT a17 _ c17 A17 name W R
              rw [hf1] at this
              exact this
            have K8 := fun W (R : RdT W a17 A17.length c17 A17) => tick_anyS a17 c17 A17 id W R HF17.out
            have hl8 : (tkS A17 id).length ≤ 8 := by have := fitL_len HF17.out; unfold tkS; rw [List.length_map]; exact this
            obtain ⟨TL, hTL⟩ : ∃ TL, tkS A17 id = TL := ⟨_, rfl⟩
            rw [hTL] at K8 hf2 hl8
            have HL8 : Hid (TL.length ≤ 8) := hl8
            have K9 : ∀ (a5 : Option Addr) (c5 : Nat) W, LstT W a5 TL.length c5 TL → Calls Try.prog 16 #[.slice a5 TL.length c5, .string name] W fun e w' => e = .returned (.tuple #[ste nm ep mr al kd sc true iv y1 y2 y3 y4 z1 z2 z3 z4, .bool true]) ∧ Below W.heap.size W w' := fun a5 c5 W L => by
              have := find_anyT a5 _ c5 TL name W (L.rd (by have := HL8.out; omega))
              rw [hf2] at this
              exact this
            have ev : (iv == iv) = true := by simp
            clear hf1 hf2 htt hTL hl8 HKF
            go_wp2_with (first
      | (go_at_call 16; refine (K7 _ (R17.below (Below.refl _ _))).mono ?_; clear K7; rintro e W1 ⟨rfl, b1⟩; replace M := M.later b1; replace R17 := R17.below b1; clear b1; have MB := M.below; have M := Mem.nil W1)
      | ((with_reducible show wpList _ _ _ (Oper.mk (some 23) (Op.alloc 35) _ _ _ _ :: _) _ _); refine wpList_alloc M rfl rfl rtT ?_; clear M; intro k23 W M)
      | ((with_reducible show wpList _ _ _ (Oper.mk _ (Op.store 35 _ _) _ _ _ _ :: _) _ _); (first | (refine wpList_put M rfl _ _ rfl rtT 0 _ rfl rfl rfl rfl rfl (by simp [Value.oneCell']) ?_) | (refine wpList_put M rfl _ _ rfl rtT 1 _ rfl rfl rfl rfl rfl (by simp [Value.oneCell']) ?_)); clear M; intro W M; simp only [List.set_cons_zero, List.set_cons_succ] at M)
      | (go_at_call 29; refine (K8 _ (R17.below M.below)).mono ?_; clear K8; rintro e W2 ⟨a5, c5, rfl, L5, fo5, b1⟩; replace M := M.later b1; clear b1 fo5)
      | (go_at_call 16; refine (K9 _ _ _ L5).mono ?_; clear K9 L5; rintro e W2 ⟨rfl, b1⟩; replace M := M.later b1; clear b1)
      | ((with_reducible show wpList _ _ _ (Oper.mk (some 25) (Op.alloc 35) _ _ _ _ :: _) _ _); refine wpList_alloc M rfl rfl rtT ?_; clear M; intro k25 W M)
      | ((with_reducible show wpList _ _ _ (Oper.mk _ (Op.load 4 _) _ _ _ _ :: _) _ _); refine wpList_cell4 M (by rfl) _ rfl _ rfl (by first | exact .head _ | exact .tail _ (.head _)) rfl ?_)
      | ((with_reducible show wpList _ _ _ (Oper.mk _ (Op.load 2 _) _ _ _ _ :: _) _ _); refine wpList_cell2 M (by rfl) _ rfl _ rfl (by first | exact .head _ | exact .tail _ (.head _)) rfl ?_)
      | ((with_reducible show wpList _ _ _ (Oper.mk _ (Op.load 30 (Operand.tmp 150)) _ _ _ _ :: _) _ _); refine wpList_loadp M (by rfl) _ rfl rt23 _ rfl (by first | exact .head _ | exact .tail _ (.head _)) (by rfl) (by rfl) ?_)
      | ((with_reducible show wpList _ _ _ (Oper.mk _ (Op.load 30 (Operand.tmp 152)) _ _ _ _ :: _) _ _); refine wpList_loadp M (by rfl) _ rfl rt23 _ rfl (by first | exact .head _ | exact .tail _ (.head _)) (by rfl) (by rfl) ?_)
      | ((with_reducible show wpList _ _ _ (Oper.mk _ (Op.binOp BinOp.eql 30 _ _ 30) _ _ _ _ :: _) _ _); refine wpList_value (by first | rfl | go_simp) (.bool true) ((exec_eql23 rfl ⟨nm, ep, mr, al, kd, sc⟩ ⟨nm, ep, mr, al, kd, sc⟩ rfl rfl _).trans (by rw [eqC_self])) ?_)
      | (go_at_call 14; refine (awake_anyS _).mono ?_; rintro e W9 ⟨rfl, b9⟩; replace M := M.later b9; clear b9))
            go_ret
            exact ⟨rfl, MB.trans (M.below.mono MB.size)⟩
end Go.Proofs.Ytoeebofappbneaa

namespace Go.Proofs.Ytoeebofappbneaa.chansKeeps
open Go.ChangeShapes Go.WideShapes Go.ChangeAt Go.RowKit Go.Deep
open Go.ChangeMaps (open_string shut_string)
set_option linter.unusedVariables false
set_option linter.unusedSimpArgs false

theorem own : ownKnob Try.prog.godebug = none := by kernel_rfl
theorem laidOut : laidOutB Try.prog = true := by kernel_rfl

set_option maxRecDepth 100000 in
theorem lifted (os : Os) (started : os.Started) (H : Type) (enc : TypeId × Value → H) :
    ReturnsInHanded {} Try.checked os 6 .any (Rows.chansKeepsSpec.pre6 enc Try.prog Try.f6 Rows.chansKeepsRow.domain false) (Rows.chansKeepsSpec.post enc Try.prog Try.f6 false true false false) := by
  refine returnsInHanded_of_change_sized (C := Try.checked) own started (by kernel_rfl) Try.func6
    (ChangeSpec.witness6 (enc := enc) (C := Try.checked) false ⟨#[], #[.int .i64 0, .slice none 0 0, .string ⟨#[]⟩, .int .i64 0, .int .i64 0, .agg #[.string ⟨#[]⟩, .int .i64 0, .int .i64 0, .bool false, .int .i64 0, .int .i64 0]], []⟩ 8 (by kernel_rfl) (by kernel_rfl) (by kernel_rfl) (by kernel_rfl)) ?_
  intro W base args ds gs before hval0 hW hcnd hsz0 _
  have hsz : (DataW.weightsEach Try.prog (Try.f6.params.toList ++ Rows.chansKeepsSpec.plain.varTypes Try.prog) (ds ++ gs)).all (· ≤ reachBytes) = true := hsz0
  clear hsz0
  have hval : ∀ (j : Nat) t v, Try.f6.params[j]? = some t → args[j]? = some v → Value.okWide Try.prog W .any base t v := hval0
  have hW' := hW
  obtain ⟨p, q, hA0, hV, rfl, hfz, hnd⟩ := hW
  have hA : DataW.TrodAll enc Try.prog W 0 (fun _ => true) true Try.f6.params.toList args.toList ds p := hA0
  rw [Try.params6] at hA hval hsz
  obtain ⟨v0, vs0, d0, ds0, p0, q0, hargs, rfl, rfl, h0, r0⟩ := trodAll_cons hA
  obtain ⟨v1, vs1, d1, ds1, p1, q1, rfl, rfl, rfl, h1, r1⟩ := trodAll_cons r0
  obtain ⟨v2, vs2, d2, ds2, p2, q2, rfl, rfl, rfl, h2, r2⟩ := trodAll_cons r1
  obtain ⟨v3, vs3, d3, ds3, p3, q3, rfl, rfl, rfl, h3, r3⟩ := trodAll_cons r2
  obtain ⟨v4, vs4, d4, ds4, p4, q4, rfl, rfl, rfl, h4, r4⟩ := trodAll_cons r3
  obtain ⟨v5, vs5, d5, ds5, p5, q5, rfl, rfl, rfl, h5, r5⟩ := trodAll_cons r4
  obtain ⟨rfl, rfl, rfl⟩ := trodAll_nil r5
  obtain rfl : args = #[v0, v1, v2, v3, v4, v5] := by cases args; simp_all
  obtain ⟨rfl, rfl⟩ := trodVars_none hV
  obtain ⟨a0, rfl, rfl, rfl, w0⟩ := open_int Try.underlying3 (hval 0 3 v0 rfl rfl) h0
  have k1 := h1
  have lt1 : ∀ x ∈ p1, x.block < W.heap.size := by obtain ⟨m, hm⟩ := k1; exact DataW.trod_lt m _ _ _ hm
  obtain ⟨a1, len1, cap1, rfl⟩ := okWide_slice Try.underlying22 (hval 1 22 v1 rfl rfl)
  obtain ⟨l1, O1, S1⟩ := open_states k1 (sized_arg hsz (j := 1) (t := 22) rfl rfl)
  obtain ⟨a2, rfl, rfl, rfl, w2⟩ := open_string Try.underlying9 (hval 2 9 v2 rfl rfl) h2
  have s2 : Hid ((a2.size : Int) ≤ 9223372036854775807) := by show _ ≤ _; have := w2; unfold maxLen at this; omega
  obtain ⟨a3, rfl, rfl, rfl, w3⟩ := open_int Try.underlying3 (hval 3 3 v3 rfl rfl) h3
  obtain ⟨a4, rfl, rfl, rfl, w4⟩ := open_int Try.underlying2 (hval 4 2 v4 rfl rfl) h4
  have k5 := h5
  have lt5 : ∀ x ∈ p5, x.block < W.heap.size := by obtain ⟨m, hm⟩ := k5; exact DataW.trod_lt m _ _ _ hm
  obtain ⟨n5, e5, m5, b5, y5, z5, rfl, s5⟩ := open_chan (hval 5 30 v5 rfl rfl) k5
  clear hA0 hval0
  refine (keeps_walk a0 a1 len1 cap1 l1 a2 a3 a4 n5 e5 m5 b5 y5 z5 W O1 S1 s5).mono fun e W' ⟨he, bel⟩ => ?_
  subst he
  exact ⟨_, rfl, _, _, _, [], _, [], hW', trodAll_mk1 (shut_bool Try.underlying4 _), (trodAll_cons_mk (shut_int Try.underlying3 w0) (trodAll_cons_mk (Below.trod laidOut (by kernel_rfl) (of_decide_eq_true (by kernel_rfl)) k1 bel lt1) (trodAll_cons_mk (shut_string Try.underlying9 w2) (trodAll_cons_mk (shut_int Try.underlying3 w3) (trodAll_cons_mk (shut_int Try.underlying2 w4) (trodAll_cons_mk (Below.trod laidOut (by kernel_rfl) (of_decide_eq_true (by kernel_rfl)) k5 bel lt5) trodAll_mk0)))))), rfl, bel.frame _, fun h => by cases h⟩

theorem over : Rows.chansKeepsRow.holds Try.pinned (OpenSpec.ofChange Rows.chansKeepsSpec) :=
  OpenClaim.holds_of_wide 6 Try.f6 rfl rfl rfl rfl rfl rfl rfl ⟨rfl, rfl, rfl, rfl, rfl⟩ rfl rfl rfl rfl rfl (by kernel_rfl) Try.func6 (by kernel_rfl)
    (of_decide_eq_true (by kernel_rfl)) (by unfold Func.isWrapper; first | (rw [if_pos (by decide +kernel)]; kernel_rfl) | (rw [if_neg (by decide +kernel)]; exact ⟨rfl, rfl⟩))
    (fun os started H enc _ => lifted os started H enc)

/-- The statement. -/
theorem proved : Rows.ChansKeepsSaid := over
#print axioms proved
end Go.Proofs.Ytoeebofappbneaa.chansKeeps
