/-
  Tick and Hear answer as the document does, for any fit states, name and fit extreme values (P18.7): the law ChansHears returns true for every input.
-/
import Derived.Test.YtoeebofappbneaaGreatGrTc
import Derived.Test.YtoeebofappbneaaGreatQ4
import Derived.Test.YtoeebofappbneaaGreatEX7
import Derived.Test.YtoeebofappbneaaGreatGrTa
import Derived.Test.YtoeebofappbneaaGreatY1
import Derived.Test.YtoeebofappbneaaGreatGrTd
import Derived.Test.YtoeebofappbneaaGreatRows
import Derived.Test.YtoeebofappbneaaGreatInT
import Derived.Test.YtoeebofappbneaaGreatEIn
import Derived.WalkKit
import Derived.ProofKit
import Derived.OpenShut
import Derived.ShutString
import Derived.ChangeOld
import Derived.Below
import Derived.SizedLaws
namespace Go.Proofs.YtoeebofappbneaaGreat
open Go.ChangeShapes Go.WideShapes Go.ChangeAt Go.RowKit Go.Maps Go.Shelf
set_option linter.unusedVariables false
set_option linter.unusedSimpArgs false

def tkN (l : List ST) (id : Int) (i : Nat) : List ST := (l.take i).map (tickT id) ++ l.drop i
theorem tkN_len (l : List ST) (id : Int) (i : Nat) : (tkN l id i).length = l.length := by unfold tkN; simp; omega
theorem tkN_get {l : List ST} {id : Int} {i : Nat} (h : i < l.length) : (tkN l id i).getD i ST.z = l.getD i ST.z := by
  unfold tkN
  rw [List.getD_eq_getElem?_getD, List.getElem?_append_right (by simp; omega), List.getElem?_drop, List.getD_eq_getElem?_getD]
  congr 2
  simp
  omega
theorem tkN_set {l : List ST} {id : Int} {i : Nat} (h : i < l.length) : (tkN l id i).set i (tickT id (l.getD i ST.z)) = tkN l id (i + 1) := by
  unfold tkN
  have e : l.drop i = l.getD i ST.z :: l.drop (i + 1) := by rw [List.drop_eq_getElem_cons h, List.getD_eq_getElem?_getD, List.getElem?_eq_getElem h]; rfl
  have e2 : l.take (i + 1) = l.take i ++ [l.getD i ST.z] := by rw [List.take_add_one, List.getD_eq_getElem?_getD, List.getElem?_eq_getElem h]; rfl
  have e3 : ((l.take i).map (tickT id)).length = i := by simp; omega
  rw [e, e2, List.set_append_right _ _ (by omega), e3, Nat.sub_self, List.map_append]
  simp
theorem tkN_all {l : List ST} {id : Int} {n : Nat} (h : l.length = n) : tkN l id n = tkS l id := by unfold tkN tkS; rw [List.take_of_length_le (by omega), List.drop_of_length_le (by omega), List.append_nil]
set_option maxRecDepth 100000 in
set_option maxHeartbeats 16000000 in
theorem tick_anyS (a : Option Addr) (cap : Nat) (l : List ST) (id : Int) (w : World) (hr : RdT w a l.length cap l) (hf : fitL l = true) : Calls Tryz.prog 16 #[.slice a l.length cap, .int .i64 id] w (AnsT w (tkS l id)) := by
  have B0 := Below.refl w.heap.size w
  have HFL : Hid (fitL l = true) := hf
  obtain ⟨n, hn⟩ : ∃ n, l.length = n := ⟨_, rfl⟩
  have h8 := fitL_len hf
  have HN : Hid (n ≤ 8) := by show _ ≤ _; rw [← hn]; exact h8
  have HL0 : Hid (l.length = n) := hn
  have KCP := copy_any a cap l w hr
  have HAN : Hid (AnsT w (tkS l id) = fun e w' => ∃ a' cap', e = .returned (.slice a' n cap') ∧ LstT w' a' n cap' (tkS l id) ∧ (∀ g off, a' = some ⟨g, off, none⟩ → w.heap.size ≤ g) ∧ Below w.heap.size w w') := by
    show _ = _
    unfold AnsT
    rw [show (tkS l id).length = n from by rw [← hn]; exact List.length_map _]
  have KC2 : Calls Tryz.prog 28 #[.slice a n cap] w fun e w' => ∃ a' cap', e = .returned (.slice a' n cap') ∧ LstT w' a' n cap' l ∧ (∀ g off, a' = some ⟨g, off, none⟩ → w.heap.size ≤ g) ∧ Below w.heap.size w w' := by
    rw [← hn]; exact KCP
  rw [HAN.out, hn]
  clear hn h8 KCP hf hr HAN B0
  go_enter Tryz.func16, Tryz.ntmps16
  go_wp2_with (first
      | (go_at_call 28; refine KC2.mono ?_; clear KC2; rintro e W1 ⟨a1, c1, rfl, L1, fo1, b1⟩))
  have HFO : Hid (∀ g off, a1 = some ⟨g, off, none⟩ → w.heap.size ≤ g) := fo1
  clear fo1
  go_loopg [6, 7, 12] n (fun gk v6 v7 v12 wr => ∃ i : Nat, v12 = .int .i64 (i : Int) ∧ i + gk = n ∧ LstT wr a1 n c1 (tkN l id i) ∧ Below w.heap.size w wr)
  case atStart => exact ⟨0, by first | rfl | go_num, by omega, L1, b1⟩
  case round =>
    clear L1 b1
    obtain ⟨i, rfl, hgk, L, B⟩ := hrel
    by_cases hi : i < n
    case pos =>
      have HI : Hid (i < n) := hi
      have hiI : (i : Int) < (n : Int) := by omega
      have hwr : IntKind.i64.wrap ((i : Int) + 1) = (i : Int) + 1 := by rw [IntKind.wrap_i64]; have := HN.out; omega
      obtain ⟨g, off, rfl⟩ := lst_addr L hi
      have O := OwnI.mk0 (i := i) B (HFO.out g off rfl) L hi
      rw [tkN_get (by rw [HL0.out]; exact hi)] at O
      have hok := ok_at HFL.out (i := i) (by rw [HL0.out]; exact hi)
      have hts := tkN_set (id := id) (l := l) (i := i) (by rw [HL0.out]; exact hi)
      obtain ⟨⟨⟨nm, ep, mr, al, kd, sc⟩, hv, iv, ⟨h1, v1, o1, g1⟩, ⟨h2, v2, o2, g2⟩⟩, hri⟩ : ∃ r, l.getD i ST.z = r := ⟨_, rfl⟩
      rw [hri] at O hok hts
      have hff := ok_fits hok
      clear hri hi L B hok
      by_cases hc : al = true ∧ kd = 4
      case neg =>
        have HTS : Hid ((tkN l id i).set i ⟨⟨nm, ep, mr, al, kd, sc⟩, hv, iv, ⟨h1, v1, o1, g1⟩, ⟨h2, v2, o2, g2⟩⟩ = tkN l id (i + 1)) := by
          show _ = _
          rw [← hts]
          unfold tickT
          rw [if_neg hc]
        clear hts hff
        cases al with
        | false =>
          clear hc
          go_wp2_with (first
      | ((with_reducible show wpList _ _ _ (Oper.mk _ (Op.load 4 _) _ _ _ _ :: _) _ _); refine wpList_cell4w (by rfl) _ rfl _ rfl (O.range 3 _ rfl) ?_)
      | ((with_reducible show wpList _ _ _ (Oper.mk _ (Op.load 3 _) _ _ _ _ :: _) _ _); refine wpList_cell3w (by rfl) _ rfl _ rfl (O.range 4 _ rfl) ?_))
          go_roundg (gk - 1)
          case measure => have := HI.out; omega
          case rel =>
            have HL := O.lst
            rw [HTS.out] at HL
            exact ⟨i + 1, by first | rfl | go_num, by have := HI.out; omega, HL, O.below⟩
        | true =>
          have h4b : (kd == 4) = false := by
            cases h : (kd == 4) with
            | false => rfl
            | true => exact absurd ⟨rfl, by simpa using h⟩ hc
          clear hc
          go_wp2_with (first
      | ((with_reducible show wpList _ _ _ (Oper.mk _ (Op.load 4 _) _ _ _ _ :: _) _ _); refine wpList_cell4w (by rfl) _ rfl _ rfl (O.range 3 _ rfl) ?_)
      | ((with_reducible show wpList _ _ _ (Oper.mk _ (Op.load 3 _) _ _ _ _ :: _) _ _); refine wpList_cell3w (by rfl) _ rfl _ rfl (O.range 4 _ rfl) ?_))
          go_roundg (gk - 1)
          case measure => have := HI.out; omega
          case rel =>
            have HL := O.lst
            rw [HTS.out] at HL
            exact ⟨i + 1, by first | rfl | go_num, by have := HI.out; omega, HL, O.below⟩
      case pos =>
        obtain ⟨h1a, h4⟩ := hc
        subst h1a h4
        obtain ⟨⟨⟨h5, v5, o5, g5⟩, ⟨h6, v6, o6, g6⟩⟩, h56⟩ : ∃ p, E.tickX id hv iv ⟨h1, v1, o1, g1⟩ ⟨h2, v2, o2, g2⟩ = p := ⟨_, rfl⟩
        have HTS : Hid ((tkN l id i).set i ⟨⟨nm, ep, mr, true, 4, sc⟩, hv, iv, ⟨h5, v5, o5, g5⟩, ⟨h6, v6, o6, g6⟩⟩ = tkN l id (i + 1)) := by
          show _ = _
          rw [← hts]
          unfold tickT
          rw [if_pos ⟨rfl, rfl⟩]
          dsimp only
          rw [h56]
        have KS := fun W => E.tick_any id hv iv h1 v1 o1 g1 h2 v2 o2 g2 W hff.1 hff.2.1
        rw [h56] at KS
        unfold E.two at KS
        dsimp only at KS
        clear hts h56 hff
        go_wp2_with (first
          | ((with_reducible show wpList _ _ _ (Oper.mk _ (Op.load 4 _) _ _ _ _ :: _) _ _); refine wpList_cell4w (by rfl) _ rfl _ rfl (O.range 3 _ rfl) ?_)
          | ((with_reducible show wpList _ _ _ (Oper.mk _ (Op.load 3 _) _ _ _ _ :: _) _ _); refine wpList_cell3w (by rfl) _ rfl _ rfl (O.range 4 _ rfl) ?_)
          | fail)
        refine wp_region_any (by kernel_rfl) ?_
        change wpAny _ _ _ _ _ _ _ (World.drew _)
        refine any_take 1 33 (.pointer (some ⟨g, off + i * 16, none⟩)) rfl rfl (by kernel_rfl) (by kernel_rfl) (by kernel_rfl) (fun _ _ _ h => h) (Or.inl ⟨by rfl, by intro w; go_simp⟩) ?_
        try simp only [Act.put, List.setIfInBounds_toArray, List.set_cons_zero, List.set_cons_succ]
        replace O := O.drew
        revert O
        generalize World.drew _ = WD
        intro O
        refine wpAny_until (fun W' => OwnI w W' g off n c1 (tkN l id i) i ⟨⟨nm, ep, mr, true, 4, sc⟩, hv, iv, ⟨h1, v1, o1, g1⟩, ⟨h2, v2, o2, g2⟩⟩) 25 _ _ _ _ ?_
        refine anyM_take 0 32 (.pointer (some ⟨g, off + i * 16, none⟩)) rfl rfl (by kernel_rfl) (by kernel_rfl) (by kernel_rfl) (fun _ _ _ h => h) (.inl (by kernel_rfl)) (by kernel_rfl) (Or.inl ⟨by rfl, by intro w hSw; go_simp⟩) (O) ?_
        try simp only [Act.put, List.setIfInBounds_toArray, List.set_cons_zero, List.set_cons_succ]
        refine anyM_take 2 34 (.int .i64 id) rfl rfl (by kernel_rfl) (by kernel_rfl) (by kernel_rfl) (fun _ _ _ h => h) (.inl (by kernel_rfl)) (by kernel_rfl) (Or.inl ⟨by rfl, by intro w hSw; go_simp⟩) (O) ?_
        try simp only [Act.put, List.setIfInBounds_toArray, List.set_cons_zero, List.set_cons_succ]
        refine anyM_take 3 35 (.pointer (some ⟨g, off + i * 16, none⟩)) rfl rfl (by kernel_rfl) (by kernel_rfl) (by kernel_rfl) (fun _ _ _ h => h) (.inl (by kernel_rfl)) (by kernel_rfl) (Or.inl ⟨by rfl, by intro w hSw; go_simp⟩) (O) ?_
        try simp only [Act.put, List.setIfInBounds_toArray, List.set_cons_zero, List.set_cons_succ]
        refine anyM_take 4 36 (.pointer (some ⟨g, off + i * 16, none⟩)) rfl rfl (by kernel_rfl) (by kernel_rfl) (by kernel_rfl) (fun _ _ _ h => h) (.inl (by kernel_rfl)) (by kernel_rfl) (Or.inl ⟨by rfl, by intro w hSw; go_simp⟩) (O) ?_
        try simp only [Act.put, List.setIfInBounds_toArray, List.set_cons_zero, List.set_cons_succ]
        refine anyM_take 5 37 (.pointer (some ⟨g, off + i * 16 + 6, none⟩)) rfl rfl (by kernel_rfl) (by kernel_rfl) (by kernel_rfl) (fun _ _ _ h => h) (.inl (by kernel_rfl)) (by kernel_rfl) (Or.inl ⟨by rfl, by intro w hSw; go_simp⟩) (O) ?_
        try simp only [Act.put, List.setIfInBounds_toArray, List.set_cons_zero, List.set_cons_succ]
        refine anyM_take 6 38 (.bool hv) rfl rfl (by kernel_rfl) (by kernel_rfl) (by kernel_rfl) (fun _ _ _ h => h) (.inl (by kernel_rfl)) (by kernel_rfl) (Or.inl ⟨by rfl, fun X hSw => by have hc := hSw.range 6 _ rfl; go_simp⟩) (O) ?_
        try simp only [Act.put, List.setIfInBounds_toArray, List.set_cons_zero, List.set_cons_succ]
        refine anyM_take 7 39 (.pointer (some ⟨g, off + i * 16, none⟩)) rfl rfl (by kernel_rfl) (by kernel_rfl) (by kernel_rfl) (fun _ _ _ h => h) (.inl (by kernel_rfl)) (by kernel_rfl) (Or.inl ⟨by rfl, by intro w hSw; go_simp⟩) (O) ?_
        try simp only [Act.put, List.setIfInBounds_toArray, List.set_cons_zero, List.set_cons_succ]
        refine anyM_take 8 40 (.pointer (some ⟨g, off + i * 16, none⟩)) rfl rfl (by kernel_rfl) (by kernel_rfl) (by kernel_rfl) (fun _ _ _ h => h) (.inl (by kernel_rfl)) (by kernel_rfl) (Or.inl ⟨by rfl, by intro w hSw; go_simp⟩) (O) ?_
        try simp only [Act.put, List.setIfInBounds_toArray, List.set_cons_zero, List.set_cons_succ]
        refine anyM_take 9 41 (.pointer (some ⟨g, off + i * 16 + 7, none⟩)) rfl rfl (by kernel_rfl) (by kernel_rfl) (by kernel_rfl) (fun _ _ _ h => h) (.inl (by kernel_rfl)) (by kernel_rfl) (Or.inl ⟨by rfl, by intro w hSw; go_simp⟩) (O) ?_
        try simp only [Act.put, List.setIfInBounds_toArray, List.set_cons_zero, List.set_cons_succ]
        refine anyM_take 10 42 (.int .i64 iv) rfl rfl (by kernel_rfl) (by kernel_rfl) (by kernel_rfl) (fun _ _ _ h => h) (.inl (by kernel_rfl)) (by kernel_rfl) (Or.inl ⟨by rfl, fun X hSw => by have hc := hSw.range 7 _ rfl; go_simp⟩) (O) ?_
        try simp only [Act.put, List.setIfInBounds_toArray, List.set_cons_zero, List.set_cons_succ]
        refine anyM_take 11 43 (.pointer (some ⟨g, off + i * 16, none⟩)) rfl rfl (by kernel_rfl) (by kernel_rfl) (by kernel_rfl) (fun _ _ _ h => h) (.inl (by kernel_rfl)) (by kernel_rfl) (Or.inl ⟨by rfl, by intro w hSw; go_simp⟩) (O) ?_
        try simp only [Act.put, List.setIfInBounds_toArray, List.set_cons_zero, List.set_cons_succ]
        refine anyM_take 12 44 (.pointer (some ⟨g, off + i * 16, none⟩)) rfl rfl (by kernel_rfl) (by kernel_rfl) (by kernel_rfl) (fun _ _ _ h => h) (.inl (by kernel_rfl)) (by kernel_rfl) (Or.inl ⟨by rfl, by intro w hSw; go_simp⟩) (O) ?_
        try simp only [Act.put, List.setIfInBounds_toArray, List.set_cons_zero, List.set_cons_succ]
        refine anyM_take 13 45 (.pointer (some ⟨g, off + i * 16 + 8, none⟩)) rfl rfl (by kernel_rfl) (by kernel_rfl) (by kernel_rfl) (fun _ _ _ h => h) (.inl (by kernel_rfl)) (by kernel_rfl) (Or.inl ⟨by rfl, by intro w hSw; go_simp⟩) (O) ?_
        try simp only [Act.put, List.setIfInBounds_toArray, List.set_cons_zero, List.set_cons_succ]
        refine anyM_take 14 46 (exv h1 v1 o1 g1) rfl rfl (by kernel_rfl) (by kernel_rfl) (by kernel_rfl) (fun _ _ _ h => h) (.inl (by kernel_rfl)) (by kernel_rfl) (Or.inl ⟨by rfl, fun X hSw => exec_loadX rfl rfl (rng_mn hSw.range)⟩) (O) ?_
        try simp only [Act.put, List.setIfInBounds_toArray, List.set_cons_zero, List.set_cons_succ]
        refine anyM_take 15 47 (.pointer (some ⟨g, off + i * 16, none⟩)) rfl rfl (by kernel_rfl) (by kernel_rfl) (by kernel_rfl) (fun _ _ _ h => h) (.inl (by kernel_rfl)) (by kernel_rfl) (Or.inl ⟨by rfl, by intro w hSw; go_simp⟩) (O) ?_
        try simp only [Act.put, List.setIfInBounds_toArray, List.set_cons_zero, List.set_cons_succ]
        refine anyM_take 16 48 (.pointer (some ⟨g, off + i * 16, none⟩)) rfl rfl (by kernel_rfl) (by kernel_rfl) (by kernel_rfl) (fun _ _ _ h => h) (.inl (by kernel_rfl)) (by kernel_rfl) (Or.inl ⟨by rfl, by intro w hSw; go_simp⟩) (O) ?_
        try simp only [Act.put, List.setIfInBounds_toArray, List.set_cons_zero, List.set_cons_succ]
        refine anyM_take 17 49 (.pointer (some ⟨g, off + i * 16 + 12, none⟩)) rfl rfl (by kernel_rfl) (by kernel_rfl) (by kernel_rfl) (fun _ _ _ h => h) (.inl (by kernel_rfl)) (by kernel_rfl) (Or.inl ⟨by rfl, by intro w hSw; go_simp⟩) (O) ?_
        try simp only [Act.put, List.setIfInBounds_toArray, List.set_cons_zero, List.set_cons_succ]
        refine anyM_take 18 50 (exv h2 v2 o2 g2) rfl rfl (by kernel_rfl) (by kernel_rfl) (by kernel_rfl) (fun _ _ _ h => h) (.inl (by kernel_rfl)) (by kernel_rfl) (Or.inl ⟨by rfl, fun X hSw => exec_loadX rfl rfl (rng_mx hSw.range)⟩) (O) ?_
        try simp only [Act.put, List.setIfInBounds_toArray, List.set_cons_zero, List.set_cons_succ]
        refine anyM_one 19 (by kernel_rfl) rfl (fun K hK => ?_)
        go_simp
        go_wp2_with (go_at_call 41; refine (KS _).mono ?_; clear KS; rintro e W6 ⟨rfl, b6⟩; replace O := O.later b6; clear b6)
        refine hK.out _ _ (fun _ => O) ?_
        clear hK
        try simp only [Act.put, List.setIfInBounds_toArray, List.set_cons_zero, List.set_cons_succ]
        refine anyM_take 20 31 ((.tuple #[exv h5 v5 o5 g5, exv h6 v6 o6 g6])) rfl rfl (by kernel_rfl) (by kernel_rfl) (by kernel_rfl) (fun _ _ _ h => h) (.inl (by kernel_rfl)) (by kernel_rfl) (Or.inl ⟨by rfl, by intro w hSw; go_simp⟩) (O) ?_
        try simp only [Act.put, List.setIfInBounds_toArray, List.set_cons_zero, List.set_cons_succ]
        refine anyM_take 21 52 (exv h5 v5 o5 g5) rfl rfl (by kernel_rfl) (by kernel_rfl) (by kernel_rfl) (fun _ _ _ h => h) (.inl (by kernel_rfl)) (by kernel_rfl) (Or.inl ⟨by rfl, by intro w hSw; go_simp⟩) (O) ?_
        try simp only [Act.put, List.setIfInBounds_toArray, List.set_cons_zero, List.set_cons_succ]
        refine anyM_take 23 54 (.pointer (some ⟨g, off + i * 16, none⟩)) rfl rfl (by kernel_rfl) (by kernel_rfl) (by kernel_rfl) (fun _ _ _ h => h) (.inr ⟨24, by kernel_rfl, by kernel_rfl, by kernel_rfl⟩) (by kernel_rfl) (Or.inl ⟨by rfl, by intro w hSw; go_simp⟩) (O) ?_
        try simp only [Act.put, List.setIfInBounds_toArray, List.set_cons_zero, List.set_cons_succ]
        refine anyM_take 24 55 (.pointer (some ⟨g, off + i * 16 + 8, none⟩)) rfl rfl (by kernel_rfl) (by kernel_rfl) (by kernel_rfl) (fun _ _ _ h => h) (.inl (by kernel_rfl)) (by kernel_rfl) (Or.inl ⟨by rfl, by intro w hSw; go_simp⟩) (O) ?_
        try simp only [Act.put, List.setIfInBounds_toArray, List.set_cons_zero, List.set_cons_succ]
        refine anyM_two 22 25 (by kernel_rfl) rfl rfl (fun K hK => ?_) (fun K hK => ?_)
        · go_simp
          refine hK.out _ _ (fun _ => O) ?_
          clear hK
          try simp only [Act.put, List.setIfInBounds_toArray, List.set_cons_zero, List.set_cons_succ]
          refine anyM_one 25 (by kernel_rfl) rfl (fun K hK => ?_)
          rw [if_pos (by rfl)]
          refine wp_ownmn O _ _ rfl _ _ _ _ rfl rfl ?_
          clear O
          intro W9 O
          refine hK.out _ _ (fun h => absurd h (by decide)) ?_
          clear hK
          try simp only [Act.put, List.setIfInBounds_toArray, List.set_cons_zero, List.set_cons_succ]
          refine anyM_one 26 (by kernel_rfl) rfl (fun K hK => ?_)
          go_simp
          refine hK.out _ _ (fun h => absurd h (by decide)) ?_
          clear hK
          try simp only [Act.put, List.setIfInBounds_toArray, List.set_cons_zero, List.set_cons_succ]
          refine anyM_one 27 (by kernel_rfl) rfl (fun K hK => ?_)
          go_simp
          refine hK.out _ _ (fun h => absurd h (by decide)) ?_
          clear hK
          try simp only [Act.put, List.setIfInBounds_toArray, List.set_cons_zero, List.set_cons_succ]
          refine anyM_one 28 (by kernel_rfl) rfl (fun K hK => ?_)
          rw [if_pos (by rfl)]
          refine wp_ownmx O _ _ rfl _ _ _ _ rfl rfl ?_
          clear O
          intro W9 O
          refine hK.out _ _ (fun h => absurd h (by decide)) ?_
          clear hK
          try simp only [Act.put, List.setIfInBounds_toArray, List.set_cons_zero, List.set_cons_succ]
          refine anyM_done (by kernel_rfl) ?_ _
          go_wp2
          go_roundg (gk - 1)
          case measure => have := HI.out; omega
          case rel =>
            have HL := O.lst
            rw [HTS.out] at HL
            exact ⟨i + 1, by first | rfl | go_num, by have := HI.out; omega, HL, O.below⟩
        · rw [if_pos (by rfl)]
          refine wp_ownmn O _ _ rfl _ _ _ _ rfl rfl ?_
          clear O
          intro W9 O
          refine hK.out _ _ (fun h => absurd h (by decide)) ?_
          clear hK
          try simp only [Act.put, List.setIfInBounds_toArray, List.set_cons_zero, List.set_cons_succ]
          refine anyM_one 22 (by kernel_rfl) rfl (fun K hK => ?_)
          go_simp
          refine hK.out _ _ (fun h => absurd h (by decide)) ?_
          clear hK
          try simp only [Act.put, List.setIfInBounds_toArray, List.set_cons_zero, List.set_cons_succ]
          refine anyM_one 26 (by kernel_rfl) rfl (fun K hK => ?_)
          go_simp
          refine hK.out _ _ (fun h => absurd h (by decide)) ?_
          clear hK
          try simp only [Act.put, List.setIfInBounds_toArray, List.set_cons_zero, List.set_cons_succ]
          refine anyM_one 27 (by kernel_rfl) rfl (fun K hK => ?_)
          go_simp
          refine hK.out _ _ (fun h => absurd h (by decide)) ?_
          clear hK
          try simp only [Act.put, List.setIfInBounds_toArray, List.set_cons_zero, List.set_cons_succ]
          refine anyM_one 28 (by kernel_rfl) rfl (fun K hK => ?_)
          rw [if_pos (by rfl)]
          refine wp_ownmx O _ _ rfl _ _ _ _ rfl rfl ?_
          clear O
          intro W9 O
          refine hK.out _ _ (fun h => absurd h (by decide)) ?_
          clear hK
          try simp only [Act.put, List.setIfInBounds_toArray, List.set_cons_zero, List.set_cons_succ]
          refine anyM_done (by kernel_rfl) ?_ _
          go_wp2
          go_roundg (gk - 1)
          case measure => have := HI.out; omega
          case rel =>
            have HL := O.lst
            rw [HTS.out] at HL
            exact ⟨i + 1, by first | rfl | go_num, by have := HI.out; omega, HL, O.below⟩
    case neg =>
      have hiI : ¬ (i : Int) < (n : Int) := by omega
      have hin : i = n := by omega
      rw [hin, tkN_all HL0.out] at L
      clear hin hi hgk
      go_wp2
      go_ret
      exact ⟨a1, c1, rfl, L, HFO.out, B⟩
end Go.Proofs.YtoeebofappbneaaGreat

namespace Go.Proofs.YtoeebofappbneaaGreat
open Go.ChangeShapes Go.WideShapes Go.ChangeAt Go.RowKit Go.Maps Go.Shelf
set_option linter.unusedVariables false
set_option linter.unusedSimpArgs false

theorem rtimes_any (a b : Int) (w : World) : Calls Tryz.prog 74 #[.int .i64 a, .int .i64 b] w fun e w' => e = .returned (.tuple #[.int .i64 (mulV a b), .int .i64 (mulE a b)]) ∧ w' = w := by
  have KA := fun W => rflow_any a W
  have KB := fun W => rflow_any b W
  have HV : mulV a b = if mulE a b = 0 then a * b else 0 := rfl
  have HE : mulE a b = if E.flowB a = true ∧ E.flowB b = true ∧ E.flowB (a * b) = true then 0 else 10 := rfl
  obtain ⟨V, hV⟩ : ∃ V, mulV a b = V := ⟨_, rfl⟩
  obtain ⟨X, hX⟩ : ∃ X, mulE a b = X := ⟨_, rfl⟩
  rw [hV, hX]
  rw [hV, hX] at HV
  rw [hX] at HE
  cases ha : E.flowB a with
  | false =>
    rw [ha] at KA HE
    have HE' : X = 10 := HE.trans (if_neg (fun h => by cases h.1))
    have HV' : V = 0 := HV.trans (if_neg (by rw [HE']; decide))
    subst HE' HV'
    clear HE HV hV hX ha
    go_enter Tryz.func74, Tryz.ntmps74
    go_wp2_with (first
      | (go_at_call 22; refine (KA _).mono ?_; rintro e W2 ⟨rfl, rfl⟩))
    exact bodyPost_ret (results_tmp2 rfl _ _ _) rfl ⟨rfl, rfl⟩
  | true =>
  cases hb : E.flowB b with
  | false =>
    rw [ha] at KA
    rw [hb] at KB
    have HE' : X = 10 := HE.trans (if_neg (by rw [hb]; simp))
    have HV' : V = 0 := HV.trans (if_neg (by rw [HE']; decide))
    subst HE' HV'
    clear HE HV hV hX ha hb
    go_enter Tryz.func74, Tryz.ntmps74
    go_wp2_with (first
      | (go_at_call 22; refine (KA _).mono ?_; clear KA; rintro e W2 ⟨rfl, rfl⟩)
      | (go_at_call 22; refine (KB _).mono ?_; clear KB; rintro e W2 ⟨rfl, rfl⟩))
    exact bodyPost_ret (results_tmp2 rfl _ _ _) rfl ⟨rfl, rfl⟩
  | true =>
    have hw := mul_wrap ha hb
    rw [ha] at KA
    rw [hb] at KB
    obtain ⟨p, hp⟩ : ∃ p, a * b = p := ⟨_, rfl⟩
    have KC := fun W => rflow_any p W
    rw [hp] at HE HV
    have HW : Hid (IntKind.i64.wrap (a * b) = p) := by show _ = _; rw [hw]; exact hp
    have hwp : IntKind.i64.wrap (a * b) = p := HW.out
    cases hc : E.flowB p with
    | false =>
      rw [hc] at KC
      have HE' : X = 10 := HE.trans (if_neg (by rw [hc]; simp))
      have HV' : V = 0 := HV.trans (if_neg (by rw [HE']; decide))
      subst HE' HV'
      clear HE HV hV hX ha hb hc hp hw HW
      go_enter Tryz.func74, Tryz.ntmps74
      go_wp2_with (first
        | (go_at_call 22; refine (KA _).mono ?_; clear KA; rintro e W2 ⟨rfl, rfl⟩)
        | (go_at_call 22; refine (KB _).mono ?_; clear KB; rintro e W2 ⟨rfl, rfl⟩)
        | (go_at_call 22; refine (KC _).mono ?_; clear KC; rintro e W2 ⟨rfl, rfl⟩))
      exact bodyPost_ret (results_tmp2 rfl _ _ _) rfl ⟨rfl, rfl⟩
    | true =>
      rw [hc] at KC
      have HE' : X = 0 := HE.trans (if_pos ⟨ha, hb, hc⟩)
      have HV' : V = p := HV.trans (if_pos HE')
      subst HE'
      rw [HV']
      clear HE HV hV hX ha hb hc hp hw HW HV'
      go_enter Tryz.func74, Tryz.ntmps74
      go_wp2_with (first
        | (go_at_call 22; refine (KA _).mono ?_; clear KA; rintro e W2 ⟨rfl, rfl⟩)
        | (go_at_call 22; refine (KB _).mono ?_; clear KB; rintro e W2 ⟨rfl, rfl⟩)
        | (go_at_call 22; refine (KC _).mono ?_; clear KC; rintro e W2 ⟨rfl, rfl⟩))
      exact bodyPost_ret (results_tmp2 rfl _ _ _) rfl ⟨rfl, rfl⟩
theorem mul_one' (x : Int) : mulE x 1 = (if E.flowB x = true then 0 else 10) ∧ mulV x 1 = (if E.flowB x = true then x else 0) := by
  unfold mulV mulE
  rw [Int.mul_one]
  cases E.flowB x with
  | true => exact ⟨rfl, rfl⟩
  | false => exact ⟨rfl, rfl⟩
theorem tldA (x s : Int) : tldE 1 x s = mulE x s ∧ tldV 1 x s = mulV x s := by
  unfold tldV tldE mulV
  simp
theorem tldB (x s : Int) : tldE 2 x s = (if x ≠ 0 ∧ x ≠ 1 then 49 else mulE x s) ∧ tldV 2 x s = (if x ≠ 0 ∧ x ≠ 1 then 0 else mulV x s) := by
  unfold tldV tldE mulV
  by_cases h : x ≠ 0 ∧ x ≠ 1 <;> simp [h]
theorem tldC (x s : Int) : tldE 3 x s = (if mulE x x = 0 then mulE (mulV x x) s else mulE x x) ∧ tldV 3 x s = (if mulE x x = 0 then mulV (mulV x x) s else 0) := by
  unfold tldV tldE mulV
  rcases mulE_or x x with h | h <;> simp [h]
theorem tldD (x s : Int) : tldE 4 x s = mulE x 1 ∧ tldV 4 x s = mulV x 1 := by
  rw [(mul_one' x).1, (mul_one' x).2]
  unfold tldV tldE
  simp
set_option maxRecDepth 100000 in
set_option maxHeartbeats 4000000 in
theorem rtold_any (kd x s : Int) (w : World) (hk : kindB kd = true) : Calls Tryz.prog 39 #[.int .i64 kd, .int .i64 x, .int .i64 s] w fun e w' => e = .returned (.tuple #[.int .i64 (tldV kd x s), .int .i64 (tldE kd x s)]) ∧ w' = w := by
  have h4 : kd = 1 ∨ kd = 2 ∨ kd = 3 ∨ kd = 4 := by
    have : 1 ≤ kd ∧ kd ≤ 4 := of_decide_eq_true hk
    omega
  clear hk
  rcases h4 with h | h | h | h
  · subst h
    rw [(tldA x s).1, (tldA x s).2]
    have K1 := fun W => rtimes_any x s W
    obtain ⟨V, hV⟩ : ∃ V, mulV x s = V := ⟨_, rfl⟩
    obtain ⟨X, hX⟩ : ∃ X, mulE x s = X := ⟨_, rfl⟩
    rw [hV, hX] at K1 ⊢
    clear hV hX
    go_enter Tryz.func39, Tryz.ntmps39
    go_wp2_with (go_at_call 74; refine (K1 _).mono ?_; clear K1; rintro e W2 ⟨rfl, rfl⟩)
    exact bodyPost_ret (results_tmp2 rfl _ _ _) rfl ⟨rfl, rfl⟩
  · subst h
    rw [(tldB x s).1, (tldB x s).2]
    by_cases h0 : x ≠ 0 ∧ x ≠ 1
    case pos =>
      rw [if_pos h0, if_pos h0]
      have h0b : (x != 0) = true := by simpa using h0.1
      have h1b : (x != 1) = true := by simpa using h0.2
      clear h0
      go_enter Tryz.func39, Tryz.ntmps39
      go_wp2
      exact bodyPost_ret (results_tmp2 rfl _ _ _) rfl ⟨rfl, rfl⟩
    case neg =>
      rw [if_neg h0, if_neg h0]
      have K1 := fun W => rtimes_any x s W
      obtain ⟨V, hV⟩ : ∃ V, mulV x s = V := ⟨_, rfl⟩
      obtain ⟨X, hX⟩ : ∃ X, mulE x s = X := ⟨_, rfl⟩
      rw [hV, hX] at K1 ⊢
      clear hV hX
      by_cases hx : x = 0
      case pos =>
        subst hx
        clear h0
        go_enter Tryz.func39, Tryz.ntmps39
        go_wp2_with (go_at_call 74; refine (K1 _).mono ?_; clear K1; rintro e W2 ⟨rfl, rfl⟩)
        exact bodyPost_ret (results_tmp2 rfl _ _ _) rfl ⟨rfl, rfl⟩
      case neg =>
        have hx1 : x = 1 := by
          by_cases h1 : x = 1
          · exact h1
          · exact absurd ⟨hx, h1⟩ h0
        subst hx1
        clear h0 hx
        go_enter Tryz.func39, Tryz.ntmps39
        go_wp2_with (go_at_call 74; refine (K1 _).mono ?_; clear K1; rintro e W2 ⟨rfl, rfl⟩)
        exact bodyPost_ret (results_tmp2 rfl _ _ _) rfl ⟨rfl, rfl⟩
  · subst h
    rw [(tldC x s).1, (tldC x s).2]
    have K1 := fun W => rtimes_any x x W
    have K2 := fun W => rtimes_any (mulV x x) s W
    obtain ⟨V, hV⟩ : ∃ V, mulV x x = V := ⟨_, rfl⟩
    obtain ⟨X, hX⟩ : ∃ X, mulE x x = X := ⟨_, rfl⟩
    rw [hV] at K1 K2 ⊢
    rw [hX] at K1 ⊢
    clear hV hX
    by_cases h0 : X = 0
    case pos =>
      rw [if_pos h0, if_pos h0]
      subst h0
      obtain ⟨V2, hV2⟩ : ∃ V2, mulV V s = V2 := ⟨_, rfl⟩
      obtain ⟨X2, hX2⟩ : ∃ X2, mulE V s = X2 := ⟨_, rfl⟩
      rw [hV2, hX2] at K2 ⊢
      clear hV2 hX2
      go_enter Tryz.func39, Tryz.ntmps39
      go_wp2_with (first
        | (go_at_call 74; refine (K1 _).mono ?_; clear K1; rintro e W2 ⟨rfl, rfl⟩)
        | (go_at_call 74; refine (K2 _).mono ?_; clear K2; rintro e W2 ⟨rfl, rfl⟩))
      exact bodyPost_ret (results_tmp2 rfl _ _ _) rfl ⟨rfl, rfl⟩
    case neg =>
      rw [if_neg h0, if_neg h0]
      have h0b : (X != 0) = true := by simpa using h0
      clear h0
      go_enter Tryz.func39, Tryz.ntmps39
      go_wp2_with (first
        | (go_at_call 74; refine (K1 _).mono ?_; clear K1; rintro e W2 ⟨rfl, rfl⟩))
      exact bodyPost_ret (results_tmp2 rfl _ _ _) rfl ⟨rfl, rfl⟩
  · subst h
    rw [(tldD x s).1, (tldD x s).2]
    have K1 := fun W => rtimes_any x 1 W
    obtain ⟨V, hV⟩ : ∃ V, mulV x 1 = V := ⟨_, rfl⟩
    obtain ⟨X, hX⟩ : ∃ X, mulE x 1 = X := ⟨_, rfl⟩
    rw [hV, hX] at K1 ⊢
    clear hV hX
    go_enter Tryz.func39, Tryz.ntmps39
    go_wp2_with (go_at_call 74; refine (K1 _).mono ?_; clear K1; rintro e W2 ⟨rfl, rfl⟩)
    exact bodyPost_ret (results_tmp2 rfl _ _ _) rfl ⟨rfl, rfl⟩
end Go.Proofs.YtoeebofappbneaaGreat

namespace Go.Proofs.YtoeebofappbneaaGreat
open Go.ChangeShapes Go.WideShapes Go.ChangeAt Go.RowKit Go.Maps Go.Shelf
set_option linter.unusedVariables false
set_option linter.unusedSimpArgs false

theorem wpList_ownmnF {ops : Array Oper} {rest : List Oper} {o : Oper} {A : Act} {w W : World} {Q : Exit → Act → World → Prop} {g off n cap i : Nat} {l : List ST} {nm : ByteArray} {ep mr : Int} {al : Bool} {kd sc : Int} {hv : Bool} {iv : Int} {h1 : Bool} {v1 o1 g1 : Int} {h2 : Bool} {v2 o2 g2 : Int} (O : OwnI w W g off n cap l i ⟨⟨nm, ep, mr, al, kd, sc⟩, hv, iv, ⟨h1, v1, o1, g1⟩, ⟨h2, v2, o2, g2⟩⟩) (hgd : o.guard = none) (x y : Operand) (ho : o.op = .store 38 x y) (h : Bool) (v r q : Int) (hx : A.eval x = .pointer (some ⟨g, off + i * 16 + 8, none⟩)) (hy : A.eval y = exv h v r q)
    (H : ∀ W', OwnI w W' g off n cap l i ⟨⟨nm, ep, mr, al, kd, sc⟩, hv, iv, ⟨h, v, r, q⟩, ⟨h2, v2, o2, g2⟩⟩ → (∀ b, b ≠ g → W'.heap[b]? = W.heap[b]?) → wpList Tryz.prog ops Q rest (A.put o.dst undef) W') : wpList Tryz.prog ops Q (o :: rest) A W := by
  obtain ⟨cur', hst, O2⟩ := O.setN (s' := ⟨⟨nm, ep, mr, al, kd, sc⟩, hv, iv, ⟨h, v, r, q⟩, ⟨h2, v2, o2, g2⟩⟩) 8 [.bool h, .int .i64 v, .int .i64 r, .int .i64 q] (by simp) (by simp [Value.oneCell']) rfl
  have hi : (Tryz.prog.info? 38).map (·.size) = some 4 := by kernel_rfl
  refine wpList_plain hgd fun K hK => ?_
  unfold Oper.wp execOp
  cases hq : Tryz.prog.info? 38 with
  | none => simp [hq] at hi
  | some j =>
    have hs : j.size = 4 := by simpa [hq] using hi
    simp only [ho, hx, hy]
    have hrun : (Instr.storeAt 38 (.pointer (some ⟨g, off + i * 16 + 8, none⟩)) (exv h v r q)).run Tryz.prog W = .ok () (W.setRow g cur') := by
      simp [Instr.storeAt, Instr.sureAddr, storeVar, sizeOf, typeInfo, hq, Value.cells, hs, hst]
    simp only [Sem.run_bind, hrun, Result.andThen_ok, Sem.run_pure]
    exact hK _ _ (H _ O2 (fun b hb => setRow_other _ _ _ _ hb))
theorem wpList_ownmxF {ops : Array Oper} {rest : List Oper} {o : Oper} {A : Act} {w W : World} {Q : Exit → Act → World → Prop} {g off n cap i : Nat} {l : List ST} {nm : ByteArray} {ep mr : Int} {al : Bool} {kd sc : Int} {hv : Bool} {iv : Int} {h1 : Bool} {v1 o1 g1 : Int} {h2 : Bool} {v2 o2 g2 : Int} (O : OwnI w W g off n cap l i ⟨⟨nm, ep, mr, al, kd, sc⟩, hv, iv, ⟨h1, v1, o1, g1⟩, ⟨h2, v2, o2, g2⟩⟩) (hgd : o.guard = none) (x y : Operand) (ho : o.op = .store 38 x y) (h : Bool) (v r q : Int) (hx : A.eval x = .pointer (some ⟨g, off + i * 16 + 12, none⟩)) (hy : A.eval y = exv h v r q)
    (H : ∀ W', OwnI w W' g off n cap l i ⟨⟨nm, ep, mr, al, kd, sc⟩, hv, iv, ⟨h1, v1, o1, g1⟩, ⟨h, v, r, q⟩⟩ → (∀ b, b ≠ g → W'.heap[b]? = W.heap[b]?) → wpList Tryz.prog ops Q rest (A.put o.dst undef) W') : wpList Tryz.prog ops Q (o :: rest) A W := by
  obtain ⟨cur', hst, O2⟩ := O.setN (s' := ⟨⟨nm, ep, mr, al, kd, sc⟩, hv, iv, ⟨h1, v1, o1, g1⟩, ⟨h, v, r, q⟩⟩) 12 [.bool h, .int .i64 v, .int .i64 r, .int .i64 q] (by simp) (by simp [Value.oneCell']) rfl
  have hi : (Tryz.prog.info? 38).map (·.size) = some 4 := by kernel_rfl
  refine wpList_plain hgd fun K hK => ?_
  unfold Oper.wp execOp
  cases hq : Tryz.prog.info? 38 with
  | none => simp [hq] at hi
  | some j =>
    have hs : j.size = 4 := by simpa [hq] using hi
    simp only [ho, hx, hy]
    have hrun : (Instr.storeAt 38 (.pointer (some ⟨g, off + i * 16 + 12, none⟩)) (exv h v r q)).run Tryz.prog W = .ok () (W.setRow g cur') := by
      simp [Instr.storeAt, Instr.sureAddr, storeVar, sizeOf, typeInfo, hq, Value.cells, hs, hst]
    simp only [Sem.run_bind, hrun, Result.andThen_ok, Sem.run_pure]
    exact hK _ _ (H _ O2 (fun b hb => setRow_other _ _ _ _ hb))
theorem wpList_loadw33 {ops : Array Oper} {rest : List Oper} {o : Oper} {A : Act} {W : World} {Q : Exit → Act → World → Prop} (hgd : Region.wanted o (yielded ops A.tmps) = true) (x : Operand) (ho : o.op = .load 38 x) {k : Nat} {h : Bool} {v r q : Int} (hx : A.eval x = .pointer (some ⟨k, 0, none⟩)) (hc : W.heap[k]? = some (.cells #[.bool h, .int .i64 v, .int .i64 r, .int .i64 q] 38 (0, 0)))
    (H : wpList Tryz.prog ops Q rest (A.put o.dst (exv h v r q)) W) : wpList Tryz.prog ops Q (o :: rest) A W := by
  unfold wpList
  rw [if_pos hgd]
  left
  unfold Oper.wp
  rw [exec_loadr ho rtX hx hc rfl]
  exact H
theorem rset_wrap {id y : Int} {a b : E.EX} (hi : E.nodeB id = true) (hy : E.flowB y = true) (f1 : E.fitB a = true) (f2 : E.fitB b = true) : ∀ W, Calls Tryz.prog 40 #[.int .i64 id, .int .i64 y, a.val, b.val] W fun e w' => e = .returned (E.two (E.setX id y a b)) ∧ Below W.heap.size W w' := fun W => by
  obtain ⟨h1, v1, o1, g1⟩ := a
  obtain ⟨h2, v2, o2, g2⟩ := b
  exact E.rset_any id y h1 v1 o1 g1 h2 v2 o2 g2 W hi hy f1 f2
end Go.Proofs.YtoeebofappbneaaGreat

namespace Go.Proofs.YtoeebofappbneaaGreat
open Go.ChangeShapes Go.WideShapes Go.ChangeAt Go.RowKit Go.Maps Go.Shelf
set_option linter.unusedVariables false
set_option linter.unusedSimpArgs false

theorem rtick_wrap {id y : Int} {hv : Bool} {a b : E.EX} (hi : E.nodeB id = true) (hy : E.flowB y = true) (f1 : E.fitB a = true) (f2 : E.fitB b = true) : ∀ W, Calls Tryz.prog 43 #[.int .i64 id, .bool hv, .int .i64 y, a.val, b.val] W fun e w' => e = .returned (E.two (E.tickX id hv y a b)) ∧ Below W.heap.size W w' := fun W => by
  obtain ⟨h1, v1, o1, g1⟩ := a
  obtain ⟨h2, v2, o2, g2⟩ := b
  exact E.rtick_any id hv y h1 v1 o1 g1 h2 v2 o2 g2 W hi hy f1 f2
set_option maxRecDepth 100000 in
set_option maxHeartbeats 16000000 in
theorem rtick_anyS (a : Option Addr) (cap : Nat) (l : List ST) (id : Int) (w : World) (hr : RdT w a l.length cap l) (hf : fitL l = true) (hid : nodeB id = true) : Calls Tryz.prog 18 #[.slice a l.length cap, .int .i64 id] w (AnsT w (tkS l id)) := by
  have B0 := Below.refl w.heap.size w
  have HFL : Hid (fitL l = true) := hf
  have HID : Hid (E.nodeB id = true) := hid
  obtain ⟨n, hn⟩ : ∃ n, l.length = n := ⟨_, rfl⟩
  have h8 := fitL_len hf
  have HN : Hid (n ≤ 8) := by show _ ≤ _; rw [← hn]; exact h8
  have HL0 : Hid (l.length = n) := hn
  have KCP := rcopy_any a cap l w hr
  have HAN : Hid (AnsT w (tkS l id) = fun e w' => ∃ a' cap', e = .returned (.slice a' n cap') ∧ LstT w' a' n cap' (tkS l id) ∧ (∀ g off, a' = some ⟨g, off, none⟩ → w.heap.size ≤ g) ∧ Below w.heap.size w w') := by
    show _ = _
    unfold AnsT
    rw [show (tkS l id).length = n from by rw [← hn]; exact List.length_map _]
  have KC2 : Calls Tryz.prog 7 #[.slice a n cap] w fun e w' => ∃ a' cap', e = .returned (.slice a' n cap') ∧ LstT w' a' n cap' l ∧ (∀ g off, a' = some ⟨g, off, none⟩ → w.heap.size ≤ g) ∧ Below w.heap.size w w' := by
    rw [← hn]; exact KCP
  rw [HAN.out, hn]
  clear hn h8 KCP hf hr HAN B0 hid
  go_enter Tryz.func18, Tryz.ntmps18
  go_wp2_with (first
      | (go_at_call 7; refine KC2.mono ?_; clear KC2; rintro e W1 ⟨a1, c1, rfl, L1, fo1, b1⟩))
  have HFO : Hid (∀ g off, a1 = some ⟨g, off, none⟩ → w.heap.size ≤ g) := fo1
  clear fo1
  go_loopg [6] n (fun gk v6 wr => ∃ i : Nat, v6 = .int .i64 (i : Int) ∧ i + gk = n ∧ LstT wr a1 n c1 (tkN l id i) ∧ Below w.heap.size w wr)
  case atStart => exact ⟨0, by first | rfl | go_num, by omega, L1, b1⟩
  case round =>
    clear L1 b1
    obtain ⟨i, rfl, hgk, L, B⟩ := hrel
    by_cases hi : i < n
    case pos =>
      have HI : Hid (i < n) := hi
      have hiI : (i : Int) < (n : Int) := by omega
      have hwr : IntKind.i64.wrap ((i : Int) + 1) = (i : Int) + 1 := by rw [IntKind.wrap_i64]; have := HN.out; omega
      obtain ⟨g, off, rfl⟩ := lst_addr L hi
      have O := OwnI.mk0 (i := i) B (HFO.out g off rfl) L hi
      rw [tkN_get (by rw [HL0.out]; exact hi)] at O
      have hok := ok_at HFL.out (i := i) (by rw [HL0.out]; exact hi)
      have hts := tkN_set (id := id) (l := l) (i := i) (by rw [HL0.out]; exact hi)
      obtain ⟨⟨⟨nm, ep, mr, al, kd, sc⟩, hv, iv, ⟨h1, v1, o1, g1⟩, ⟨h2, v2, o2, g2⟩⟩, hri⟩ : ∃ r, l.getD i ST.z = r := ⟨_, rfl⟩
      rw [hri] at O hok hts
      have hff := ok_fits hok
      clear hri hi L B hok
      by_cases hc : al = true ∧ kd = 4
      case neg =>
        have HTS : Hid ((tkN l id i).set i ⟨⟨nm, ep, mr, al, kd, sc⟩, hv, iv, ⟨h1, v1, o1, g1⟩, ⟨h2, v2, o2, g2⟩⟩ = tkN l id (i + 1)) := by
          show _ = _
          rw [← hts]
          unfold tickT
          rw [if_neg hc]
        clear hts hff
        cases al with
        | false =>
          clear hc
          go_wp2_with (first
      | ((with_reducible show wpList _ _ _ (Oper.mk _ (Op.load 4 _) _ _ _ _ :: _) _ _); refine wpList_cell4w (by rfl) _ rfl _ rfl (O.range 3 _ rfl) ?_)
      | ((with_reducible show wpList _ _ _ (Oper.mk _ (Op.load 3 _) _ _ _ _ :: _) _ _); refine wpList_cell3w (by rfl) _ rfl _ rfl (O.range 4 _ rfl) ?_))
          go_roundg (gk - 1)
          case measure => have := HI.out; omega
          case rel =>
            have HL := O.lst
            rw [HTS.out] at HL
            exact ⟨i + 1, by first | rfl | go_num, by have := HI.out; omega, HL, O.below⟩
        | true =>
          have h4b : (kd == 4) = false := by
            cases h : (kd == 4) with
            | false => rfl
            | true => exact absurd ⟨rfl, by simpa using h⟩ hc
          clear hc
          go_wp2_with (first
      | ((with_reducible show wpList _ _ _ (Oper.mk _ (Op.load 4 _) _ _ _ _ :: _) _ _); refine wpList_cell4w (by rfl) _ rfl _ rfl (O.range 3 _ rfl) ?_)
      | ((with_reducible show wpList _ _ _ (Oper.mk _ (Op.load 3 _) _ _ _ _ :: _) _ _); refine wpList_cell3w (by rfl) _ rfl _ rfl (O.range 4 _ rfl) ?_))
          go_roundg (gk - 1)
          case measure => have := HI.out; omega
          case rel =>
            have HL := O.lst
            rw [HTS.out] at HL
            exact ⟨i + 1, by first | rfl | go_num, by have := HI.out; omega, HL, O.below⟩
      case pos =>
        obtain ⟨h1a, h4⟩ := hc
        subst h1a h4
        obtain ⟨⟨⟨h5, v5, o5, g5⟩, ⟨h6, v6, o6, g6⟩⟩, h56⟩ : ∃ p, E.tickX id hv iv ⟨h1, v1, o1, g1⟩ ⟨h2, v2, o2, g2⟩ = p := ⟨_, rfl⟩
        have HTS : Hid ((tkN l id i).set i ⟨⟨nm, ep, mr, true, 4, sc⟩, hv, iv, ⟨h5, v5, o5, g5⟩, ⟨h6, v6, o6, g6⟩⟩ = tkN l id (i + 1)) := by
          show _ = _
          rw [← hts]
          unfold tickT
          rw [if_pos ⟨rfl, rfl⟩]
          dsimp only
          rw [h56]
        have KS := rtick_wrap (id := id) (y := iv) (hv := hv) HID.out hff.2.2 hff.1 hff.2.1
        rw [h56] at KS
        unfold E.two at KS
        dsimp only at KS
        clear hts h56 hff
        go_wp2_with (first
          | ((with_reducible show wpList _ _ _ (Oper.mk _ (Op.load 4 _) _ _ _ _ :: _) _ _); refine wpList_cell4w (by rfl) _ rfl _ rfl (O.range 3 _ rfl) ?_)
          | ((with_reducible show wpList _ _ _ (Oper.mk _ (Op.load 3 _) _ _ _ _ :: _) _ _); refine wpList_cell3w (by rfl) _ rfl _ rfl (O.range 4 _ rfl) ?_)
          | fail)
        obtain ⟨W0, hW0⟩ : ∃ W0 : World, W0 = wr := ⟨_, rfl⟩
        subst hW0
        have KO : ∀ X, Below W0.heap.size W0 X → X.rangeAt g (off + i * 16) (ST.cells ⟨⟨nm, ep, mr, true, 4, sc⟩, hv, iv, ⟨h1, v1, o1, g1⟩, ⟨h2, v2, o2, g2⟩⟩) := fun X h => range_later O.range O.lst.lt h
        have M := Mem.nil W0
        refine wp_region_any (by kernel_rfl) ?_
        change wpAny _ _ _ _ _ _ _ (World.drew _)
        refine wpAny_narrow (fun W' => Below W0.heap.size W0 W') _ _ _ _ ?_
        replace M := M.drew
        revert M
        generalize World.drew _ = WD
        intro M
        refine anyH_take 0 33 (.int .i64 id) rfl rfl (by kernel_rfl) (by kernel_rfl) (by kernel_rfl) (fun _ _ _ h => h) (Or.inl ⟨by rfl, by intro w hSw; go_simp⟩) (M.below) ?_
        try simp only [Act.put, List.setIfInBounds_toArray, List.set_cons_zero, List.set_cons_succ]
        refine anyH_take 1 34 (.slice (some ⟨g, off, none⟩) n c1) rfl rfl (by kernel_rfl) (by kernel_rfl) (by kernel_rfl) (fun _ _ _ h => h) (Or.inl ⟨by rfl, by intro w hSw; go_simp⟩) (M.below) ?_
        try simp only [Act.put, List.setIfInBounds_toArray, List.set_cons_zero, List.set_cons_succ]
        refine anyH_take 2 35 (.int .i64 (i : Int)) rfl rfl (by kernel_rfl) (by kernel_rfl) (by kernel_rfl) (fun _ _ _ h => h) (Or.inl ⟨by rfl, by intro w hSw; go_simp⟩) (M.below) ?_
        try simp only [Act.put, List.setIfInBounds_toArray, List.set_cons_zero, List.set_cons_succ]
        refine anyH_take 3 36 (.pointer (some ⟨g, off + i * 16, none⟩)) rfl rfl (by kernel_rfl) (by kernel_rfl) (by kernel_rfl) (fun _ _ _ h => h) (Or.inl ⟨by rfl, by intro w hSw; go_simp⟩) (M.below) ?_
        try simp only [Act.put, List.setIfInBounds_toArray, List.set_cons_zero, List.set_cons_succ]
        refine anyH_take 4 37 (.pointer (some ⟨g, off + i * 16 + 6, none⟩)) rfl rfl (by kernel_rfl) (by kernel_rfl) (by kernel_rfl) (fun _ _ _ h => h) (Or.inl ⟨by rfl, by intro w hSw; go_simp⟩) (M.below) ?_
        try simp only [Act.put, List.setIfInBounds_toArray, List.set_cons_zero, List.set_cons_succ]
        refine anyH_take 5 38 (.bool hv) rfl rfl (by kernel_rfl) (by kernel_rfl) (by kernel_rfl) (fun _ _ _ h => h) (Or.inl ⟨by rfl, fun X hSw => by have hc := KO _ hSw 6 _ rfl; go_simp⟩) (M.below) ?_
        try simp only [Act.put, List.setIfInBounds_toArray, List.set_cons_zero, List.set_cons_succ]
        refine anyH_take 6 39 (.slice (some ⟨g, off, none⟩) n c1) rfl rfl (by kernel_rfl) (by kernel_rfl) (by kernel_rfl) (fun _ _ _ h => h) (Or.inl ⟨by rfl, by intro w hSw; go_simp⟩) (M.below) ?_
        try simp only [Act.put, List.setIfInBounds_toArray, List.set_cons_zero, List.set_cons_succ]
        refine anyH_take 7 40 (.int .i64 (i : Int)) rfl rfl (by kernel_rfl) (by kernel_rfl) (by kernel_rfl) (fun _ _ _ h => h) (Or.inl ⟨by rfl, by intro w hSw; go_simp⟩) (M.below) ?_
        try simp only [Act.put, List.setIfInBounds_toArray, List.set_cons_zero, List.set_cons_succ]
        refine anyH_take 8 41 (.pointer (some ⟨g, off + i * 16, none⟩)) rfl rfl (by kernel_rfl) (by kernel_rfl) (by kernel_rfl) (fun _ _ _ h => h) (Or.inl ⟨by rfl, by intro w hSw; go_simp⟩) (M.below) ?_
        try simp only [Act.put, List.setIfInBounds_toArray, List.set_cons_zero, List.set_cons_succ]
        refine anyH_take 9 42 (.pointer (some ⟨g, off + i * 16 + 7, none⟩)) rfl rfl (by kernel_rfl) (by kernel_rfl) (by kernel_rfl) (fun _ _ _ h => h) (Or.inl ⟨by rfl, by intro w hSw; go_simp⟩) (M.below) ?_
        try simp only [Act.put, List.setIfInBounds_toArray, List.set_cons_zero, List.set_cons_succ]
        refine anyH_take 10 43 (.int .i64 iv) rfl rfl (by kernel_rfl) (by kernel_rfl) (by kernel_rfl) (fun _ _ _ h => h) (Or.inl ⟨by rfl, fun X hSw => by have hc := KO _ hSw 7 _ rfl; go_simp⟩) (M.below) ?_
        try simp only [Act.put, List.setIfInBounds_toArray, List.set_cons_zero, List.set_cons_succ]
        refine anyH_take 11 44 (.slice (some ⟨g, off, none⟩) n c1) rfl rfl (by kernel_rfl) (by kernel_rfl) (by kernel_rfl) (fun _ _ _ h => h) (Or.inl ⟨by rfl, by intro w hSw; go_simp⟩) (M.below) ?_
        try simp only [Act.put, List.setIfInBounds_toArray, List.set_cons_zero, List.set_cons_succ]
        refine anyH_take 12 45 (.int .i64 (i : Int)) rfl rfl (by kernel_rfl) (by kernel_rfl) (by kernel_rfl) (fun _ _ _ h => h) (Or.inl ⟨by rfl, by intro w hSw; go_simp⟩) (M.below) ?_
        try simp only [Act.put, List.setIfInBounds_toArray, List.set_cons_zero, List.set_cons_succ]
        refine anyH_take 13 46 (.pointer (some ⟨g, off + i * 16, none⟩)) rfl rfl (by kernel_rfl) (by kernel_rfl) (by kernel_rfl) (fun _ _ _ h => h) (Or.inl ⟨by rfl, by intro w hSw; go_simp⟩) (M.below) ?_
        try simp only [Act.put, List.setIfInBounds_toArray, List.set_cons_zero, List.set_cons_succ]
        refine anyH_take 14 47 (.pointer (some ⟨g, off + i * 16 + 8, none⟩)) rfl rfl (by kernel_rfl) (by kernel_rfl) (by kernel_rfl) (fun _ _ _ h => h) (Or.inl ⟨by rfl, by intro w hSw; go_simp⟩) (M.below) ?_
        try simp only [Act.put, List.setIfInBounds_toArray, List.set_cons_zero, List.set_cons_succ]
        refine anyH_take 15 48 (exv h1 v1 o1 g1) rfl rfl (by kernel_rfl) (by kernel_rfl) (by kernel_rfl) (fun _ _ _ h => h) (Or.inl ⟨by rfl, fun X hSw => exec_loadX rfl rfl (rng_mn (KO _ hSw))⟩) (M.below) ?_
        try simp only [Act.put, List.setIfInBounds_toArray, List.set_cons_zero, List.set_cons_succ]
        refine anyH_take 16 49 (.slice (some ⟨g, off, none⟩) n c1) rfl rfl (by kernel_rfl) (by kernel_rfl) (by kernel_rfl) (fun _ _ _ h => h) (Or.inl ⟨by rfl, by intro w hSw; go_simp⟩) (M.below) ?_
        try simp only [Act.put, List.setIfInBounds_toArray, List.set_cons_zero, List.set_cons_succ]
        refine anyH_take 17 50 (.int .i64 (i : Int)) rfl rfl (by kernel_rfl) (by kernel_rfl) (by kernel_rfl) (fun _ _ _ h => h) (Or.inl ⟨by rfl, by intro w hSw; go_simp⟩) (M.below) ?_
        try simp only [Act.put, List.setIfInBounds_toArray, List.set_cons_zero, List.set_cons_succ]
        refine anyH_take 18 51 (.pointer (some ⟨g, off + i * 16, none⟩)) rfl rfl (by kernel_rfl) (by kernel_rfl) (by kernel_rfl) (fun _ _ _ h => h) (Or.inl ⟨by rfl, by intro w hSw; go_simp⟩) (M.below) ?_
        try simp only [Act.put, List.setIfInBounds_toArray, List.set_cons_zero, List.set_cons_succ]
        refine anyH_take 19 52 (.pointer (some ⟨g, off + i * 16 + 12, none⟩)) rfl rfl (by kernel_rfl) (by kernel_rfl) (by kernel_rfl) (fun _ _ _ h => h) (Or.inl ⟨by rfl, by intro w hSw; go_simp⟩) (M.below) ?_
        try simp only [Act.put, List.setIfInBounds_toArray, List.set_cons_zero, List.set_cons_succ]
        refine anyH_take 20 53 (exv h2 v2 o2 g2) rfl rfl (by kernel_rfl) (by kernel_rfl) (by kernel_rfl) (fun _ _ _ h => h) (Or.inl ⟨by rfl, fun X hSw => exec_loadX rfl rfl (rng_mx (KO _ hSw))⟩) (M.below) ?_
        try simp only [Act.put, List.setIfInBounds_toArray, List.set_cons_zero, List.set_cons_succ]
        refine wpAnyH_ready (rs := [21, 25, 26]) (by kernel_rfl) (by simp) ?_
        refine (AllReadyH.cons rfl (fun K hK => ?_) (AllReadyH.cons rfl (fun K hK => ?_) (AllReadyH.cons rfl (fun K hK => ?_) AllReadyH.nil)))
        · go_simp
          go_wp2_with (go_at_call 43; refine (KS _).mono ?_; rintro e W6 ⟨rfl, b6⟩; replace M := M.later b6)
          refine hK.out _ _ M.below (fun hS => ?_)
          clear hK hS
          try simp only [Act.put, List.setIfInBounds_toArray, List.set_cons_zero, List.set_cons_succ]
          refine anyH_take 22 32 ((.tuple #[exv h5 v5 o5 g5, exv h6 v6 o6 g6])) rfl rfl (by kernel_rfl) (by kernel_rfl) (by kernel_rfl) (fun _ _ _ h => h) (Or.inl ⟨by rfl, by intro w hSw; go_simp⟩) (M.below) ?_
          try simp only [Act.put, List.setIfInBounds_toArray, List.set_cons_zero, List.set_cons_succ]
          refine anyH_take 23 55 (exv h5 v5 o5 g5) rfl rfl (by kernel_rfl) (by kernel_rfl) (by kernel_rfl) (fun _ _ _ h => h) (Or.inl ⟨by rfl, by intro w hSw; go_simp⟩) (M.below) ?_
          try simp only [Act.put, List.setIfInBounds_toArray, List.set_cons_zero, List.set_cons_succ]
          refine anyH_take 24 56 (exv h6 v6 o6 g6) rfl rfl (by kernel_rfl) (by kernel_rfl) (by kernel_rfl) (fun _ _ _ h => h) (Or.inl ⟨by rfl, by intro w hSw; go_simp⟩) (M.below) ?_
          try simp only [Act.put, List.setIfInBounds_toArray, List.set_cons_zero, List.set_cons_succ]
          refine wpAnyH_ready (rs := [25, 26]) (by kernel_rfl) (by simp) ?_
          refine (AllReadyH.cons rfl (fun K hK => ?_) (AllReadyH.cons rfl (fun K hK => ?_) AllReadyH.nil))
          · rw [if_pos (by rfl)]
            refine wp_alloc M rfl rtX ?_
            clear M
            intro k7 W7 M
            refine hK.out _ _ M.below (fun hS => ?_)
            clear hK hS
            try simp only [Act.put, List.setIfInBounds_toArray, List.set_cons_zero, List.set_cons_succ]
            refine wpAnyH_ready (rs := [26]) (by kernel_rfl) (by simp) ?_
            refine (AllReadyH.cons rfl (fun K hK => ?_) AllReadyH.nil)
            rw [if_pos (by rfl)]
            refine wp_alloc M rfl rtX ?_
            clear M
            intro k8 W7 M
            refine hK.out _ _ M.below (fun hS => ?_)
            clear hK hS
            try simp only [Act.put, List.setIfInBounds_toArray, List.set_cons_zero, List.set_cons_succ]
            refine wpAnyH_ready (rs := [27]) (by kernel_rfl) (by simp) ?_
            refine AllReadyH.cons rfl (fun K hK => ?_) AllReadyH.nil
            rw [if_pos (by rfl)]
            refine wp_put M _ _ rfl rtX 1 _ rfl rfl rfl rfl rfl (by simp [Value.oneCell']) ?_
            clear M
            intro W8 M
            simp only [List.set_cons_zero, List.set_cons_succ] at M
            refine hK.out _ _ M.below (fun hS => ?_)
            clear hK hS
            try simp only [Act.put, List.setIfInBounds_toArray, List.set_cons_zero, List.set_cons_succ]
            refine wpAnyH_ready (rs := [28]) (by kernel_rfl) (by simp) ?_
            refine AllReadyH.cons rfl (fun K hK => ?_) AllReadyH.nil
            rw [if_pos (by rfl)]
            refine wp_put M _ _ rfl rtX 0 _ rfl rfl rfl rfl rfl (by simp [Value.oneCell']) ?_
            clear M
            intro W8 M
            simp only [List.set_cons_zero, List.set_cons_succ] at M
            refine hK.out _ _ M.below (fun hS => ?_)
            clear hK hS
            try simp only [Act.put, List.setIfInBounds_toArray, List.set_cons_zero, List.set_cons_succ]
            refine wpAnyH_done (by kernel_rfl) ?_ _
            have y7 := M.get (.tail _ (.head _))
            have y8 := M.get (.head _)
            have n7 := M.ge (.tail _ (.head _))
            have n8 := M.ge (.head _)
            have O9 := O.later M.below
            go_wp2_with (first
              | ((with_reducible show wpList _ _ _ (Oper.mk _ (Op.load 38 (Operand.tmp 7)) _ _ _ _ :: _) _ _); refine wpList_loadw33 (by rfl) _ rfl rfl y7 ?_)
              | ((with_reducible show wpList _ _ _ (Oper.mk _ (Op.store 38 (Operand.tmp 61) _) _ _ _ _ :: _) _ _); refine wpList_ownmnF O9 rfl _ _ rfl h5 v5 o5 g5 rfl rfl ?_; clear O9; intro W9 O9 hfar; have z8 := (hfar k8 (by have := O.lst.lt; omega)).trans y8; clear hfar)
              | ((with_reducible show wpList _ _ _ (Oper.mk _ (Op.load 38 (Operand.tmp 8)) _ _ _ _ :: _) _ _); refine wpList_loadw33 (by rfl) _ rfl rfl z8 ?_)
              | ((with_reducible show wpList _ _ _ (Oper.mk _ (Op.store 38 (Operand.tmp 66) _) _ _ _ _ :: _) _ _); refine wpList_ownmxF O9 rfl _ _ rfl h6 v6 o6 g6 rfl rfl ?_; clear O9; intro W9 O9 hfar))
            go_roundg (gk - 1)
            case measure => have := HI.out; omega
            case rel =>
              have HL := O9.lst
              rw [HTS.out] at HL
              exact ⟨i + 1, by first | rfl | go_num, by have := HI.out; omega, HL, O9.below⟩
          · rw [if_pos (by rfl)]
            refine wp_alloc M rfl rtX ?_
            clear M
            intro k8 W7 M
            refine hK.out _ _ M.below (fun hS => ?_)
            clear hK hS
            try simp only [Act.put, List.setIfInBounds_toArray, List.set_cons_zero, List.set_cons_succ]
            refine wpAnyH_ready (rs := [25]) (by kernel_rfl) (by simp) ?_
            refine (AllReadyH.cons rfl (fun K hK => ?_) AllReadyH.nil)
            rw [if_pos (by rfl)]
            refine wp_alloc M rfl rtX ?_
            clear M
            intro k7 W7 M
            refine hK.out _ _ M.below (fun hS => ?_)
            clear hK hS
            try simp only [Act.put, List.setIfInBounds_toArray, List.set_cons_zero, List.set_cons_succ]
            refine wpAnyH_ready (rs := [27]) (by kernel_rfl) (by simp) ?_
            refine AllReadyH.cons rfl (fun K hK => ?_) AllReadyH.nil
            rw [if_pos (by rfl)]
            refine wp_put M _ _ rfl rtX 0 _ rfl rfl rfl rfl rfl (by simp [Value.oneCell']) ?_
            clear M
            intro W8 M
            simp only [List.set_cons_zero, List.set_cons_succ] at M
            refine hK.out _ _ M.below (fun hS => ?_)
            clear hK hS
            try simp only [Act.put, List.setIfInBounds_toArray, List.set_cons_zero, List.set_cons_succ]
            refine wpAnyH_ready (rs := [28]) (by kernel_rfl) (by simp) ?_
            refine AllReadyH.cons rfl (fun K hK => ?_) AllReadyH.nil
            rw [if_pos (by rfl)]
            refine wp_put M _ _ rfl rtX 1 _ rfl rfl rfl rfl rfl (by simp [Value.oneCell']) ?_
            clear M
            intro W8 M
            simp only [List.set_cons_zero, List.set_cons_succ] at M
            refine hK.out _ _ M.below (fun hS => ?_)
            clear hK hS
            try simp only [Act.put, List.setIfInBounds_toArray, List.set_cons_zero, List.set_cons_succ]
            refine wpAnyH_done (by kernel_rfl) ?_ _
            have y7 := M.get (.head _)
            have y8 := M.get (.tail _ (.head _))
            have n7 := M.ge (.head _)
            have n8 := M.ge (.tail _ (.head _))
            have O9 := O.later M.below
            go_wp2_with (first
              | ((with_reducible show wpList _ _ _ (Oper.mk _ (Op.load 38 (Operand.tmp 7)) _ _ _ _ :: _) _ _); refine wpList_loadw33 (by rfl) _ rfl rfl y7 ?_)
              | ((with_reducible show wpList _ _ _ (Oper.mk _ (Op.store 38 (Operand.tmp 61) _) _ _ _ _ :: _) _ _); refine wpList_ownmnF O9 rfl _ _ rfl h5 v5 o5 g5 rfl rfl ?_; clear O9; intro W9 O9 hfar; have z8 := (hfar k8 (by have := O.lst.lt; omega)).trans y8; clear hfar)
              | ((with_reducible show wpList _ _ _ (Oper.mk _ (Op.load 38 (Operand.tmp 8)) _ _ _ _ :: _) _ _); refine wpList_loadw33 (by rfl) _ rfl rfl z8 ?_)
              | ((with_reducible show wpList _ _ _ (Oper.mk _ (Op.store 38 (Operand.tmp 66) _) _ _ _ _ :: _) _ _); refine wpList_ownmxF O9 rfl _ _ rfl h6 v6 o6 g6 rfl rfl ?_; clear O9; intro W9 O9 hfar))
            go_roundg (gk - 1)
            case measure => have := HI.out; omega
            case rel =>
              have HL := O9.lst
              rw [HTS.out] at HL
              exact ⟨i + 1, by first | rfl | go_num, by have := HI.out; omega, HL, O9.below⟩
        · rw [if_pos (by rfl)]
          refine wp_alloc M rfl rtX ?_
          clear M
          intro k7 W7 M
          refine hK.out _ _ M.below (fun hS => ?_)
          clear hK hS
          try simp only [Act.put, List.setIfInBounds_toArray, List.set_cons_zero, List.set_cons_succ]
          refine wpAnyH_ready (rs := [21, 26]) (by kernel_rfl) (by simp) ?_
          refine (AllReadyH.cons rfl (fun K hK => ?_) (AllReadyH.cons rfl (fun K hK => ?_) AllReadyH.nil))
          · go_simp
            go_wp2_with (go_at_call 43; refine (KS _).mono ?_; rintro e W6 ⟨rfl, b6⟩; replace M := M.later b6)
            refine hK.out _ _ M.below (fun hS => ?_)
            clear hK hS
            try simp only [Act.put, List.setIfInBounds_toArray, List.set_cons_zero, List.set_cons_succ]
            refine anyH_take 22 32 ((.tuple #[exv h5 v5 o5 g5, exv h6 v6 o6 g6])) rfl rfl (by kernel_rfl) (by kernel_rfl) (by kernel_rfl) (fun _ _ _ h => h) (Or.inl ⟨by rfl, by intro w hSw; go_simp⟩) (M.below) ?_
            try simp only [Act.put, List.setIfInBounds_toArray, List.set_cons_zero, List.set_cons_succ]
            refine anyH_take 23 55 (exv h5 v5 o5 g5) rfl rfl (by kernel_rfl) (by kernel_rfl) (by kernel_rfl) (fun _ _ _ h => h) (Or.inl ⟨by rfl, by intro w hSw; go_simp⟩) (M.below) ?_
            try simp only [Act.put, List.setIfInBounds_toArray, List.set_cons_zero, List.set_cons_succ]
            refine anyH_take 24 56 (exv h6 v6 o6 g6) rfl rfl (by kernel_rfl) (by kernel_rfl) (by kernel_rfl) (fun _ _ _ h => h) (Or.inl ⟨by rfl, by intro w hSw; go_simp⟩) (M.below) ?_
            try simp only [Act.put, List.setIfInBounds_toArray, List.set_cons_zero, List.set_cons_succ]
            refine wpAnyH_ready (rs := [26]) (by kernel_rfl) (by simp) ?_
            refine (AllReadyH.cons rfl (fun K hK => ?_) AllReadyH.nil)
            rw [if_pos (by rfl)]
            refine wp_alloc M rfl rtX ?_
            clear M
            intro k8 W7 M
            refine hK.out _ _ M.below (fun hS => ?_)
            clear hK hS
            try simp only [Act.put, List.setIfInBounds_toArray, List.set_cons_zero, List.set_cons_succ]
            refine wpAnyH_ready (rs := [27]) (by kernel_rfl) (by simp) ?_
            refine AllReadyH.cons rfl (fun K hK => ?_) AllReadyH.nil
            rw [if_pos (by rfl)]
            refine wp_put M _ _ rfl rtX 1 _ rfl rfl rfl rfl rfl (by simp [Value.oneCell']) ?_
            clear M
            intro W8 M
            simp only [List.set_cons_zero, List.set_cons_succ] at M
            refine hK.out _ _ M.below (fun hS => ?_)
            clear hK hS
            try simp only [Act.put, List.setIfInBounds_toArray, List.set_cons_zero, List.set_cons_succ]
            refine wpAnyH_ready (rs := [28]) (by kernel_rfl) (by simp) ?_
            refine AllReadyH.cons rfl (fun K hK => ?_) AllReadyH.nil
            rw [if_pos (by rfl)]
            refine wp_put M _ _ rfl rtX 0 _ rfl rfl rfl rfl rfl (by simp [Value.oneCell']) ?_
            clear M
            intro W8 M
            simp only [List.set_cons_zero, List.set_cons_succ] at M
            refine hK.out _ _ M.below (fun hS => ?_)
            clear hK hS
            try simp only [Act.put, List.setIfInBounds_toArray, List.set_cons_zero, List.set_cons_succ]
            refine wpAnyH_done (by kernel_rfl) ?_ _
            have y7 := M.get (.tail _ (.head _))
            have y8 := M.get (.head _)
            have n7 := M.ge (.tail _ (.head _))
            have n8 := M.ge (.head _)
            have O9 := O.later M.below
            go_wp2_with (first
              | ((with_reducible show wpList _ _ _ (Oper.mk _ (Op.load 38 (Operand.tmp 7)) _ _ _ _ :: _) _ _); refine wpList_loadw33 (by rfl) _ rfl rfl y7 ?_)
              | ((with_reducible show wpList _ _ _ (Oper.mk _ (Op.store 38 (Operand.tmp 61) _) _ _ _ _ :: _) _ _); refine wpList_ownmnF O9 rfl _ _ rfl h5 v5 o5 g5 rfl rfl ?_; clear O9; intro W9 O9 hfar; have z8 := (hfar k8 (by have := O.lst.lt; omega)).trans y8; clear hfar)
              | ((with_reducible show wpList _ _ _ (Oper.mk _ (Op.load 38 (Operand.tmp 8)) _ _ _ _ :: _) _ _); refine wpList_loadw33 (by rfl) _ rfl rfl z8 ?_)
              | ((with_reducible show wpList _ _ _ (Oper.mk _ (Op.store 38 (Operand.tmp 66) _) _ _ _ _ :: _) _ _); refine wpList_ownmxF O9 rfl _ _ rfl h6 v6 o6 g6 rfl rfl ?_; clear O9; intro W9 O9 hfar))
            go_roundg (gk - 1)
            case measure => have := HI.out; omega
            case rel =>
              have HL := O9.lst
              rw [HTS.out] at HL
              exact ⟨i + 1, by first | rfl | go_num, by have := HI.out; omega, HL, O9.below⟩
          · rw [if_pos (by rfl)]
            refine wp_alloc M rfl rtX ?_
            clear M
            intro k8 W7 M
            refine hK.out _ _ M.below (fun hS => ?_)
            clear hK hS
            try simp only [Act.put, List.setIfInBounds_toArray, List.set_cons_zero, List.set_cons_succ]
            refine wpAnyH_ready (rs := [21]) (by kernel_rfl) (by simp) ?_
            refine (AllReadyH.cons rfl (fun K hK => ?_) AllReadyH.nil)
            go_simp
            go_wp2_with (go_at_call 43; refine (KS _).mono ?_; rintro e W6 ⟨rfl, b6⟩; replace M := M.later b6)
            refine hK.out _ _ M.below (fun hS => ?_)
            clear hK hS
            try simp only [Act.put, List.setIfInBounds_toArray, List.set_cons_zero, List.set_cons_succ]
            refine anyH_take 22 32 ((.tuple #[exv h5 v5 o5 g5, exv h6 v6 o6 g6])) rfl rfl (by kernel_rfl) (by kernel_rfl) (by kernel_rfl) (fun _ _ _ h => h) (Or.inl ⟨by rfl, by intro w hSw; go_simp⟩) (M.below) ?_
            try simp only [Act.put, List.setIfInBounds_toArray, List.set_cons_zero, List.set_cons_succ]
            refine anyH_take 23 55 (exv h5 v5 o5 g5) rfl rfl (by kernel_rfl) (by kernel_rfl) (by kernel_rfl) (fun _ _ _ h => h) (Or.inl ⟨by rfl, by intro w hSw; go_simp⟩) (M.below) ?_
            try simp only [Act.put, List.setIfInBounds_toArray, List.set_cons_zero, List.set_cons_succ]
            refine anyH_take 24 56 (exv h6 v6 o6 g6) rfl rfl (by kernel_rfl) (by kernel_rfl) (by kernel_rfl) (fun _ _ _ h => h) (Or.inl ⟨by rfl, by intro w hSw; go_simp⟩) (M.below) ?_
            try simp only [Act.put, List.setIfInBounds_toArray, List.set_cons_zero, List.set_cons_succ]
            refine wpAnyH_ready (rs := [27]) (by kernel_rfl) (by simp) ?_
            refine AllReadyH.cons rfl (fun K hK => ?_) AllReadyH.nil
            rw [if_pos (by rfl)]
            refine wp_put M _ _ rfl rtX 1 _ rfl rfl rfl rfl rfl (by simp [Value.oneCell']) ?_
            clear M
            intro W8 M
            simp only [List.set_cons_zero, List.set_cons_succ] at M
            refine hK.out _ _ M.below (fun hS => ?_)
            clear hK hS
            try simp only [Act.put, List.setIfInBounds_toArray, List.set_cons_zero, List.set_cons_succ]
            refine wpAnyH_ready (rs := [28]) (by kernel_rfl) (by simp) ?_
            refine AllReadyH.cons rfl (fun K hK => ?_) AllReadyH.nil
            rw [if_pos (by rfl)]
            refine wp_put M _ _ rfl rtX 0 _ rfl rfl rfl rfl rfl (by simp [Value.oneCell']) ?_
            clear M
            intro W8 M
            simp only [List.set_cons_zero, List.set_cons_succ] at M
            refine hK.out _ _ M.below (fun hS => ?_)
            clear hK hS
            try simp only [Act.put, List.setIfInBounds_toArray, List.set_cons_zero, List.set_cons_succ]
            refine wpAnyH_done (by kernel_rfl) ?_ _
            have y7 := M.get (.tail _ (.head _))
            have y8 := M.get (.head _)
            have n7 := M.ge (.tail _ (.head _))
            have n8 := M.ge (.head _)
            have O9 := O.later M.below
            go_wp2_with (first
              | ((with_reducible show wpList _ _ _ (Oper.mk _ (Op.load 38 (Operand.tmp 7)) _ _ _ _ :: _) _ _); refine wpList_loadw33 (by rfl) _ rfl rfl y7 ?_)
              | ((with_reducible show wpList _ _ _ (Oper.mk _ (Op.store 38 (Operand.tmp 61) _) _ _ _ _ :: _) _ _); refine wpList_ownmnF O9 rfl _ _ rfl h5 v5 o5 g5 rfl rfl ?_; clear O9; intro W9 O9 hfar; have z8 := (hfar k8 (by have := O.lst.lt; omega)).trans y8; clear hfar)
              | ((with_reducible show wpList _ _ _ (Oper.mk _ (Op.load 38 (Operand.tmp 8)) _ _ _ _ :: _) _ _); refine wpList_loadw33 (by rfl) _ rfl rfl z8 ?_)
              | ((with_reducible show wpList _ _ _ (Oper.mk _ (Op.store 38 (Operand.tmp 66) _) _ _ _ _ :: _) _ _); refine wpList_ownmxF O9 rfl _ _ rfl h6 v6 o6 g6 rfl rfl ?_; clear O9; intro W9 O9 hfar))
            go_roundg (gk - 1)
            case measure => have := HI.out; omega
            case rel =>
              have HL := O9.lst
              rw [HTS.out] at HL
              exact ⟨i + 1, by first | rfl | go_num, by have := HI.out; omega, HL, O9.below⟩
        · rw [if_pos (by rfl)]
          refine wp_alloc M rfl rtX ?_
          clear M
          intro k8 W7 M
          refine hK.out _ _ M.below (fun hS => ?_)
          clear hK hS
          try simp only [Act.put, List.setIfInBounds_toArray, List.set_cons_zero, List.set_cons_succ]
          refine wpAnyH_ready (rs := [21, 25]) (by kernel_rfl) (by simp) ?_
          refine (AllReadyH.cons rfl (fun K hK => ?_) (AllReadyH.cons rfl (fun K hK => ?_) AllReadyH.nil))
          · go_simp
            go_wp2_with (go_at_call 43; refine (KS _).mono ?_; rintro e W6 ⟨rfl, b6⟩; replace M := M.later b6)
            refine hK.out _ _ M.below (fun hS => ?_)
            clear hK hS
            try simp only [Act.put, List.setIfInBounds_toArray, List.set_cons_zero, List.set_cons_succ]
            refine anyH_take 22 32 ((.tuple #[exv h5 v5 o5 g5, exv h6 v6 o6 g6])) rfl rfl (by kernel_rfl) (by kernel_rfl) (by kernel_rfl) (fun _ _ _ h => h) (Or.inl ⟨by rfl, by intro w hSw; go_simp⟩) (M.below) ?_
            try simp only [Act.put, List.setIfInBounds_toArray, List.set_cons_zero, List.set_cons_succ]
            refine anyH_take 23 55 (exv h5 v5 o5 g5) rfl rfl (by kernel_rfl) (by kernel_rfl) (by kernel_rfl) (fun _ _ _ h => h) (Or.inl ⟨by rfl, by intro w hSw; go_simp⟩) (M.below) ?_
            try simp only [Act.put, List.setIfInBounds_toArray, List.set_cons_zero, List.set_cons_succ]
            refine anyH_take 24 56 (exv h6 v6 o6 g6) rfl rfl (by kernel_rfl) (by kernel_rfl) (by kernel_rfl) (fun _ _ _ h => h) (Or.inl ⟨by rfl, by intro w hSw; go_simp⟩) (M.below) ?_
            try simp only [Act.put, List.setIfInBounds_toArray, List.set_cons_zero, List.set_cons_succ]
            refine wpAnyH_ready (rs := [25]) (by kernel_rfl) (by simp) ?_
            refine (AllReadyH.cons rfl (fun K hK => ?_) AllReadyH.nil)
            rw [if_pos (by rfl)]
            refine wp_alloc M rfl rtX ?_
            clear M
            intro k7 W7 M
            refine hK.out _ _ M.below (fun hS => ?_)
            clear hK hS
            try simp only [Act.put, List.setIfInBounds_toArray, List.set_cons_zero, List.set_cons_succ]
            refine wpAnyH_ready (rs := [27]) (by kernel_rfl) (by simp) ?_
            refine AllReadyH.cons rfl (fun K hK => ?_) AllReadyH.nil
            rw [if_pos (by rfl)]
            refine wp_put M _ _ rfl rtX 0 _ rfl rfl rfl rfl rfl (by simp [Value.oneCell']) ?_
            clear M
            intro W8 M
            simp only [List.set_cons_zero, List.set_cons_succ] at M
            refine hK.out _ _ M.below (fun hS => ?_)
            clear hK hS
            try simp only [Act.put, List.setIfInBounds_toArray, List.set_cons_zero, List.set_cons_succ]
            refine wpAnyH_ready (rs := [28]) (by kernel_rfl) (by simp) ?_
            refine AllReadyH.cons rfl (fun K hK => ?_) AllReadyH.nil
            rw [if_pos (by rfl)]
            refine wp_put M _ _ rfl rtX 1 _ rfl rfl rfl rfl rfl (by simp [Value.oneCell']) ?_
            clear M
            intro W8 M
            simp only [List.set_cons_zero, List.set_cons_succ] at M
            refine hK.out _ _ M.below (fun hS => ?_)
            clear hK hS
            try simp only [Act.put, List.setIfInBounds_toArray, List.set_cons_zero, List.set_cons_succ]
            refine wpAnyH_done (by kernel_rfl) ?_ _
            have y7 := M.get (.head _)
            have y8 := M.get (.tail _ (.head _))
            have n7 := M.ge (.head _)
            have n8 := M.ge (.tail _ (.head _))
            have O9 := O.later M.below
            go_wp2_with (first
              | ((with_reducible show wpList _ _ _ (Oper.mk _ (Op.load 38 (Operand.tmp 7)) _ _ _ _ :: _) _ _); refine wpList_loadw33 (by rfl) _ rfl rfl y7 ?_)
              | ((with_reducible show wpList _ _ _ (Oper.mk _ (Op.store 38 (Operand.tmp 61) _) _ _ _ _ :: _) _ _); refine wpList_ownmnF O9 rfl _ _ rfl h5 v5 o5 g5 rfl rfl ?_; clear O9; intro W9 O9 hfar; have z8 := (hfar k8 (by have := O.lst.lt; omega)).trans y8; clear hfar)
              | ((with_reducible show wpList _ _ _ (Oper.mk _ (Op.load 38 (Operand.tmp 8)) _ _ _ _ :: _) _ _); refine wpList_loadw33 (by rfl) _ rfl rfl z8 ?_)
              | ((with_reducible show wpList _ _ _ (Oper.mk _ (Op.store 38 (Operand.tmp 66) _) _ _ _ _ :: _) _ _); refine wpList_ownmxF O9 rfl _ _ rfl h6 v6 o6 g6 rfl rfl ?_; clear O9; intro W9 O9 hfar))
            go_roundg (gk - 1)
            case measure => have := HI.out; omega
            case rel =>
              have HL := O9.lst
              rw [HTS.out] at HL
              exact ⟨i + 1, by first | rfl | go_num, by have := HI.out; omega, HL, O9.below⟩
          · rw [if_pos (by rfl)]
            refine wp_alloc M rfl rtX ?_
            clear M
            intro k7 W7 M
            refine hK.out _ _ M.below (fun hS => ?_)
            clear hK hS
            try simp only [Act.put, List.setIfInBounds_toArray, List.set_cons_zero, List.set_cons_succ]
            refine wpAnyH_ready (rs := [21]) (by kernel_rfl) (by simp) ?_
            refine (AllReadyH.cons rfl (fun K hK => ?_) AllReadyH.nil)
            go_simp
            go_wp2_with (go_at_call 43; refine (KS _).mono ?_; rintro e W6 ⟨rfl, b6⟩; replace M := M.later b6)
            refine hK.out _ _ M.below (fun hS => ?_)
            clear hK hS
            try simp only [Act.put, List.setIfInBounds_toArray, List.set_cons_zero, List.set_cons_succ]
            refine anyH_take 22 32 ((.tuple #[exv h5 v5 o5 g5, exv h6 v6 o6 g6])) rfl rfl (by kernel_rfl) (by kernel_rfl) (by kernel_rfl) (fun _ _ _ h => h) (Or.inl ⟨by rfl, by intro w hSw; go_simp⟩) (M.below) ?_
            try simp only [Act.put, List.setIfInBounds_toArray, List.set_cons_zero, List.set_cons_succ]
            refine anyH_take 23 55 (exv h5 v5 o5 g5) rfl rfl (by kernel_rfl) (by kernel_rfl) (by kernel_rfl) (fun _ _ _ h => h) (Or.inl ⟨by rfl, by intro w hSw; go_simp⟩) (M.below) ?_
            try simp only [Act.put, List.setIfInBounds_toArray, List.set_cons_zero, List.set_cons_succ]
            refine anyH_take 24 56 (exv h6 v6 o6 g6) rfl rfl (by kernel_rfl) (by kernel_rfl) (by kernel_rfl) (fun _ _ _ h => h) (Or.inl ⟨by rfl, by intro w hSw; go_simp⟩) (M.below) ?_
            try simp only [Act.put, List.setIfInBounds_toArray, List.set_cons_zero, List.set_cons_succ]
            refine wpAnyH_ready (rs := [27]) (by kernel_rfl) (by simp) ?_
            refine AllReadyH.cons rfl (fun K hK => ?_) AllReadyH.nil
            rw [if_pos (by rfl)]
            refine wp_put M _ _ rfl rtX 0 _ rfl rfl rfl rfl rfl (by simp [Value.oneCell']) ?_
            clear M
            intro W8 M
            simp only [List.set_cons_zero, List.set_cons_succ] at M
            refine hK.out _ _ M.below (fun hS => ?_)
            clear hK hS
            try simp only [Act.put, List.setIfInBounds_toArray, List.set_cons_zero, List.set_cons_succ]
            refine wpAnyH_ready (rs := [28]) (by kernel_rfl) (by simp) ?_
            refine AllReadyH.cons rfl (fun K hK => ?_) AllReadyH.nil
            rw [if_pos (by rfl)]
            refine wp_put M _ _ rfl rtX 1 _ rfl rfl rfl rfl rfl (by simp [Value.oneCell']) ?_
            clear M
            intro W8 M
            simp only [List.set_cons_zero, List.set_cons_succ] at M
            refine hK.out _ _ M.below (fun hS => ?_)
            clear hK hS
            try simp only [Act.put, List.setIfInBounds_toArray, List.set_cons_zero, List.set_cons_succ]
            refine wpAnyH_done (by kernel_rfl) ?_ _
            have y7 := M.get (.head _)
            have y8 := M.get (.tail _ (.head _))
            have n7 := M.ge (.head _)
            have n8 := M.ge (.tail _ (.head _))
            have O9 := O.later M.below
            go_wp2_with (first
              | ((with_reducible show wpList _ _ _ (Oper.mk _ (Op.load 38 (Operand.tmp 7)) _ _ _ _ :: _) _ _); refine wpList_loadw33 (by rfl) _ rfl rfl y7 ?_)
              | ((with_reducible show wpList _ _ _ (Oper.mk _ (Op.store 38 (Operand.tmp 61) _) _ _ _ _ :: _) _ _); refine wpList_ownmnF O9 rfl _ _ rfl h5 v5 o5 g5 rfl rfl ?_; clear O9; intro W9 O9 hfar; have z8 := (hfar k8 (by have := O.lst.lt; omega)).trans y8; clear hfar)
              | ((with_reducible show wpList _ _ _ (Oper.mk _ (Op.load 38 (Operand.tmp 8)) _ _ _ _ :: _) _ _); refine wpList_loadw33 (by rfl) _ rfl rfl z8 ?_)
              | ((with_reducible show wpList _ _ _ (Oper.mk _ (Op.store 38 (Operand.tmp 66) _) _ _ _ _ :: _) _ _); refine wpList_ownmxF O9 rfl _ _ rfl h6 v6 o6 g6 rfl rfl ?_; clear O9; intro W9 O9 hfar))
            go_roundg (gk - 1)
            case measure => have := HI.out; omega
            case rel =>
              have HL := O9.lst
              rw [HTS.out] at HL
              exact ⟨i + 1, by first | rfl | go_num, by have := HI.out; omega, HL, O9.below⟩
    case neg =>
      have hiI : ¬ (i : Int) < (n : Int) := by omega
      have hin : i = n := by omega
      rw [hin, tkN_all HL0.out] at L
      clear hin hi hgk
      go_wp2
      go_ret
      exact ⟨a1, c1, rfl, L, HFO.out, B⟩
end Go.Proofs.YtoeebofappbneaaGreat

namespace Go.Proofs.YtoeebofappbneaaGreat
open Go.ChangeShapes Go.WideShapes Go.ChangeAt Go.RowKit Go.Maps Go.Shelf
set_option linter.unusedVariables false
set_option linter.unusedSimpArgs false

theorem fin_T {w W : World} {a : Option Addr} {n cap : Nat} {l : List ST} (hn : l.length = n) (L : LstT W a n cap l) (hg : ∀ g off, a = some ⟨g, off, none⟩ → w.heap.size ≤ g) (B : Below w.heap.size w W) : AnsT w l (.returned (.slice a n cap)) W := by
  subst hn
  exact ⟨a, cap, rfl, L, hg, B⟩
theorem hr_none {l : List ST} {name : ByteArray} (h : plc name l = none) (id : Int) (x y : E.EX) : hrS l id name x y = l := by unfold hrS; rw [h]
theorem hr_some {l : List ST} {name : ByteArray} {i : Nat} (h : plc name l = some i) (id : Int) (x y : E.EX) : hrS l id name x y = l.set i (hearT id x y (l.getD i ST.z)) := by unfold hrS; rw [h]
theorem hr_other {id : Int} {x y : E.EX} {s : ST} (h : s.c.kd ≠ 4) : hearT id x y s = s := if_neg h
theorem rhear_wrap {id : Int} {a b c d : E.EX} (f1 : E.fitB a = true) (f2 : E.fitB b = true) (f3 : E.fitB c = true) (f4 : E.fitB d = true) : ∀ W, Calls Tryz.prog 44 #[.int .i64 id, a.val, b.val, c.val, d.val] W fun e w' => e = .returned (E.two (E.hearX id a b c d)) ∧ Below W.heap.size W w' := fun W => by
  obtain ⟨h1, v1, o1, g1⟩ := a
  obtain ⟨h2, v2, o2, g2⟩ := b
  obtain ⟨h3, v3, o3, g3⟩ := c
  obtain ⟨h4, v4, o4, g4⟩ := d
  exact E.rhear_any id h1 v1 o1 g1 h2 v2 o2 g2 h3 v3 o3 g3 h4 v4 o4 g4 W f1 f2 f3 f4
set_option maxRecDepth 100000 in
set_option maxHeartbeats 16000000 in
theorem rhear_anyS (a : Option Addr) (cap : Nat) (l : List ST) (id : Int) (name : ByteArray) (h3 : Bool) (v3 o3 g3 : Int) (h4 : Bool) (v4 o4 g4 : Int) (w : World) (hr : RdT w a l.length cap l) (hf : fitL l = true) (F3 : E.fitB ⟨h3, v3, o3, g3⟩ = true) (F4 : E.fitB ⟨h4, v4, o4, g4⟩ = true) : Calls Tryz.prog 19 #[.slice a l.length cap, .int .i64 id, .string name, exv h3 v3 o3 g3, exv h4 v4 o4 g4] w (AnsT w (hrS l id name ⟨h3, v3, o3, g3⟩ ⟨h4, v4, o4, g4⟩)) := by
  have M := Mem.nil w
  cases hp : plc name l with
  | none =>
    have HPI : Hid (plI name l = -1) := plI_none hp
    rw [hr_none hp]
    clear hp hf F3 F4
    go_enter Tryz.func19, Tryz.ntmps19
    go_wp2_with (first
      | ((with_reducible show wpList _ _ _ (Oper.mk (some 8) (Op.box 38 _) _ _ _ _ :: _) _ _); refine wpList_box M rfl _ rfl _ rfl ?_; clear M; intro k8 W M)
      | ((with_reducible show wpList _ _ _ (Oper.mk (some 9) (Op.box 38 _) _ _ _ _ :: _) _ _); refine wpList_box M rfl _ rfl _ rfl ?_; clear M; intro k9 W M)
      | (go_at_call 7; refine (rcopy_any a cap l _ (hr.below M.below)).mono ?_; rintro e W1 ⟨a1, c1, rfl, L1, fo1, b1⟩; have hMS := M.below.size; replace M := M.later b1)
      | (go_at_call 38; refine (rplace_any a _ cap l name _ (hr.below M.below)).mono ?_; rintro e W2 ⟨rfl, b2⟩; replace M := M.later b2; rw [HPI.out]))
    go_ret
    exact fin_T rfl (L1.below b2) (fun g off e => Nat.le_trans hMS (fo1 g off e)) M.below
  | some i =>
    obtain ⟨hi, hpp, _⟩ := plc_at hp
    have hff := ok_fits (ok_at hf hi)
    have HPI : Hid (plI name l = (i : Int)) := plI_some hp
    have HI : Hid (i < l.length) := hi
    rw [hr_some hp]
    have hiI : (i : Int) < (l.length : Int) := by omega
    have hi0 : ¬ (i : Int) < 0 := by omega
    have hi1 : (0 : Int) ≤ (i : Int) := by omega
    have hset : l.set i (l.getD i ST.z) = l := set_getD hi
    obtain ⟨⟨⟨nm, ep, mr, al, kd, sc⟩, hv, iv, ⟨h1, v1, o1, g1⟩, ⟨h2, v2, o2, g2⟩⟩, hri⟩ : ∃ r, l.getD i ST.z = r := ⟨_, rfl⟩
    have HX : Hid (l.getD i ST.z = ⟨⟨nm, ep, mr, al, kd, sc⟩, hv, iv, ⟨h1, v1, o1, g1⟩, ⟨h2, v2, o2, g2⟩⟩) := hri
    rw [hri] at hset hff ⊢
    dsimp only at hff
    have HSET : Hid (l.set i ⟨⟨nm, ep, mr, al, kd, sc⟩, hv, iv, ⟨h1, v1, o1, g1⟩, ⟨h2, v2, o2, g2⟩⟩ = l) := hset
    clear hp hpp hset hri hf hi
    by_cases h40 : kd = 4
    case neg =>
      rw [hr_other (s := ⟨⟨nm, ep, mr, al, kd, sc⟩, hv, iv, ⟨h1, v1, o1, g1⟩, ⟨h2, v2, o2, g2⟩⟩) h40, HSET.out]
      have h4b : (kd == 4) = false := by simpa using h40
      clear h40 hff F3 F4
      go_enter Tryz.func19, Tryz.ntmps19
      go_wp2_with (first
      | ((with_reducible show wpList _ _ _ (Oper.mk (some 8) (Op.box 38 _) _ _ _ _ :: _) _ _); refine wpList_box M rfl _ rfl _ rfl ?_; clear M; intro k8 W M)
      | ((with_reducible show wpList _ _ _ (Oper.mk (some 9) (Op.box 38 _) _ _ _ _ :: _) _ _); refine wpList_box M rfl _ rfl _ rfl ?_; clear M; intro k9 W M)
      | (go_at_call 7; refine (rcopy_any a cap l _ (hr.below M.below)).mono ?_; rintro e W1 ⟨a1, c1, rfl, L1, fo1, b1⟩; have hMS := M.below.size; replace M := M.later b1)
      | (go_at_call 38; refine (rplace_any a _ cap l name _ (hr.below M.below)).mono ?_; rintro e W2 ⟨rfl, b2⟩; replace M := M.later b2; rw [HPI.out]; obtain ⟨g, off, rfl⟩ := lst_addr L1 HI.out; have O := OwnI.mk0 (i := i) M.below (Nat.le_trans hMS (fo1 g off rfl)) (L1.below b2) HI.out; rw [HX.out] at O)
      | ((with_reducible show wpList _ _ _ (Oper.mk _ (Op.load 3 (Operand.tmp 27)) _ _ _ _ :: _) _ _); refine wpList_cell3w (by rfl) _ rfl _ rfl (O.range 4 _ rfl) ?_))
      go_ret
      have HL := O.lst
      rw [HSET.out] at HL
      exact fin_T rfl HL (fun g2 off2 e => by cases e; exact O.ge) O.below
    case pos =>
      subst h40
      have KS := rhear_wrap (id := id) hff.1 hff.2.1 F3 F4
      obtain ⟨⟨⟨h5, v5, o5, g5⟩, ⟨h6, v6, o6, g6⟩⟩, h56⟩ : ∃ p, E.hearX id ⟨h1, v1, o1, g1⟩ ⟨h2, v2, o2, g2⟩ ⟨h3, v3, o3, g3⟩ ⟨h4, v4, o4, g4⟩ = p := ⟨_, rfl⟩
      have HT : hearT id ⟨h3, v3, o3, g3⟩ ⟨h4, v4, o4, g4⟩ ⟨⟨nm, ep, mr, al, 4, sc⟩, hv, iv, ⟨h1, v1, o1, g1⟩, ⟨h2, v2, o2, g2⟩⟩ = ⟨⟨nm, ep, mr, al, 4, sc⟩, hv, iv, ⟨h5, v5, o5, g5⟩, ⟨h6, v6, o6, g6⟩⟩ := by
        unfold hearT
        rw [if_pos rfl]
        dsimp only
        rw [h56]
      rw [HT]
      rw [h56] at KS
      unfold E.two at KS
      dsimp only at KS
      clear HT h56 hff F3 F4
      go_enter Tryz.func19, Tryz.ntmps19
      go_wp2_with (first
        | ((with_reducible show wpList _ _ _ (Oper.mk (some 8) (Op.box 38 _) _ _ _ _ :: _) _ _); refine wpList_box M rfl _ rfl _ rfl ?_; clear M; intro k8 W M)
        | ((with_reducible show wpList _ _ _ (Oper.mk (some 9) (Op.box 38 _) _ _ _ _ :: _) _ _); refine wpList_box M rfl _ rfl _ rfl ?_; clear M; intro k9 W M)
        | (go_at_call 7; refine (rcopy_any a cap l _ (hr.below M.below)).mono ?_; rintro e W1 ⟨a1, c1, rfl, L1, fo1, b1⟩; have hMS := M.below.size; replace M := M.later b1)
        | (go_at_call 38; refine (rplace_any a _ cap l name _ (hr.below M.below)).mono ?_; rintro e W2 ⟨rfl, b2⟩; replace M := M.later b2; rw [HPI.out]; obtain ⟨g, off, rfl⟩ := lst_addr L1 HI.out; have O := OwnI.mk0 (i := i) M.below (Nat.le_trans hMS (fo1 g off rfl)) (L1.below b2) HI.out; rw [HX.out] at O)
        | ((with_reducible show wpList _ _ _ (Oper.mk _ (Op.load 3 (Operand.tmp 27)) _ _ _ _ :: _) _ _); refine wpList_cell3w (by rfl) _ rfl _ rfl (O.range 4 _ rfl) ?_)
        | fail)
      obtain ⟨W0, hW0⟩ : ∃ W0 : World, W0 = W2 := ⟨_, rfl⟩
      subst hW0
      have KO : ∀ X, Below W0.heap.size W0 X → X.rangeAt g (off + i * 16) (ST.cells ⟨⟨nm, ep, mr, al, 4, sc⟩, hv, iv, ⟨h1, v1, o1, g1⟩, ⟨h2, v2, o2, g2⟩⟩) := fun X h => range_later O.range O.lst.lt h
      have K8 : ∀ X, Below W0.heap.size W0 X → X.heap[k8]? = some (.cells #[.bool h3, .int .i64 v3, .int .i64 o3, .int .i64 g3] 38 (0, 0)) := fun X h => (h.block k8 (M.lt (.tail _ (.head _)))).trans (M.get (.tail _ (.head _)))
      have K9 : ∀ X, Below W0.heap.size W0 X → X.heap[k9]? = some (.cells #[.bool h4, .int .i64 v4, .int .i64 o4, .int .i64 g4] 38 (0, 0)) := fun X h => (h.block k9 (M.lt (.head _))).trans (M.get (.head _))
      have M := Mem.nil W0
      refine wp_region_any (by kernel_rfl) ?_
      change wpAny _ _ _ _ _ _ _ (World.drew _)
      refine wpAny_narrow (fun W' => Below W0.heap.size W0 W') _ _ _ _ ?_
      replace M := M.drew
      revert M
      generalize World.drew _ = WD
      intro M
      refine anyH_take 0 32 (.int .i64 id) rfl rfl (by kernel_rfl) (by kernel_rfl) (by kernel_rfl) (fun _ _ _ h => h) (Or.inl ⟨by rfl, by intro w hSw; go_simp⟩) (M.below) ?_
      try simp only [Act.put, List.setIfInBounds_toArray, List.set_cons_zero, List.set_cons_succ]
      refine anyH_take 1 33 (.slice (some ⟨g, off, none⟩) l.length c1) rfl rfl (by kernel_rfl) (by kernel_rfl) (by kernel_rfl) (fun _ _ _ h => h) (Or.inl ⟨by rfl, by intro w hSw; go_simp⟩) (M.below) ?_
      try simp only [Act.put, List.setIfInBounds_toArray, List.set_cons_zero, List.set_cons_succ]
      refine anyH_take 2 34 (.int .i64 (i : Int)) rfl rfl (by kernel_rfl) (by kernel_rfl) (by kernel_rfl) (fun _ _ _ h => h) (Or.inl ⟨by rfl, by intro w hSw; go_simp⟩) (M.below) ?_
      try simp only [Act.put, List.setIfInBounds_toArray, List.set_cons_zero, List.set_cons_succ]
      refine anyH_take 3 35 (.pointer (some ⟨g, off + i * 16, none⟩)) rfl rfl (by kernel_rfl) (by kernel_rfl) (by kernel_rfl) (fun _ _ _ h => h) (Or.inl ⟨by rfl, by intro w hSw; go_simp⟩) (M.below) ?_
      try simp only [Act.put, List.setIfInBounds_toArray, List.set_cons_zero, List.set_cons_succ]
      refine anyH_take 4 36 (.pointer (some ⟨g, off + i * 16 + 8, none⟩)) rfl rfl (by kernel_rfl) (by kernel_rfl) (by kernel_rfl) (fun _ _ _ h => h) (Or.inl ⟨by rfl, by intro w hSw; go_simp⟩) (M.below) ?_
      try simp only [Act.put, List.setIfInBounds_toArray, List.set_cons_zero, List.set_cons_succ]
      refine anyH_take 5 37 (exv h1 v1 o1 g1) rfl rfl (by kernel_rfl) (by kernel_rfl) (by kernel_rfl) (fun _ _ _ h => h) (Or.inl ⟨by rfl, fun X hSw => exec_loadX rfl rfl (rng_mn (KO _ hSw))⟩) (M.below) ?_
      try simp only [Act.put, List.setIfInBounds_toArray, List.set_cons_zero, List.set_cons_succ]
      refine anyH_take 6 38 (.slice (some ⟨g, off, none⟩) l.length c1) rfl rfl (by kernel_rfl) (by kernel_rfl) (by kernel_rfl) (fun _ _ _ h => h) (Or.inl ⟨by rfl, by intro w hSw; go_simp⟩) (M.below) ?_
      try simp only [Act.put, List.setIfInBounds_toArray, List.set_cons_zero, List.set_cons_succ]
      refine anyH_take 7 39 (.int .i64 (i : Int)) rfl rfl (by kernel_rfl) (by kernel_rfl) (by kernel_rfl) (fun _ _ _ h => h) (Or.inl ⟨by rfl, by intro w hSw; go_simp⟩) (M.below) ?_
      try simp only [Act.put, List.setIfInBounds_toArray, List.set_cons_zero, List.set_cons_succ]
      refine anyH_take 8 40 (.pointer (some ⟨g, off + i * 16, none⟩)) rfl rfl (by kernel_rfl) (by kernel_rfl) (by kernel_rfl) (fun _ _ _ h => h) (Or.inl ⟨by rfl, by intro w hSw; go_simp⟩) (M.below) ?_
      try simp only [Act.put, List.setIfInBounds_toArray, List.set_cons_zero, List.set_cons_succ]
      refine anyH_take 9 41 (.pointer (some ⟨g, off + i * 16 + 12, none⟩)) rfl rfl (by kernel_rfl) (by kernel_rfl) (by kernel_rfl) (fun _ _ _ h => h) (Or.inl ⟨by rfl, by intro w hSw; go_simp⟩) (M.below) ?_
      try simp only [Act.put, List.setIfInBounds_toArray, List.set_cons_zero, List.set_cons_succ]
      refine anyH_take 10 42 (exv h2 v2 o2 g2) rfl rfl (by kernel_rfl) (by kernel_rfl) (by kernel_rfl) (fun _ _ _ h => h) (Or.inl ⟨by rfl, fun X hSw => exec_loadX rfl rfl (rng_mx (KO _ hSw))⟩) (M.below) ?_
      try simp only [Act.put, List.setIfInBounds_toArray, List.set_cons_zero, List.set_cons_succ]
      refine anyH_take 11 43 (exv h3 v3 o3 g3) rfl rfl (by kernel_rfl) (by kernel_rfl) (by kernel_rfl) (fun _ _ _ h => h) (Or.inl ⟨by rfl, fun X hSw => exec_loadr rfl rtX rfl (K8 _ hSw) rfl⟩) (M.below) ?_
      try simp only [Act.put, List.setIfInBounds_toArray, List.set_cons_zero, List.set_cons_succ]
      refine anyH_take 12 44 (exv h4 v4 o4 g4) rfl rfl (by kernel_rfl) (by kernel_rfl) (by kernel_rfl) (fun _ _ _ h => h) (Or.inl ⟨by rfl, fun X hSw => exec_loadr rfl rtX rfl (K9 _ hSw) rfl⟩) (M.below) ?_
      try simp only [Act.put, List.setIfInBounds_toArray, List.set_cons_zero, List.set_cons_succ]
      refine wpAnyH_ready (rs := [13, 17, 18]) (by kernel_rfl) (by simp) ?_
      refine (AllReadyH.cons rfl (fun K hK => ?_) (AllReadyH.cons rfl (fun K hK => ?_) (AllReadyH.cons rfl (fun K hK => ?_) AllReadyH.nil)))
      · go_simp
        go_wp2_with (go_at_call 44; refine (KS _).mono ?_; rintro e W6 ⟨rfl, b6⟩; replace M := M.later b6)
        refine hK.out _ _ M.below (fun hS => ?_)
        clear hK hS
        try simp only [Act.put, List.setIfInBounds_toArray, List.set_cons_zero, List.set_cons_succ]
        refine anyH_take 14 31 ((.tuple #[exv h5 v5 o5 g5, exv h6 v6 o6 g6])) rfl rfl (by kernel_rfl) (by kernel_rfl) (by kernel_rfl) (fun _ _ _ h => h) (Or.inl ⟨by rfl, by intro w hSw; go_simp⟩) (M.below) ?_
        try simp only [Act.put, List.setIfInBounds_toArray, List.set_cons_zero, List.set_cons_succ]
        refine anyH_take 15 46 (exv h5 v5 o5 g5) rfl rfl (by kernel_rfl) (by kernel_rfl) (by kernel_rfl) (fun _ _ _ h => h) (Or.inl ⟨by rfl, by intro w hSw; go_simp⟩) (M.below) ?_
        try simp only [Act.put, List.setIfInBounds_toArray, List.set_cons_zero, List.set_cons_succ]
        refine anyH_take 16 47 (exv h6 v6 o6 g6) rfl rfl (by kernel_rfl) (by kernel_rfl) (by kernel_rfl) (fun _ _ _ h => h) (Or.inl ⟨by rfl, by intro w hSw; go_simp⟩) (M.below) ?_
        try simp only [Act.put, List.setIfInBounds_toArray, List.set_cons_zero, List.set_cons_succ]
        refine wpAnyH_ready (rs := [17, 18]) (by kernel_rfl) (by simp) ?_
        refine (AllReadyH.cons rfl (fun K hK => ?_) (AllReadyH.cons rfl (fun K hK => ?_) AllReadyH.nil))
        · rw [if_pos (by rfl)]
          refine wp_alloc M rfl rtX ?_
          clear M
          intro k13 W7 M
          refine hK.out _ _ M.below (fun hS => ?_)
          clear hK hS
          try simp only [Act.put, List.setIfInBounds_toArray, List.set_cons_zero, List.set_cons_succ]
          refine wpAnyH_ready (rs := [18]) (by kernel_rfl) (by simp) ?_
          refine (AllReadyH.cons rfl (fun K hK => ?_) AllReadyH.nil)
          rw [if_pos (by rfl)]
          refine wp_alloc M rfl rtX ?_
          clear M
          intro k14 W7 M
          refine hK.out _ _ M.below (fun hS => ?_)
          clear hK hS
          try simp only [Act.put, List.setIfInBounds_toArray, List.set_cons_zero, List.set_cons_succ]
          refine wpAnyH_ready (rs := [19]) (by kernel_rfl) (by simp) ?_
          refine AllReadyH.cons rfl (fun K hK => ?_) AllReadyH.nil
          rw [if_pos (by rfl)]
          refine wp_put M _ _ rfl rtX 1 _ rfl rfl rfl rfl rfl (by simp [Value.oneCell']) ?_
          clear M
          intro W8 M
          simp only [List.set_cons_zero, List.set_cons_succ] at M
          refine hK.out _ _ M.below (fun hS => ?_)
          clear hK hS
          try simp only [Act.put, List.setIfInBounds_toArray, List.set_cons_zero, List.set_cons_succ]
          refine wpAnyH_ready (rs := [20]) (by kernel_rfl) (by simp) ?_
          refine AllReadyH.cons rfl (fun K hK => ?_) AllReadyH.nil
          rw [if_pos (by rfl)]
          refine wp_put M _ _ rfl rtX 0 _ rfl rfl rfl rfl rfl (by simp [Value.oneCell']) ?_
          clear M
          intro W8 M
          simp only [List.set_cons_zero, List.set_cons_succ] at M
          refine hK.out _ _ M.below (fun hS => ?_)
          clear hK hS
          try simp only [Act.put, List.setIfInBounds_toArray, List.set_cons_zero, List.set_cons_succ]
          refine wpAnyH_done (by kernel_rfl) ?_ _
          have y13 := M.get (.tail _ (.head _))
          have y14 := M.get (.head _)
          have n13 := M.ge (.tail _ (.head _))
          have n14 := M.ge (.head _)
          have O9 := O.later M.below
          go_wp2_with (first
            | ((with_reducible show wpList _ _ _ (Oper.mk _ (Op.load 38 (Operand.tmp 13)) _ _ _ _ :: _) _ _); refine wpList_loadw33 (by rfl) _ rfl rfl y13 ?_)
            | ((with_reducible show wpList _ _ _ (Oper.mk _ (Op.store 38 (Operand.tmp 52) _) _ _ _ _ :: _) _ _); refine wpList_ownmnF O9 rfl _ _ rfl h5 v5 o5 g5 rfl rfl ?_; clear O9; intro W9 O9 hfar; have z14 := (hfar k14 (by have := O.lst.lt; omega)).trans y14; clear hfar)
            | ((with_reducible show wpList _ _ _ (Oper.mk _ (Op.load 38 (Operand.tmp 14)) _ _ _ _ :: _) _ _); refine wpList_loadw33 (by rfl) _ rfl rfl z14 ?_)
            | ((with_reducible show wpList _ _ _ (Oper.mk _ (Op.store 38 (Operand.tmp 57) _) _ _ _ _ :: _) _ _); refine wpList_ownmxF O9 rfl _ _ rfl h6 v6 o6 g6 rfl rfl ?_; clear O9; intro W9 O9 hfar))
          go_ret
          exact fin_T (by rw [List.length_set]) O9.lst (fun g2 off2 e => by cases e; exact O9.ge) O9.below
        · rw [if_pos (by rfl)]
          refine wp_alloc M rfl rtX ?_
          clear M
          intro k14 W7 M
          refine hK.out _ _ M.below (fun hS => ?_)
          clear hK hS
          try simp only [Act.put, List.setIfInBounds_toArray, List.set_cons_zero, List.set_cons_succ]
          refine wpAnyH_ready (rs := [17]) (by kernel_rfl) (by simp) ?_
          refine (AllReadyH.cons rfl (fun K hK => ?_) AllReadyH.nil)
          rw [if_pos (by rfl)]
          refine wp_alloc M rfl rtX ?_
          clear M
          intro k13 W7 M
          refine hK.out _ _ M.below (fun hS => ?_)
          clear hK hS
          try simp only [Act.put, List.setIfInBounds_toArray, List.set_cons_zero, List.set_cons_succ]
          refine wpAnyH_ready (rs := [19]) (by kernel_rfl) (by simp) ?_
          refine AllReadyH.cons rfl (fun K hK => ?_) AllReadyH.nil
          rw [if_pos (by rfl)]
          refine wp_put M _ _ rfl rtX 0 _ rfl rfl rfl rfl rfl (by simp [Value.oneCell']) ?_
          clear M
          intro W8 M
          simp only [List.set_cons_zero, List.set_cons_succ] at M
          refine hK.out _ _ M.below (fun hS => ?_)
          clear hK hS
          try simp only [Act.put, List.setIfInBounds_toArray, List.set_cons_zero, List.set_cons_succ]
          refine wpAnyH_ready (rs := [20]) (by kernel_rfl) (by simp) ?_
          refine AllReadyH.cons rfl (fun K hK => ?_) AllReadyH.nil
          rw [if_pos (by rfl)]
          refine wp_put M _ _ rfl rtX 1 _ rfl rfl rfl rfl rfl (by simp [Value.oneCell']) ?_
          clear M
          intro W8 M
          simp only [List.set_cons_zero, List.set_cons_succ] at M
          refine hK.out _ _ M.below (fun hS => ?_)
          clear hK hS
          try simp only [Act.put, List.setIfInBounds_toArray, List.set_cons_zero, List.set_cons_succ]
          refine wpAnyH_done (by kernel_rfl) ?_ _
          have y13 := M.get (.head _)
          have y14 := M.get (.tail _ (.head _))
          have n13 := M.ge (.head _)
          have n14 := M.ge (.tail _ (.head _))
          have O9 := O.later M.below
          go_wp2_with (first
            | ((with_reducible show wpList _ _ _ (Oper.mk _ (Op.load 38 (Operand.tmp 13)) _ _ _ _ :: _) _ _); refine wpList_loadw33 (by rfl) _ rfl rfl y13 ?_)
            | ((with_reducible show wpList _ _ _ (Oper.mk _ (Op.store 38 (Operand.tmp 52) _) _ _ _ _ :: _) _ _); refine wpList_ownmnF O9 rfl _ _ rfl h5 v5 o5 g5 rfl rfl ?_; clear O9; intro W9 O9 hfar; have z14 := (hfar k14 (by have := O.lst.lt; omega)).trans y14; clear hfar)
            | ((with_reducible show wpList _ _ _ (Oper.mk _ (Op.load 38 (Operand.tmp 14)) _ _ _ _ :: _) _ _); refine wpList_loadw33 (by rfl) _ rfl rfl z14 ?_)
            | ((with_reducible show wpList _ _ _ (Oper.mk _ (Op.store 38 (Operand.tmp 57) _) _ _ _ _ :: _) _ _); refine wpList_ownmxF O9 rfl _ _ rfl h6 v6 o6 g6 rfl rfl ?_; clear O9; intro W9 O9 hfar))
          go_ret
          exact fin_T (by rw [List.length_set]) O9.lst (fun g2 off2 e => by cases e; exact O9.ge) O9.below
      · rw [if_pos (by rfl)]
        refine wp_alloc M rfl rtX ?_
        clear M
        intro k13 W7 M
        refine hK.out _ _ M.below (fun hS => ?_)
        clear hK hS
        try simp only [Act.put, List.setIfInBounds_toArray, List.set_cons_zero, List.set_cons_succ]
        refine wpAnyH_ready (rs := [13, 18]) (by kernel_rfl) (by simp) ?_
        refine (AllReadyH.cons rfl (fun K hK => ?_) (AllReadyH.cons rfl (fun K hK => ?_) AllReadyH.nil))
        · go_simp
          go_wp2_with (go_at_call 44; refine (KS _).mono ?_; rintro e W6 ⟨rfl, b6⟩; replace M := M.later b6)
          refine hK.out _ _ M.below (fun hS => ?_)
          clear hK hS
          try simp only [Act.put, List.setIfInBounds_toArray, List.set_cons_zero, List.set_cons_succ]
          refine anyH_take 14 31 ((.tuple #[exv h5 v5 o5 g5, exv h6 v6 o6 g6])) rfl rfl (by kernel_rfl) (by kernel_rfl) (by kernel_rfl) (fun _ _ _ h => h) (Or.inl ⟨by rfl, by intro w hSw; go_simp⟩) (M.below) ?_
          try simp only [Act.put, List.setIfInBounds_toArray, List.set_cons_zero, List.set_cons_succ]
          refine anyH_take 15 46 (exv h5 v5 o5 g5) rfl rfl (by kernel_rfl) (by kernel_rfl) (by kernel_rfl) (fun _ _ _ h => h) (Or.inl ⟨by rfl, by intro w hSw; go_simp⟩) (M.below) ?_
          try simp only [Act.put, List.setIfInBounds_toArray, List.set_cons_zero, List.set_cons_succ]
          refine anyH_take 16 47 (exv h6 v6 o6 g6) rfl rfl (by kernel_rfl) (by kernel_rfl) (by kernel_rfl) (fun _ _ _ h => h) (Or.inl ⟨by rfl, by intro w hSw; go_simp⟩) (M.below) ?_
          try simp only [Act.put, List.setIfInBounds_toArray, List.set_cons_zero, List.set_cons_succ]
          refine wpAnyH_ready (rs := [18]) (by kernel_rfl) (by simp) ?_
          refine (AllReadyH.cons rfl (fun K hK => ?_) AllReadyH.nil)
          rw [if_pos (by rfl)]
          refine wp_alloc M rfl rtX ?_
          clear M
          intro k14 W7 M
          refine hK.out _ _ M.below (fun hS => ?_)
          clear hK hS
          try simp only [Act.put, List.setIfInBounds_toArray, List.set_cons_zero, List.set_cons_succ]
          refine wpAnyH_ready (rs := [19]) (by kernel_rfl) (by simp) ?_
          refine AllReadyH.cons rfl (fun K hK => ?_) AllReadyH.nil
          rw [if_pos (by rfl)]
          refine wp_put M _ _ rfl rtX 1 _ rfl rfl rfl rfl rfl (by simp [Value.oneCell']) ?_
          clear M
          intro W8 M
          simp only [List.set_cons_zero, List.set_cons_succ] at M
          refine hK.out _ _ M.below (fun hS => ?_)
          clear hK hS
          try simp only [Act.put, List.setIfInBounds_toArray, List.set_cons_zero, List.set_cons_succ]
          refine wpAnyH_ready (rs := [20]) (by kernel_rfl) (by simp) ?_
          refine AllReadyH.cons rfl (fun K hK => ?_) AllReadyH.nil
          rw [if_pos (by rfl)]
          refine wp_put M _ _ rfl rtX 0 _ rfl rfl rfl rfl rfl (by simp [Value.oneCell']) ?_
          clear M
          intro W8 M
          simp only [List.set_cons_zero, List.set_cons_succ] at M
          refine hK.out _ _ M.below (fun hS => ?_)
          clear hK hS
          try simp only [Act.put, List.setIfInBounds_toArray, List.set_cons_zero, List.set_cons_succ]
          refine wpAnyH_done (by kernel_rfl) ?_ _
          have y13 := M.get (.tail _ (.head _))
          have y14 := M.get (.head _)
          have n13 := M.ge (.tail _ (.head _))
          have n14 := M.ge (.head _)
          have O9 := O.later M.below
          go_wp2_with (first
            | ((with_reducible show wpList _ _ _ (Oper.mk _ (Op.load 38 (Operand.tmp 13)) _ _ _ _ :: _) _ _); refine wpList_loadw33 (by rfl) _ rfl rfl y13 ?_)
            | ((with_reducible show wpList _ _ _ (Oper.mk _ (Op.store 38 (Operand.tmp 52) _) _ _ _ _ :: _) _ _); refine wpList_ownmnF O9 rfl _ _ rfl h5 v5 o5 g5 rfl rfl ?_; clear O9; intro W9 O9 hfar; have z14 := (hfar k14 (by have := O.lst.lt; omega)).trans y14; clear hfar)
            | ((with_reducible show wpList _ _ _ (Oper.mk _ (Op.load 38 (Operand.tmp 14)) _ _ _ _ :: _) _ _); refine wpList_loadw33 (by rfl) _ rfl rfl z14 ?_)
            | ((with_reducible show wpList _ _ _ (Oper.mk _ (Op.store 38 (Operand.tmp 57) _) _ _ _ _ :: _) _ _); refine wpList_ownmxF O9 rfl _ _ rfl h6 v6 o6 g6 rfl rfl ?_; clear O9; intro W9 O9 hfar))
          go_ret
          exact fin_T (by rw [List.length_set]) O9.lst (fun g2 off2 e => by cases e; exact O9.ge) O9.below
        · rw [if_pos (by rfl)]
          refine wp_alloc M rfl rtX ?_
          clear M
          intro k14 W7 M
          refine hK.out _ _ M.below (fun hS => ?_)
          clear hK hS
          try simp only [Act.put, List.setIfInBounds_toArray, List.set_cons_zero, List.set_cons_succ]
          refine wpAnyH_ready (rs := [13]) (by kernel_rfl) (by simp) ?_
          refine (AllReadyH.cons rfl (fun K hK => ?_) AllReadyH.nil)
          go_simp
          go_wp2_with (go_at_call 44; refine (KS _).mono ?_; rintro e W6 ⟨rfl, b6⟩; replace M := M.later b6)
          refine hK.out _ _ M.below (fun hS => ?_)
          clear hK hS
          try simp only [Act.put, List.setIfInBounds_toArray, List.set_cons_zero, List.set_cons_succ]
          refine anyH_take 14 31 ((.tuple #[exv h5 v5 o5 g5, exv h6 v6 o6 g6])) rfl rfl (by kernel_rfl) (by kernel_rfl) (by kernel_rfl) (fun _ _ _ h => h) (Or.inl ⟨by rfl, by intro w hSw; go_simp⟩) (M.below) ?_
          try simp only [Act.put, List.setIfInBounds_toArray, List.set_cons_zero, List.set_cons_succ]
          refine anyH_take 15 46 (exv h5 v5 o5 g5) rfl rfl (by kernel_rfl) (by kernel_rfl) (by kernel_rfl) (fun _ _ _ h => h) (Or.inl ⟨by rfl, by intro w hSw; go_simp⟩) (M.below) ?_
          try simp only [Act.put, List.setIfInBounds_toArray, List.set_cons_zero, List.set_cons_succ]
          refine anyH_take 16 47 (exv h6 v6 o6 g6) rfl rfl (by kernel_rfl) (by kernel_rfl) (by kernel_rfl) (fun _ _ _ h => h) (Or.inl ⟨by rfl, by intro w hSw; go_simp⟩) (M.below) ?_
          try simp only [Act.put, List.setIfInBounds_toArray, List.set_cons_zero, List.set_cons_succ]
          refine wpAnyH_ready (rs := [19]) (by kernel_rfl) (by simp) ?_
          refine AllReadyH.cons rfl (fun K hK => ?_) AllReadyH.nil
          rw [if_pos (by rfl)]
          refine wp_put M _ _ rfl rtX 1 _ rfl rfl rfl rfl rfl (by simp [Value.oneCell']) ?_
          clear M
          intro W8 M
          simp only [List.set_cons_zero, List.set_cons_succ] at M
          refine hK.out _ _ M.below (fun hS => ?_)
          clear hK hS
          try simp only [Act.put, List.setIfInBounds_toArray, List.set_cons_zero, List.set_cons_succ]
          refine wpAnyH_ready (rs := [20]) (by kernel_rfl) (by simp) ?_
          refine AllReadyH.cons rfl (fun K hK => ?_) AllReadyH.nil
          rw [if_pos (by rfl)]
          refine wp_put M _ _ rfl rtX 0 _ rfl rfl rfl rfl rfl (by simp [Value.oneCell']) ?_
          clear M
          intro W8 M
          simp only [List.set_cons_zero, List.set_cons_succ] at M
          refine hK.out _ _ M.below (fun hS => ?_)
          clear hK hS
          try simp only [Act.put, List.setIfInBounds_toArray, List.set_cons_zero, List.set_cons_succ]
          refine wpAnyH_done (by kernel_rfl) ?_ _
          have y13 := M.get (.tail _ (.head _))
          have y14 := M.get (.head _)
          have n13 := M.ge (.tail _ (.head _))
          have n14 := M.ge (.head _)
          have O9 := O.later M.below
          go_wp2_with (first
            | ((with_reducible show wpList _ _ _ (Oper.mk _ (Op.load 38 (Operand.tmp 13)) _ _ _ _ :: _) _ _); refine wpList_loadw33 (by rfl) _ rfl rfl y13 ?_)
            | ((with_reducible show wpList _ _ _ (Oper.mk _ (Op.store 38 (Operand.tmp 52) _) _ _ _ _ :: _) _ _); refine wpList_ownmnF O9 rfl _ _ rfl h5 v5 o5 g5 rfl rfl ?_; clear O9; intro W9 O9 hfar; have z14 := (hfar k14 (by have := O.lst.lt; omega)).trans y14; clear hfar)
            | ((with_reducible show wpList _ _ _ (Oper.mk _ (Op.load 38 (Operand.tmp 14)) _ _ _ _ :: _) _ _); refine wpList_loadw33 (by rfl) _ rfl rfl z14 ?_)
            | ((with_reducible show wpList _ _ _ (Oper.mk _ (Op.store 38 (Operand.tmp 57) _) _ _ _ _ :: _) _ _); refine wpList_ownmxF O9 rfl _ _ rfl h6 v6 o6 g6 rfl rfl ?_; clear O9; intro W9 O9 hfar))
          go_ret
          exact fin_T (by rw [List.length_set]) O9.lst (fun g2 off2 e => by cases e; exact O9.ge) O9.below
      · rw [if_pos (by rfl)]
        refine wp_alloc M rfl rtX ?_
        clear M
        intro k14 W7 M
        refine hK.out _ _ M.below (fun hS => ?_)
        clear hK hS
        try simp only [Act.put, List.setIfInBounds_toArray, List.set_cons_zero, List.set_cons_succ]
        refine wpAnyH_ready (rs := [13, 17]) (by kernel_rfl) (by simp) ?_
        refine (AllReadyH.cons rfl (fun K hK => ?_) (AllReadyH.cons rfl (fun K hK => ?_) AllReadyH.nil))
        · go_simp
          go_wp2_with (go_at_call 44; refine (KS _).mono ?_; rintro e W6 ⟨rfl, b6⟩; replace M := M.later b6)
          refine hK.out _ _ M.below (fun hS => ?_)
          clear hK hS
          try simp only [Act.put, List.setIfInBounds_toArray, List.set_cons_zero, List.set_cons_succ]
          refine anyH_take 14 31 ((.tuple #[exv h5 v5 o5 g5, exv h6 v6 o6 g6])) rfl rfl (by kernel_rfl) (by kernel_rfl) (by kernel_rfl) (fun _ _ _ h => h) (Or.inl ⟨by rfl, by intro w hSw; go_simp⟩) (M.below) ?_
          try simp only [Act.put, List.setIfInBounds_toArray, List.set_cons_zero, List.set_cons_succ]
          refine anyH_take 15 46 (exv h5 v5 o5 g5) rfl rfl (by kernel_rfl) (by kernel_rfl) (by kernel_rfl) (fun _ _ _ h => h) (Or.inl ⟨by rfl, by intro w hSw; go_simp⟩) (M.below) ?_
          try simp only [Act.put, List.setIfInBounds_toArray, List.set_cons_zero, List.set_cons_succ]
          refine anyH_take 16 47 (exv h6 v6 o6 g6) rfl rfl (by kernel_rfl) (by kernel_rfl) (by kernel_rfl) (fun _ _ _ h => h) (Or.inl ⟨by rfl, by intro w hSw; go_simp⟩) (M.below) ?_
          try simp only [Act.put, List.setIfInBounds_toArray, List.set_cons_zero, List.set_cons_succ]
          refine wpAnyH_ready (rs := [17]) (by kernel_rfl) (by simp) ?_
          refine (AllReadyH.cons rfl (fun K hK => ?_) AllReadyH.nil)
          rw [if_pos (by rfl)]
          refine wp_alloc M rfl rtX ?_
          clear M
          intro k13 W7 M
          refine hK.out _ _ M.below (fun hS => ?_)
          clear hK hS
          try simp only [Act.put, List.setIfInBounds_toArray, List.set_cons_zero, List.set_cons_succ]
          refine wpAnyH_ready (rs := [19]) (by kernel_rfl) (by simp) ?_
          refine AllReadyH.cons rfl (fun K hK => ?_) AllReadyH.nil
          rw [if_pos (by rfl)]
          refine wp_put M _ _ rfl rtX 0 _ rfl rfl rfl rfl rfl (by simp [Value.oneCell']) ?_
          clear M
          intro W8 M
          simp only [List.set_cons_zero, List.set_cons_succ] at M
          refine hK.out _ _ M.below (fun hS => ?_)
          clear hK hS
          try simp only [Act.put, List.setIfInBounds_toArray, List.set_cons_zero, List.set_cons_succ]
          refine wpAnyH_ready (rs := [20]) (by kernel_rfl) (by simp) ?_
          refine AllReadyH.cons rfl (fun K hK => ?_) AllReadyH.nil
          rw [if_pos (by rfl)]
          refine wp_put M _ _ rfl rtX 1 _ rfl rfl rfl rfl rfl (by simp [Value.oneCell']) ?_
          clear M
          intro W8 M
          simp only [List.set_cons_zero, List.set_cons_succ] at M
          refine hK.out _ _ M.below (fun hS => ?_)
          clear hK hS
          try simp only [Act.put, List.setIfInBounds_toArray, List.set_cons_zero, List.set_cons_succ]
          refine wpAnyH_done (by kernel_rfl) ?_ _
          have y13 := M.get (.head _)
          have y14 := M.get (.tail _ (.head _))
          have n13 := M.ge (.head _)
          have n14 := M.ge (.tail _ (.head _))
          have O9 := O.later M.below
          go_wp2_with (first
            | ((with_reducible show wpList _ _ _ (Oper.mk _ (Op.load 38 (Operand.tmp 13)) _ _ _ _ :: _) _ _); refine wpList_loadw33 (by rfl) _ rfl rfl y13 ?_)
            | ((with_reducible show wpList _ _ _ (Oper.mk _ (Op.store 38 (Operand.tmp 52) _) _ _ _ _ :: _) _ _); refine wpList_ownmnF O9 rfl _ _ rfl h5 v5 o5 g5 rfl rfl ?_; clear O9; intro W9 O9 hfar; have z14 := (hfar k14 (by have := O.lst.lt; omega)).trans y14; clear hfar)
            | ((with_reducible show wpList _ _ _ (Oper.mk _ (Op.load 38 (Operand.tmp 14)) _ _ _ _ :: _) _ _); refine wpList_loadw33 (by rfl) _ rfl rfl z14 ?_)
            | ((with_reducible show wpList _ _ _ (Oper.mk _ (Op.store 38 (Operand.tmp 57) _) _ _ _ _ :: _) _ _); refine wpList_ownmxF O9 rfl _ _ rfl h6 v6 o6 g6 rfl rfl ?_; clear O9; intro W9 O9 hfar))
          go_ret
          exact fin_T (by rw [List.length_set]) O9.lst (fun g2 off2 e => by cases e; exact O9.ge) O9.below
        · rw [if_pos (by rfl)]
          refine wp_alloc M rfl rtX ?_
          clear M
          intro k13 W7 M
          refine hK.out _ _ M.below (fun hS => ?_)
          clear hK hS
          try simp only [Act.put, List.setIfInBounds_toArray, List.set_cons_zero, List.set_cons_succ]
          refine wpAnyH_ready (rs := [13]) (by kernel_rfl) (by simp) ?_
          refine (AllReadyH.cons rfl (fun K hK => ?_) AllReadyH.nil)
          go_simp
          go_wp2_with (go_at_call 44; refine (KS _).mono ?_; rintro e W6 ⟨rfl, b6⟩; replace M := M.later b6)
          refine hK.out _ _ M.below (fun hS => ?_)
          clear hK hS
          try simp only [Act.put, List.setIfInBounds_toArray, List.set_cons_zero, List.set_cons_succ]
          refine anyH_take 14 31 ((.tuple #[exv h5 v5 o5 g5, exv h6 v6 o6 g6])) rfl rfl (by kernel_rfl) (by kernel_rfl) (by kernel_rfl) (fun _ _ _ h => h) (Or.inl ⟨by rfl, by intro w hSw; go_simp⟩) (M.below) ?_
          try simp only [Act.put, List.setIfInBounds_toArray, List.set_cons_zero, List.set_cons_succ]
          refine anyH_take 15 46 (exv h5 v5 o5 g5) rfl rfl (by kernel_rfl) (by kernel_rfl) (by kernel_rfl) (fun _ _ _ h => h) (Or.inl ⟨by rfl, by intro w hSw; go_simp⟩) (M.below) ?_
          try simp only [Act.put, List.setIfInBounds_toArray, List.set_cons_zero, List.set_cons_succ]
          refine anyH_take 16 47 (exv h6 v6 o6 g6) rfl rfl (by kernel_rfl) (by kernel_rfl) (by kernel_rfl) (fun _ _ _ h => h) (Or.inl ⟨by rfl, by intro w hSw; go_simp⟩) (M.below) ?_
          try simp only [Act.put, List.setIfInBounds_toArray, List.set_cons_zero, List.set_cons_succ]
          refine wpAnyH_ready (rs := [19]) (by kernel_rfl) (by simp) ?_
          refine AllReadyH.cons rfl (fun K hK => ?_) AllReadyH.nil
          rw [if_pos (by rfl)]
          refine wp_put M _ _ rfl rtX 0 _ rfl rfl rfl rfl rfl (by simp [Value.oneCell']) ?_
          clear M
          intro W8 M
          simp only [List.set_cons_zero, List.set_cons_succ] at M
          refine hK.out _ _ M.below (fun hS => ?_)
          clear hK hS
          try simp only [Act.put, List.setIfInBounds_toArray, List.set_cons_zero, List.set_cons_succ]
          refine wpAnyH_ready (rs := [20]) (by kernel_rfl) (by simp) ?_
          refine AllReadyH.cons rfl (fun K hK => ?_) AllReadyH.nil
          rw [if_pos (by rfl)]
          refine wp_put M _ _ rfl rtX 1 _ rfl rfl rfl rfl rfl (by simp [Value.oneCell']) ?_
          clear M
          intro W8 M
          simp only [List.set_cons_zero, List.set_cons_succ] at M
          refine hK.out _ _ M.below (fun hS => ?_)
          clear hK hS
          try simp only [Act.put, List.setIfInBounds_toArray, List.set_cons_zero, List.set_cons_succ]
          refine wpAnyH_done (by kernel_rfl) ?_ _
          have y13 := M.get (.head _)
          have y14 := M.get (.tail _ (.head _))
          have n13 := M.ge (.head _)
          have n14 := M.ge (.tail _ (.head _))
          have O9 := O.later M.below
          go_wp2_with (first
            | ((with_reducible show wpList _ _ _ (Oper.mk _ (Op.load 38 (Operand.tmp 13)) _ _ _ _ :: _) _ _); refine wpList_loadw33 (by rfl) _ rfl rfl y13 ?_)
            | ((with_reducible show wpList _ _ _ (Oper.mk _ (Op.store 38 (Operand.tmp 52) _) _ _ _ _ :: _) _ _); refine wpList_ownmnF O9 rfl _ _ rfl h5 v5 o5 g5 rfl rfl ?_; clear O9; intro W9 O9 hfar; have z14 := (hfar k14 (by have := O.lst.lt; omega)).trans y14; clear hfar)
            | ((with_reducible show wpList _ _ _ (Oper.mk _ (Op.load 38 (Operand.tmp 14)) _ _ _ _ :: _) _ _); refine wpList_loadw33 (by rfl) _ rfl rfl z14 ?_)
            | ((with_reducible show wpList _ _ _ (Oper.mk _ (Op.store 38 (Operand.tmp 57) _) _ _ _ _ :: _) _ _); refine wpList_ownmxF O9 rfl _ _ rfl h6 v6 o6 g6 rfl rfl ?_; clear O9; intro W9 O9 hfar))
          go_ret
          exact fin_T (by rw [List.length_set]) O9.lst (fun g2 off2 e => by cases e; exact O9.ge) O9.below
end Go.Proofs.YtoeebofappbneaaGreat

namespace Go.Proofs.YtoeebofappbneaaGreat
open Go.ChangeShapes Go.WideShapes Go.ChangeAt Go.RowKit Go.Maps Go.Shelf
set_option linter.unusedVariables false
set_option linter.unusedSimpArgs false

set_option maxRecDepth 100000 in
set_option maxHeartbeats 16000000 in
theorem hear_anyS (a : Option Addr) (cap : Nat) (l : List ST) (id : Int) (name : ByteArray) (h3 : Bool) (v3 o3 g3 : Int) (h4 : Bool) (v4 o4 g4 : Int) (w : World) (hr : RdT w a l.length cap l) (hf : fitL l = true) : Calls Tryz.prog 17 #[.slice a l.length cap, .int .i64 id, .string name, exv h3 v3 o3 g3, exv h4 v4 o4 g4] w (AnsT w (hrS l id name ⟨h3, v3, o3, g3⟩ ⟨h4, v4, o4, g4⟩)) := by
  have M := Mem.nil w
  have h8 := fitL_len hf
  have HN8 : Hid (l.length ≤ 8) := h8
  cases hp : plc name l with
  | none =>
    have HPI : Hid (plI name l = -1) := plI_none hp
    rw [hr_none hp]
    clear hp hf
    go_enter Tryz.func17, Tryz.ntmps17
    go_wp2_with (first
      | ((with_reducible show wpList _ _ _ (Oper.mk (some 8) (Op.box 38 _) _ _ _ _ :: _) _ _); refine wpList_box M rfl _ rfl _ rfl ?_; clear M; intro k8 W M)
      | ((with_reducible show wpList _ _ _ (Oper.mk (some 9) (Op.box 38 _) _ _ _ _ :: _) _ _); refine wpList_box M rfl _ rfl _ rfl ?_; clear M; intro k9 W M)
      | (go_at_call 28; obtain ⟨V0, hV0⟩ : ∃ V0 : World, V0 = W := ⟨_, rfl⟩; subst hV0; have K8 : ∀ X, Below V0.heap.size V0 X → X.heap[k8]? = some (.cells #[.bool h3, .int .i64 v3, .int .i64 o3, .int .i64 g3] 38 (0, 0)) := fun X h => (h.block k8 (M.lt (.tail _ (.head _)))).trans (M.get (.tail _ (.head _))); have K9 : ∀ X, Below V0.heap.size V0 X → X.heap[k9]? = some (.cells #[.bool h4, .int .i64 v4, .int .i64 o4, .int .i64 g4] 38 (0, 0)) := fun X h => (h.block k9 (M.lt (.head _))).trans (M.get (.head _)); have BV := M.below; refine (copy_any a cap l _ (hr.below M.below)).mono ?_; clear M; rintro e W1 ⟨a1, c1, rfl, L1, fo1, b1⟩)
      | (go_at_call 35; refine (place_any a1 _ c1 l name _ (L1.rd (by have := HN8.out; omega))).mono ?_; rintro e W2 ⟨rfl, b2⟩; rw [HPI.out]))
    go_ret
    exact fin_T rfl (L1.below b2) (fun g off e => Nat.le_trans BV.size (fo1 g off e)) (BV.trans ((b1.trans (b2.mono b1.size)).mono BV.size))
  | some i =>
    obtain ⟨hi, hpp, _⟩ := plc_at hp
    have HPI : Hid (plI name l = (i : Int)) := plI_some hp
    have HI : Hid (i < l.length) := hi
    rw [hr_some hp]
    have hiI : (i : Int) < (l.length : Int) := by omega
    have hi0 : ¬ (i : Int) < 0 := by omega
    have hset : l.set i (l.getD i ST.z) = l := set_getD hi
    obtain ⟨⟨⟨nm, ep, mr, al, kd, sc⟩, hv, iv, ⟨h1, v1, o1, g1⟩, ⟨h2, v2, o2, g2⟩⟩, hri⟩ : ∃ r, l.getD i ST.z = r := ⟨_, rfl⟩
    have HX : Hid (l.getD i ST.z = ⟨⟨nm, ep, mr, al, kd, sc⟩, hv, iv, ⟨h1, v1, o1, g1⟩, ⟨h2, v2, o2, g2⟩⟩) := hri
    rw [hri] at hset ⊢
    have HSET : Hid (l.set i ⟨⟨nm, ep, mr, al, kd, sc⟩, hv, iv, ⟨h1, v1, o1, g1⟩, ⟨h2, v2, o2, g2⟩⟩ = l) := hset
    clear hp hpp hset hri hf hi
    by_cases h40 : kd = 4
    case neg =>
      rw [hr_other (s := ⟨⟨nm, ep, mr, al, kd, sc⟩, hv, iv, ⟨h1, v1, o1, g1⟩, ⟨h2, v2, o2, g2⟩⟩) h40, HSET.out]
      have h4b : (kd != 4) = true := by simpa using h40
      clear h40
      go_enter Tryz.func17, Tryz.ntmps17
      go_wp2_with (first
      | ((with_reducible show wpList _ _ _ (Oper.mk (some 8) (Op.box 38 _) _ _ _ _ :: _) _ _); refine wpList_box M rfl _ rfl _ rfl ?_; clear M; intro k8 W M)
      | ((with_reducible show wpList _ _ _ (Oper.mk (some 9) (Op.box 38 _) _ _ _ _ :: _) _ _); refine wpList_box M rfl _ rfl _ rfl ?_; clear M; intro k9 W M)
      | (go_at_call 28; obtain ⟨V0, hV0⟩ : ∃ V0 : World, V0 = W := ⟨_, rfl⟩; subst hV0; have K8 : ∀ X, Below V0.heap.size V0 X → X.heap[k8]? = some (.cells #[.bool h3, .int .i64 v3, .int .i64 o3, .int .i64 g3] 38 (0, 0)) := fun X h => (h.block k8 (M.lt (.tail _ (.head _)))).trans (M.get (.tail _ (.head _))); have K9 : ∀ X, Below V0.heap.size V0 X → X.heap[k9]? = some (.cells #[.bool h4, .int .i64 v4, .int .i64 o4, .int .i64 g4] 38 (0, 0)) := fun X h => (h.block k9 (M.lt (.head _))).trans (M.get (.head _)); have BV := M.below; refine (copy_any a cap l _ (hr.below M.below)).mono ?_; clear M; rintro e W1 ⟨a1, c1, rfl, L1, fo1, b1⟩)
      | (go_at_call 35; refine (place_any a1 _ c1 l name _ (L1.rd (by have := HN8.out; omega))).mono ?_; rintro e W2 ⟨rfl, b2⟩; rw [HPI.out]; obtain ⟨g, off, rfl⟩ := lst_addr L1 HI.out; have O := OwnI.mk0 (i := i) (b1.trans (b2.mono b1.size)) (fo1 g off rfl) (L1.below b2) HI.out; rw [HX.out] at O)
      | ((with_reducible show wpList _ _ _ (Oper.mk _ (Op.load 3 (Operand.tmp 26)) _ _ _ _ :: _) _ _); refine wpList_cell3w (by rfl) _ rfl _ rfl (O.range 4 _ rfl) ?_))
      go_ret
      have HL := O.lst
      rw [HSET.out] at HL
      exact fin_T rfl HL (fun g2 off2 e => by cases e; exact Nat.le_trans BV.size O.ge) (BV.trans (O.below.mono BV.size))
    case pos =>
      subst h40
      have KS := fun W => E.hear_any id h1 v1 o1 g1 h2 v2 o2 g2 h3 v3 o3 g3 h4 v4 o4 g4 W
      obtain ⟨⟨⟨h5, v5, o5, g5⟩, ⟨h6, v6, o6, g6⟩⟩, h56⟩ : ∃ p, E.hearX id ⟨h1, v1, o1, g1⟩ ⟨h2, v2, o2, g2⟩ ⟨h3, v3, o3, g3⟩ ⟨h4, v4, o4, g4⟩ = p := ⟨_, rfl⟩
      have HT : hearT id ⟨h3, v3, o3, g3⟩ ⟨h4, v4, o4, g4⟩ ⟨⟨nm, ep, mr, al, 4, sc⟩, hv, iv, ⟨h1, v1, o1, g1⟩, ⟨h2, v2, o2, g2⟩⟩ = ⟨⟨nm, ep, mr, al, 4, sc⟩, hv, iv, ⟨h5, v5, o5, g5⟩, ⟨h6, v6, o6, g6⟩⟩ := by
        unfold hearT
        rw [if_pos rfl]
        dsimp only
        rw [h56]
      rw [HT]
      rw [h56] at KS
      unfold E.two at KS
      dsimp only at KS
      clear HT h56
      go_enter Tryz.func17, Tryz.ntmps17
      go_wp2_with (first
      | ((with_reducible show wpList _ _ _ (Oper.mk (some 8) (Op.box 38 _) _ _ _ _ :: _) _ _); refine wpList_box M rfl _ rfl _ rfl ?_; clear M; intro k8 W M)
      | ((with_reducible show wpList _ _ _ (Oper.mk (some 9) (Op.box 38 _) _ _ _ _ :: _) _ _); refine wpList_box M rfl _ rfl _ rfl ?_; clear M; intro k9 W M)
      | (go_at_call 28; obtain ⟨V0, hV0⟩ : ∃ V0 : World, V0 = W := ⟨_, rfl⟩; subst hV0; have K8 : ∀ X, Below V0.heap.size V0 X → X.heap[k8]? = some (.cells #[.bool h3, .int .i64 v3, .int .i64 o3, .int .i64 g3] 38 (0, 0)) := fun X h => (h.block k8 (M.lt (.tail _ (.head _)))).trans (M.get (.tail _ (.head _))); have K9 : ∀ X, Below V0.heap.size V0 X → X.heap[k9]? = some (.cells #[.bool h4, .int .i64 v4, .int .i64 o4, .int .i64 g4] 38 (0, 0)) := fun X h => (h.block k9 (M.lt (.head _))).trans (M.get (.head _)); have BV := M.below; refine (copy_any a cap l _ (hr.below M.below)).mono ?_; clear M; rintro e W1 ⟨a1, c1, rfl, L1, fo1, b1⟩)
      | (go_at_call 35; refine (place_any a1 _ c1 l name _ (L1.rd (by have := HN8.out; omega))).mono ?_; rintro e W2 ⟨rfl, b2⟩; rw [HPI.out]; obtain ⟨g, off, rfl⟩ := lst_addr L1 HI.out; have O := OwnI.mk0 (i := i) (b1.trans (b2.mono b1.size)) (fo1 g off rfl) (L1.below b2) HI.out; rw [HX.out] at O)
      | ((with_reducible show wpList _ _ _ (Oper.mk _ (Op.load 3 (Operand.tmp 26)) _ _ _ _ :: _) _ _); refine wpList_cell3w (by rfl) _ rfl _ rfl (O.range 4 _ rfl) ?_)
      | fail)
      refine wp_region_any (by kernel_rfl) ?_
      change wpAny _ _ _ _ _ _ _ (World.drew _)
      refine any_take 1 36 (.pointer (some ⟨g, off + i * 16, none⟩)) rfl rfl (by kernel_rfl) (by kernel_rfl) (by kernel_rfl) (fun _ _ _ h => h) (Or.inl ⟨by rfl, by intro w; go_simp⟩) ?_
      try simp only [Act.put, List.setIfInBounds_toArray, List.set_cons_zero, List.set_cons_succ]
      replace O := O.drew
      revert O
      generalize World.drew _ = WD
      intro O
      refine wpAny_until (fun W' => OwnI V0 W' g off l.length c1 l i ⟨⟨nm, ep, mr, al, 4, sc⟩, hv, iv, ⟨h1, v1, o1, g1⟩, ⟨h2, v2, o2, g2⟩⟩) 19 _ _ _ _ ?_
      refine anyM_take 0 35 (.pointer (some ⟨g, off + i * 16, none⟩)) rfl rfl (by kernel_rfl) (by kernel_rfl) (by kernel_rfl) (fun _ _ _ h => h) (.inl (by kernel_rfl)) (by kernel_rfl) (Or.inl ⟨by rfl, by intro w hSw; go_simp⟩) (O) ?_
      try simp only [Act.put, List.setIfInBounds_toArray, List.set_cons_zero, List.set_cons_succ]
      refine anyM_take 2 37 (.int .i64 id) rfl rfl (by kernel_rfl) (by kernel_rfl) (by kernel_rfl) (fun _ _ _ h => h) (.inl (by kernel_rfl)) (by kernel_rfl) (Or.inl ⟨by rfl, by intro w hSw; go_simp⟩) (O) ?_
      try simp only [Act.put, List.setIfInBounds_toArray, List.set_cons_zero, List.set_cons_succ]
      refine anyM_take 3 38 (.pointer (some ⟨g, off + i * 16, none⟩)) rfl rfl (by kernel_rfl) (by kernel_rfl) (by kernel_rfl) (fun _ _ _ h => h) (.inl (by kernel_rfl)) (by kernel_rfl) (Or.inl ⟨by rfl, by intro w hSw; go_simp⟩) (O) ?_
      try simp only [Act.put, List.setIfInBounds_toArray, List.set_cons_zero, List.set_cons_succ]
      refine anyM_take 4 39 (.pointer (some ⟨g, off + i * 16, none⟩)) rfl rfl (by kernel_rfl) (by kernel_rfl) (by kernel_rfl) (fun _ _ _ h => h) (.inl (by kernel_rfl)) (by kernel_rfl) (Or.inl ⟨by rfl, by intro w hSw; go_simp⟩) (O) ?_
      try simp only [Act.put, List.setIfInBounds_toArray, List.set_cons_zero, List.set_cons_succ]
      refine anyM_take 5 40 (.pointer (some ⟨g, off + i * 16 + 8, none⟩)) rfl rfl (by kernel_rfl) (by kernel_rfl) (by kernel_rfl) (fun _ _ _ h => h) (.inl (by kernel_rfl)) (by kernel_rfl) (Or.inl ⟨by rfl, by intro w hSw; go_simp⟩) (O) ?_
      try simp only [Act.put, List.setIfInBounds_toArray, List.set_cons_zero, List.set_cons_succ]
      refine anyM_take 6 41 (exv h1 v1 o1 g1) rfl rfl (by kernel_rfl) (by kernel_rfl) (by kernel_rfl) (fun _ _ _ h => h) (.inl (by kernel_rfl)) (by kernel_rfl) (Or.inl ⟨by rfl, fun X hSw => exec_loadX rfl rfl (rng_mn hSw.range)⟩) (O) ?_
      try simp only [Act.put, List.setIfInBounds_toArray, List.set_cons_zero, List.set_cons_succ]
      refine anyM_take 7 42 (.pointer (some ⟨g, off + i * 16, none⟩)) rfl rfl (by kernel_rfl) (by kernel_rfl) (by kernel_rfl) (fun _ _ _ h => h) (.inl (by kernel_rfl)) (by kernel_rfl) (Or.inl ⟨by rfl, by intro w hSw; go_simp⟩) (O) ?_
      try simp only [Act.put, List.setIfInBounds_toArray, List.set_cons_zero, List.set_cons_succ]
      refine anyM_take 8 43 (.pointer (some ⟨g, off + i * 16, none⟩)) rfl rfl (by kernel_rfl) (by kernel_rfl) (by kernel_rfl) (fun _ _ _ h => h) (.inl (by kernel_rfl)) (by kernel_rfl) (Or.inl ⟨by rfl, by intro w hSw; go_simp⟩) (O) ?_
      try simp only [Act.put, List.setIfInBounds_toArray, List.set_cons_zero, List.set_cons_succ]
      refine anyM_take 9 44 (.pointer (some ⟨g, off + i * 16 + 12, none⟩)) rfl rfl (by kernel_rfl) (by kernel_rfl) (by kernel_rfl) (fun _ _ _ h => h) (.inl (by kernel_rfl)) (by kernel_rfl) (Or.inl ⟨by rfl, by intro w hSw; go_simp⟩) (O) ?_
      try simp only [Act.put, List.setIfInBounds_toArray, List.set_cons_zero, List.set_cons_succ]
      refine anyM_take 10 45 (exv h2 v2 o2 g2) rfl rfl (by kernel_rfl) (by kernel_rfl) (by kernel_rfl) (fun _ _ _ h => h) (.inl (by kernel_rfl)) (by kernel_rfl) (Or.inl ⟨by rfl, fun X hSw => exec_loadX rfl rfl (rng_mx hSw.range)⟩) (O) ?_
      try simp only [Act.put, List.setIfInBounds_toArray, List.set_cons_zero, List.set_cons_succ]
      refine anyM_take 11 46 (exv h3 v3 o3 g3) rfl rfl (by kernel_rfl) (by kernel_rfl) (by kernel_rfl) (fun _ _ _ h => h) (.inl (by kernel_rfl)) (by kernel_rfl) (Or.inl ⟨by rfl, fun X hSw => exec_loadr rfl rtX rfl (K8 _ hSw.below) rfl⟩) (O) ?_
      try simp only [Act.put, List.setIfInBounds_toArray, List.set_cons_zero, List.set_cons_succ]
      refine anyM_take 12 47 (exv h4 v4 o4 g4) rfl rfl (by kernel_rfl) (by kernel_rfl) (by kernel_rfl) (fun _ _ _ h => h) (.inl (by kernel_rfl)) (by kernel_rfl) (Or.inl ⟨by rfl, fun X hSw => exec_loadr rfl rtX rfl (K9 _ hSw.below) rfl⟩) (O) ?_
      try simp only [Act.put, List.setIfInBounds_toArray, List.set_cons_zero, List.set_cons_succ]
      refine anyM_one 13 (by kernel_rfl) rfl (fun K hK => ?_)
      go_simp
      go_wp2_with (go_at_call 42; refine (KS _).mono ?_; clear KS; rintro e W6 ⟨rfl, b6⟩; replace O := O.later b6; clear b6)
      refine hK.out _ _ (fun _ => O) ?_
      clear hK
      try simp only [Act.put, List.setIfInBounds_toArray, List.set_cons_zero, List.set_cons_succ]
      refine anyM_take 14 34 ((.tuple #[exv h5 v5 o5 g5, exv h6 v6 o6 g6])) rfl rfl (by kernel_rfl) (by kernel_rfl) (by kernel_rfl) (fun _ _ _ h => h) (.inl (by kernel_rfl)) (by kernel_rfl) (Or.inl ⟨by rfl, by intro w hSw; go_simp⟩) (O) ?_
      try simp only [Act.put, List.setIfInBounds_toArray, List.set_cons_zero, List.set_cons_succ]
      refine anyM_take 15 49 (exv h5 v5 o5 g5) rfl rfl (by kernel_rfl) (by kernel_rfl) (by kernel_rfl) (fun _ _ _ h => h) (.inl (by kernel_rfl)) (by kernel_rfl) (Or.inl ⟨by rfl, by intro w hSw; go_simp⟩) (O) ?_
      try simp only [Act.put, List.setIfInBounds_toArray, List.set_cons_zero, List.set_cons_succ]
      refine anyM_take 17 51 (.pointer (some ⟨g, off + i * 16, none⟩)) rfl rfl (by kernel_rfl) (by kernel_rfl) (by kernel_rfl) (fun _ _ _ h => h) (.inr ⟨18, by kernel_rfl, by kernel_rfl, by kernel_rfl⟩) (by kernel_rfl) (Or.inl ⟨by rfl, by intro w hSw; go_simp⟩) (O) ?_
      try simp only [Act.put, List.setIfInBounds_toArray, List.set_cons_zero, List.set_cons_succ]
      refine anyM_take 18 52 (.pointer (some ⟨g, off + i * 16 + 8, none⟩)) rfl rfl (by kernel_rfl) (by kernel_rfl) (by kernel_rfl) (fun _ _ _ h => h) (.inl (by kernel_rfl)) (by kernel_rfl) (Or.inl ⟨by rfl, by intro w hSw; go_simp⟩) (O) ?_
      try simp only [Act.put, List.setIfInBounds_toArray, List.set_cons_zero, List.set_cons_succ]
      refine anyM_two 16 19 (by kernel_rfl) rfl rfl (fun K hK => ?_) (fun K hK => ?_)
      · go_simp
        refine hK.out _ _ (fun _ => O) ?_
        clear hK
        try simp only [Act.put, List.setIfInBounds_toArray, List.set_cons_zero, List.set_cons_succ]
        refine anyM_one 19 (by kernel_rfl) rfl (fun K hK => ?_)
        rw [if_pos (by rfl)]
        refine wp_ownmn O _ _ rfl _ _ _ _ rfl rfl ?_
        clear O
        intro W9 O
        refine hK.out _ _ (fun h => absurd h (by decide)) ?_
        clear hK
        try simp only [Act.put, List.setIfInBounds_toArray, List.set_cons_zero, List.set_cons_succ]
        refine anyM_one 20 (by kernel_rfl) rfl (fun K hK => ?_)
        go_simp
        refine hK.out _ _ (fun h => absurd h (by decide)) ?_
        clear hK
        try simp only [Act.put, List.setIfInBounds_toArray, List.set_cons_zero, List.set_cons_succ]
        refine anyM_one 21 (by kernel_rfl) rfl (fun K hK => ?_)
        go_simp
        refine hK.out _ _ (fun h => absurd h (by decide)) ?_
        clear hK
        try simp only [Act.put, List.setIfInBounds_toArray, List.set_cons_zero, List.set_cons_succ]
        refine anyM_one 22 (by kernel_rfl) rfl (fun K hK => ?_)
        rw [if_pos (by rfl)]
        refine wp_ownmx O _ _ rfl _ _ _ _ rfl rfl ?_
        clear O
        intro W9 O
        refine hK.out _ _ (fun h => absurd h (by decide)) ?_
        clear hK
        try simp only [Act.put, List.setIfInBounds_toArray, List.set_cons_zero, List.set_cons_succ]
        refine anyM_done (by kernel_rfl) ?_ _
        go_wp2
        go_ret
        exact fin_T (by rw [List.length_set]) O.lst (fun g2 off2 e => by cases e; exact Nat.le_trans BV.size O.ge) (BV.trans (O.below.mono BV.size))
      · rw [if_pos (by rfl)]
        refine wp_ownmn O _ _ rfl _ _ _ _ rfl rfl ?_
        clear O
        intro W9 O
        refine hK.out _ _ (fun h => absurd h (by decide)) ?_
        clear hK
        try simp only [Act.put, List.setIfInBounds_toArray, List.set_cons_zero, List.set_cons_succ]
        refine anyM_one 16 (by kernel_rfl) rfl (fun K hK => ?_)
        go_simp
        refine hK.out _ _ (fun h => absurd h (by decide)) ?_
        clear hK
        try simp only [Act.put, List.setIfInBounds_toArray, List.set_cons_zero, List.set_cons_succ]
        refine anyM_one 20 (by kernel_rfl) rfl (fun K hK => ?_)
        go_simp
        refine hK.out _ _ (fun h => absurd h (by decide)) ?_
        clear hK
        try simp only [Act.put, List.setIfInBounds_toArray, List.set_cons_zero, List.set_cons_succ]
        refine anyM_one 21 (by kernel_rfl) rfl (fun K hK => ?_)
        go_simp
        refine hK.out _ _ (fun h => absurd h (by decide)) ?_
        clear hK
        try simp only [Act.put, List.setIfInBounds_toArray, List.set_cons_zero, List.set_cons_succ]
        refine anyM_one 22 (by kernel_rfl) rfl (fun K hK => ?_)
        rw [if_pos (by rfl)]
        refine wp_ownmx O _ _ rfl _ _ _ _ rfl rfl ?_
        clear O
        intro W9 O
        refine hK.out _ _ (fun h => absurd h (by decide)) ?_
        clear hK
        try simp only [Act.put, List.setIfInBounds_toArray, List.set_cons_zero, List.set_cons_succ]
        refine anyM_done (by kernel_rfl) ?_ _
        go_wp2
        go_ret
        exact fin_T (by rw [List.length_set]) O.lst (fun g2 off2 e => by cases e; exact Nat.le_trans BV.size O.ge) (BV.trans (O.below.mono BV.size))
end Go.Proofs.YtoeebofappbneaaGreat

namespace Go.Proofs.YtoeebofappbneaaGreat
open Go.ChangeShapes Go.WideShapes Go.ChangeAt Go.RowKit Go.Maps Go.Shelf
set_option linter.unusedVariables false
set_option linter.unusedSimpArgs false

abbrev cN1 : CH := ⟨nM, 1, 3, true, 1, 4⟩
abbrev cN2 : CH := ⟨nM, 2, 3, false, 1, 4⟩
abbrev sN1 : ST := ⟨cN1, true, 20, E.EX.z, E.EX.z⟩
theorem fit_nil : fitL [] = true := by decide
theorem xa1 : crE (recs []) nM 1 4 = 0 := by decide
theorem xa2 : crS [] 3 nM 1 4 = [begs cN1] := by unfold crS; rw [if_pos xa1]; rfl
theorem is_m {s : ST} (h1 : s.c.nm = nM) (h2 : s.c.al = true) : isP nM s = true := by unfold isP; rw [eqN_iff.2 h1, h2]; rfl
theorem plc_m {s : ST} (h1 : s.c.nm = nM) (h2 : s.c.al = true) : plc nM [s] = some 0 := plc_some (by simp) (fun j h => by omega) (is_m h1 h2)
theorem xf1 : fitL [begs cN1] = true := by rw [← xa2]; exact crS_fit fit_nil (by decide) nM 1 4
theorem xb1 : stE [begs cN1] nM 5 = 0 := by unfold stE; rw [plc_m rfl rfl]; decide
theorem xb2 : stS [begs cN1] 3 nM 5 = [sN1] := by unfold stS; rw [plc_m rfl rfl]; rfl
theorem xb3 : stE [begs cN1] nM 600000000 = 10 := by unfold stE; rw [plc_m rfl rfl]; decide
theorem xf2 : fitL [sN1] = true := by rw [← xb2]; exact stS_fit xf1 (by decide) nM 5
theorem xc1 : fdV nM [sN1] = .tuple #[sN1.val, .bool true] := by unfold fdV fdT; rw [plc_m rfl rfl]; rfl
theorem lkN : lk nM (recs [sN1]) = some cN1 := if_pos rfl
theorem xd1 : dlE (recs [sN1]) nM = 0 := by unfold dlE; rw [lkN]; rfl
theorem xd2 : dlS [sN1] 3 nM = [begs cN2] := by
  have e : dlM (recs [sN1]) 3 nM = cN2 := by unfold dlM; rw [lkN]; rfl
  have h : ltN nM nM = false := lt_irr _
  unfold dlS
  rw [if_pos xd1, e, anw, if_neg (by rw [h]; decide), if_neg (by rw [h]; decide)]
theorem xf3 : fitL [begs cN2] = true := by rw [← xd2]; exact dlS_fit xf2 (by decide) nM
theorem xe1 : stE [begs cN2] nM 1 = 44 := by
  unfold stE
  rw [plc_none (fun j hj => ?_)]
  have : j = 0 := by simpa using hj
  subst this
  unfold isP
  rw [show ([begs cN2].getD 0 ST.z).c.al = false from rfl, Bool.and_false]
theorem xg1 : fitS 3 [sN1] = true := by rw [fitS_iff]; exact ⟨by decide, xf2⟩
set_option maxRecDepth 100000 in
set_option maxHeartbeats 8000000 in
theorem awake_anyS (w : World) : Calls Tryz.prog 6 #[] w fun e w' => e = .returned (.bool true) ∧ Below w.heap.size w w' := by
  have K1 := create_anyS none 0 [] 3 nM 1 4 w (rdT_nil w) fit_nil
  rw [xa1, xa2] at K1
  have K2 : ∀ W a c, LstT W a 1 c [begs cN1] → Calls Tryz.prog 13 #[.slice a 1 c, .int .i64 3, .string nM, .int .i64 5] W (AnsV W [sN1] (.int .i64 0)) := fun W a c h => by
    have h9 := set_anyS a c [begs cN1] 3 nM 5 W (h.rd (by decide)) xf1
    rw [xb1, xb2] at h9
    exact h9
  have K3 : ∀ W a c, LstT W a 1 c [begs cN1] → Calls Tryz.prog 13 #[.slice a 1 c, .int .i64 3, .string nM, .int .i64 600000000] W fun e w' => ∃ v, e = .returned (.tuple #[v, .int .i64 10]) ∧ Below W.heap.size W w' := fun W a c h => by
    have h9 := set_anyS a c [begs cN1] 3 nM 600000000 W (h.rd (by decide)) xf1
    rw [xb3] at h9
    refine h9.mono ?_
    rintro e w' ⟨a', c', rfl, _, _, b⟩
    exact ⟨_, rfl, b⟩
  have K4 : ∀ W a c, LstT W a 1 c [sN1] → Calls Tryz.prog 23 #[.slice a 1 c, .string nM] W fun e w' => e = .returned (.tuple #[ste nM 1 3 true 1 4 true 20 false 0 0 0 false 0 0 0, .bool true]) ∧ Below W.heap.size W w' := fun W a c h => by
    have h9 := find_anyT a 1 c [sN1] nM W (h.rd (by decide))
    rw [xc1] at h9
    exact h9
  have K5 : ∀ W a c, LstT W a 1 c [sN1] → Calls Tryz.prog 11 #[.slice a 1 c, .int .i64 3, .string nM] W (AnsV W [begs cN2] (.int .i64 0)) := fun W a c h => by
    have h9 := delete_anyS a c [sN1] 3 nM W (h.rd (by decide)) xf2
    rw [xd1, xd2] at h9
    exact h9
  have K6 : ∀ W a c, LstT W a 1 c [begs cN2] → Calls Tryz.prog 13 #[.slice a 1 c, .int .i64 3, .string nM, .int .i64 1] W fun e w' => ∃ v, e = .returned (.tuple #[v, .int .i64 44]) ∧ Below W.heap.size W w' := fun W a c h => by
    have h9 := set_anyS a c [begs cN2] 3 nM 1 W (h.rd (by decide)) xf3
    rw [xe1] at h9
    refine h9.mono ?_
    rintro e w' ⟨a', c', rfl, _, _, b⟩
    exact ⟨_, rfl, b⟩
  have K7 : ∀ W a c, LstT W a 1 c [sN1] → Calls Tryz.prog 24 #[.int .i64 3, .slice a 1 c] W fun e w' => e = .returned (.bool true) ∧ Below W.heap.size W w' := fun W a c h => by
    have h9 := fit_any7 3 a 1 c [sN1] W (h.rd (by decide))
    rw [xg1] at h9
    exact h9
  have K8 := fun W => flows_any 1 W
  rw [show flowsB 1 = true from rfl] at K8
  go_enter Tryz.func6, Tryz.ntmps6
  go_wp2_with (first
      | (go_at_call 8; refine K1.mono ?_; clear K1; rintro e W1 ⟨a1, c1, rfl, L1, f1, b1⟩; have M := (Mem.nil w).later b1)
      | (go_at_call 13; refine (K2 _ _ _ L1).mono ?_; clear K2; rintro e W2 ⟨a2, c2, rfl, L2, f2, b2⟩; replace L1 := L1.below b2; replace M := M.later b2; clear b2)
      | (go_at_call 13; refine (K3 _ _ _ L1).mono ?_; clear K3 L1; rintro e W3 ⟨v3, rfl, b3⟩; replace L2 := L2.below b3; replace M := M.later b3; clear b3)
      | (go_at_call 23; refine (K4 _ _ _ L2).mono ?_; clear K4; rintro e W4 ⟨rfl, b4⟩; replace L2 := L2.below b4; replace M := M.later b4; clear b4; have B := M.below; clear M; have M := Mem.nil W4)
      | ((with_reducible show wpList _ _ _ (Oper.mk (some 7) (Op.alloc 49) _ _ _ _ :: _) _ _); refine wpList_alloc M rfl rfl rtT ?_; clear M; intro k7 W M)
      | ((with_reducible show wpList _ _ _ (Oper.mk _ (Op.store 49 _ _) _ _ _ _ :: _) _ _); (first | (refine wpList_put M rfl _ _ rfl rtT 0 _ rfl rfl rfl rfl rfl (by simp [Value.oneCell']) ?_)); clear M; intro W M; simp only [List.set_cons_zero, List.set_cons_succ] at M)
      | (go_at_call 11; refine (K5 _ _ _ (L2.below M.below)).mono ?_; clear K5; rintro e W5 ⟨a3, c3, rfl, L3, f3, b3⟩; replace M := M.later b3; clear b3)
      | (go_at_call 13; refine (K6 _ _ _ L3).mono ?_; clear K6 L3; rintro e W6 ⟨v6, rfl, b6⟩; replace M := M.later b6; clear b6)
      | ((with_reducible show wpList _ _ _ (Oper.mk _ (Op.load 2 _) _ _ _ _ :: _) _ _); refine wpList_cell2 M (by rfl) _ rfl _ rfl (by first | exact .head _) rfl ?_)
      | ((with_reducible show wpList _ _ _ (Oper.mk _ (Op.load 4 _) _ _ _ _ :: _) _ _); refine wpList_cell4 M (by rfl) _ rfl _ rfl (by first | exact .head _) rfl ?_)
      | (go_at_call 24; refine (K7 _ _ _ (L2.below M.below)).mono ?_; clear K7; rintro e W7 ⟨rfl, b7⟩; replace M := M.later b7; clear b7)
      | (go_at_call 25; refine (K8 _).mono ?_; clear K8; rintro e W8 ⟨rfl, rfl⟩))
  go_ret
  exact ⟨rfl, B.trans (M.below.mono B.size)⟩
end Go.Proofs.YtoeebofappbneaaGreat

namespace Go.Proofs.YtoeebofappbneaaGreat
open Go.ChangeShapes Go.WideShapes Go.ChangeAt Go.RowKit Go.Maps Go.Shelf
set_option linter.unusedVariables false
set_option linter.unusedSimpArgs false

theorem names_small {l : List ST} (hf : fitL l = true) : ∀ x, x ∈ recs l → (x.nm.size : Int) ≤ 9223372036854775807 := fun x hx => by
  have h := (fit_parts (fitsB_fit (fitL_iff.1 hf).1 x hx)).1
  unfold nameB at h
  rw [Bool.and_eq_true] at h
  have := of_decide_eq_true h.1
  omega
theorem fitS_of {id : Int} {l : List ST} (h1 : nodeB id = true) (h2 : fitL l = true) : fitS id l = true := fitS_iff.2 ⟨h1, h2⟩
theorem rd8 {W : World} {a : Option Addr} {cap : Nat} {l : List ST} (hf : fitL l = true) (L : LstT W a l.length cap l) : RdT W a l.length cap l := L.rd (by have := fitL_len hf; omega)
end Go.Proofs.YtoeebofappbneaaGreat

namespace Go.Proofs.YtoeebofappbneaaGreat
open Go.ChangeShapes Go.WideShapes Go.ChangeAt Go.RowKit Go.Maps Go.Shelf
set_option linter.unusedVariables false
set_option linter.unusedSimpArgs false

set_option maxRecDepth 100000 in
set_option maxHeartbeats 16000000 in
theorem hears_walk (id : Int) (a : Option Addr) (n cap : Nat) (l : List ST) (name : ByteArray) (h3 : Bool) (v3 o3 g3 : Int) (h4 : Bool) (v4 o4 g4 : Int) (w : World) (hr : RdT w a n cap l) (hs : Hid (∀ x, x ∈ recs l → (x.nm.size : Int) ≤ 9223372036854775807)) :
    Calls Tryz.prog 4 #[.int .i64 id, .slice a n cap, .string name, exv h3 v3 o3 g3, exv h4 v4 o4 g4] w fun e w' => e = .returned (.bool true) ∧ Below w.heap.size w w' := by
  have M := Mem.nil w
  have hz := hr.size
  subst hz
  have K1 := fun W (b : Below w.heap.size w W) => rfit_any8 id a _ cap l W (hr.below b) hs.out
  have K3 := fun W => E.rfit_any h3 v3 o3 g3 W
  have K4 := fun W => E.rfit_any h4 v4 o4 g4 W
  cases hf : fitS id l with
  | false =>
    rw [hf] at K1
    clear hf hr hs K3 K4
    go_enter Tryz.func4, Tryz.ntmps4
    go_wp2_with (first
      | ((with_reducible show wpList _ _ _ (Oper.mk (some 8) (Op.box 38 _) _ _ _ _ :: _) _ _); refine wpList_box M rfl _ rfl _ rfl ?_; clear M; intro k8 W M)
      | ((with_reducible show wpList _ _ _ (Oper.mk (some 9) (Op.box 38 _) _ _ _ _ :: _) _ _); refine wpList_box M rfl _ rfl _ rfl ?_; clear M; intro k9 W M)
      | (go_at_call 5; refine (K1 _ M.below).mono ?_; clear K1; rintro e W1 ⟨rfl, b1⟩; replace M := M.later b1; clear b1)
      | (go_at_call 6; refine (awake_anyS _).mono ?_; rintro e W9 ⟨rfl, b9⟩; replace M := M.later b9; clear b9))
    go_ret
    exact ⟨rfl, M.below⟩
  | true =>
  rw [hf] at K1
  cases hf3 : E.fitB ⟨h3, v3, o3, g3⟩ with
  | false =>
    rw [hf3] at K3
    clear hf hr hs hf3 K4
    go_enter Tryz.func4, Tryz.ntmps4
    go_wp2_with (first
      | ((with_reducible show wpList _ _ _ (Oper.mk (some 8) (Op.box 38 _) _ _ _ _ :: _) _ _); refine wpList_box M rfl _ rfl _ rfl ?_; clear M; intro k8 W M)
      | ((with_reducible show wpList _ _ _ (Oper.mk (some 9) (Op.box 38 _) _ _ _ _ :: _) _ _); refine wpList_box M rfl _ rfl _ rfl ?_; clear M; intro k9 W M)
      | ((with_reducible show wpList _ _ _ (Oper.mk _ (Op.load 38 (Operand.tmp 8)) _ _ _ _ :: _) _ _); refine wpList_load M (by rfl) _ rfl rtX rfl (by first | exact .head _ | exact .tail _ (.head _)) (by rfl) ?_)
      | (go_at_call 5; refine (K1 _ M.below).mono ?_; clear K1; rintro e W1 ⟨rfl, b1⟩; replace M := M.later b1; clear b1)
      | (go_at_call 15; refine (K3 _).mono ?_; clear K3; rintro e W1 ⟨rfl, b1⟩; replace M := M.later b1; clear b1)
      | (go_at_call 6; refine (awake_anyS _).mono ?_; rintro e W9 ⟨rfl, b9⟩; replace M := M.later b9; clear b9))
    go_ret
    exact ⟨rfl, M.below⟩
  | true =>
  rw [hf3] at K3
  cases hf4 : E.fitB ⟨h4, v4, o4, g4⟩ with
  | false =>
    rw [hf4] at K4
    clear hf hr hs hf3 hf4
    go_enter Tryz.func4, Tryz.ntmps4
    go_wp2_with (first
      | ((with_reducible show wpList _ _ _ (Oper.mk (some 8) (Op.box 38 _) _ _ _ _ :: _) _ _); refine wpList_box M rfl _ rfl _ rfl ?_; clear M; intro k8 W M)
      | ((with_reducible show wpList _ _ _ (Oper.mk (some 9) (Op.box 38 _) _ _ _ _ :: _) _ _); refine wpList_box M rfl _ rfl _ rfl ?_; clear M; intro k9 W M)
      | ((with_reducible show wpList _ _ _ (Oper.mk _ (Op.load 38 (Operand.tmp 8)) _ _ _ _ :: _) _ _); refine wpList_load M (by rfl) _ rfl rtX rfl (by first | exact .head _ | exact .tail _ (.head _)) (by rfl) ?_)
      | ((with_reducible show wpList _ _ _ (Oper.mk _ (Op.load 38 (Operand.tmp 9)) _ _ _ _ :: _) _ _); refine wpList_load M (by rfl) _ rfl rtX rfl (by first | exact .head _ | exact .tail _ (.head _)) (by rfl) ?_)
      | (go_at_call 5; refine (K1 _ M.below).mono ?_; clear K1; rintro e W1 ⟨rfl, b1⟩; replace M := M.later b1; clear b1)
      | (go_at_call 15; refine (K3 _).mono ?_; clear K3; rintro e W1 ⟨rfl, b1⟩; replace M := M.later b1; clear b1)
      | (go_at_call 15; refine (K4 _).mono ?_; clear K4; rintro e W1 ⟨rfl, b1⟩; replace M := M.later b1; clear b1)
      | (go_at_call 6; refine (awake_anyS _).mono ?_; rintro e W9 ⟨rfl, b9⟩; replace M := M.later b9; clear b9))
    go_ret
    exact ⟨rfl, M.below⟩
  | true =>
    rw [hf4] at K4
    obtain ⟨hid, hfl⟩ := fitS_iff.1 hf
    have HFL : Hid (fitL l = true) := hfl
    have HF3 : Hid (E.fitB ⟨h3, v3, o3, g3⟩ = true) := hf3
    have HF4 : Hid (E.fitB ⟨h4, v4, o4, g4⟩ = true) := hf4
    have KO := fun W (b : Below w.heap.size w W) => rcopy_any a cap l W (hr.below b)
    have T1 := fun (q : Option Addr) (c : Nat) W (R : RdT W q l.length c l) => tick_anyS q c l id W R HFL.out
    have T2 := fun W (b : Below w.heap.size w W) => rtick_anyS a cap l id W (hr.below b) HFL.out hid
    have H1 := fun (q : Option Addr) (c : Nat) W (R : RdT W q l.length c l) => hear_anyS q c l id name h3 v3 o3 g3 h4 v4 o4 g4 W R HFL.out
    have H2 := fun W (b : Below w.heap.size w W) => rhear_anyS a cap l id name h3 v3 o3 g3 h4 v4 o4 g4 W (hr.below b) HFL.out HF3.out HF4.out
    have hft := tkS_fit hfl hid
    have hfh := hrS_fit (id := id) hfl name hf3 hf4
    obtain ⟨LT, eT⟩ : ∃ L, tkS l id = L := ⟨_, rfl⟩
    obtain ⟨LH, eH⟩ : ∃ L, hrS l id name ⟨h3, v3, o3, g3⟩ ⟨h4, v4, o4, g4⟩ = L := ⟨_, rfl⟩
    rw [eT] at T1 T2 hft
    rw [eH] at H1 H2 hfh
    have HFT : Hid (fitL LT = true) := hft
    have HFH : Hid (fitL LH = true) := hfh
    have QT := fun (p q : Option Addr) (c d : Nat) W (R : RdT W p LT.length c LT) (R2 : RdT W q LT.length d LT) => rsame_any p q _ _ c d LT LT W R R2
    have QH := fun (p q : Option Addr) (c d : Nat) W (R : RdT W p LH.length c LH) (R2 : RdT W q LH.length d LH) => rsame_any p q _ _ c d LH LH W R R2
    have QO := fun (p : Option Addr) (c : Nat) W (R : RdT W p l.length c l) (b : Below w.heap.size w W) => rsame_any p a _ _ c cap l l W R (hr.below b)
    rw [sameT_self] at QT QH QO
    have FT := fun (p : Option Addr) (c : Nat) W (R : RdT W p LT.length c LT) => rfit_any8 id p _ c LT W R (names_small HFT.out)
    have FH := fun (p : Option Addr) (c : Nat) W (R : RdT W p LH.length c LH) => rfit_any8 id p _ c LH W R (names_small HFH.out)
    rw [fitS_of hid hft] at FT
    rw [fitS_of hid hfh] at FH
    clear hf hs hid hfl hf3 hf4 hft hfh eT eH
    go_enter Tryz.func4, Tryz.ntmps4
    go_wp2_with (first
      | ((with_reducible show wpList _ _ _ (Oper.mk (some 8) (Op.box 38 _) _ _ _ _ :: _) _ _); refine wpList_box M rfl _ rfl _ rfl ?_; clear M; intro k8 W M)
      | ((with_reducible show wpList _ _ _ (Oper.mk (some 9) (Op.box 38 _) _ _ _ _ :: _) _ _); refine wpList_box M rfl _ rfl _ rfl ?_; clear M; intro k9 W M)
      | ((with_reducible show wpList _ _ _ (Oper.mk _ (Op.load 38 (Operand.tmp 8)) _ _ _ _ :: _) _ _); refine wpList_load M (by rfl) _ rfl rtX rfl (by first | exact .head _ | exact .tail _ (.head _)) (by rfl) ?_)
      | ((with_reducible show wpList _ _ _ (Oper.mk _ (Op.load 38 (Operand.tmp 9)) _ _ _ _ :: _) _ _); refine wpList_load M (by rfl) _ rfl rtX rfl (by first | exact .head _ | exact .tail _ (.head _)) (by rfl) ?_)
      | (go_at_call 5; refine (K1 _ M.below).mono ?_; clear K1; rintro e W1 ⟨rfl, b1⟩; replace M := M.later b1; clear b1)
      | (go_at_call 15; refine (K3 _).mono ?_; clear K3; rintro e W1 ⟨rfl, b1⟩; replace M := M.later b1; clear b1)
      | (go_at_call 15; refine (K4 _).mono ?_; clear K4; rintro e W1 ⟨rfl, b1⟩; replace M := M.later b1; clear b1)
      | (go_at_call 7; refine (KO _ M.below).mono ?_; clear KO; rintro e W1 ⟨a1, c1, rfl, L1, o1, b1⟩; replace M := M.later b1; have R1 := rd8 HFL.out L1; clear b1 o1 L1)
      | (go_at_call 16; refine (T1 _ _ _ R1).mono ?_; clear T1; rintro e W1 ⟨a2, c2, rfl, L1, o1, b1⟩; replace M := M.later b1; have R2 := rd8 HFT.out L1; replace R1 := R1.below b1; clear b1 o1 L1)
      | (go_at_call 17; refine (H1 _ _ _ R1).mono ?_; clear H1; rintro e W1 ⟨a3, c3, rfl, L1, o1, b1⟩; replace M := M.later b1; have R3 := rd8 HFH.out L1; replace R1 := R1.below b1; replace R2 := R2.below b1; clear b1 o1 L1)
      | (go_at_call 18; refine (T2 _ M.below).mono ?_; clear T2; rintro e W1 ⟨a4, c4, rfl, L1, o1, b1⟩; replace M := M.later b1; have R4 := rd8 HFT.out L1; replace R1 := R1.below b1; replace R2 := R2.below b1; replace R3 := R3.below b1; clear b1 o1 L1)
      | (go_at_call 10; refine (QT _ _ _ _ _ R2 R4).mono ?_; clear QT; rintro e W1 ⟨rfl, b1⟩; replace M := M.later b1; replace R1 := R1.below b1; replace R2 := R2.below b1; replace R3 := R3.below b1; clear R4; clear b1)
      | (go_at_call 19; refine (H2 _ M.below).mono ?_; clear H2; rintro e W1 ⟨a5, c5, rfl, L1, o1, b1⟩; replace M := M.later b1; have R5 := rd8 HFH.out L1; replace R1 := R1.below b1; replace R2 := R2.below b1; replace R3 := R3.below b1; clear b1 o1 L1)
      | (go_at_call 10; refine (QH _ _ _ _ _ R3 R5).mono ?_; clear QH; rintro e W1 ⟨rfl, b1⟩; replace M := M.later b1; replace R1 := R1.below b1; replace R2 := R2.below b1; replace R3 := R3.below b1; clear R5; clear b1)
      | (go_at_call 5; refine (FT _ _ _ R2).mono ?_; clear FT; rintro e W1 ⟨rfl, b1⟩; replace M := M.later b1; replace R1 := R1.below b1; replace R3 := R3.below b1; clear R2; clear b1)
      | (go_at_call 5; refine (FH _ _ _ R3).mono ?_; clear FH; rintro e W1 ⟨rfl, b1⟩; replace M := M.later b1; replace R1 := R1.below b1; clear R3; clear b1)
      | (go_at_call 10; refine (QO _ _ _ R1 M.below).mono ?_; clear QO; rintro e W1 ⟨rfl, b1⟩; replace M := M.later b1; clear R1; clear b1)
      | (go_at_call 6; refine (awake_anyS _).mono ?_; rintro e W9 ⟨rfl, b9⟩; replace M := M.later b9; clear b9))
    go_ret
    exact ⟨rfl, M.below⟩
end Go.Proofs.YtoeebofappbneaaGreat

namespace Go.Proofs.YtoeebofappbneaaGreat.chansHears
open Go.ChangeShapes Go.WideShapes Go.ChangeAt Go.RowKit Go.Deep
open Go.ChangeMaps (open_string shut_string)
set_option linter.unusedVariables false
set_option linter.unusedSimpArgs false

theorem own : ownKnob Tryz.prog.godebug = none := by kernel_rfl
theorem laidOut : laidOutB Tryz.prog = true := by kernel_rfl

set_option maxRecDepth 100000 in
theorem lifted (os : Os) (started : os.Started) (H : Type) (enc : TypeId × Value → H) :
    ReturnsInHanded {} Tryz.checked os 4 .any (Rows.chansHearsSpec.pre6 enc Tryz.prog Tryz.f4 Rows.chansHearsRow.domain false) (Rows.chansHearsSpec.post enc Tryz.prog Tryz.f4 false true false false) := by
  refine returnsInHanded_of_change_sized (C := Tryz.checked) own started (by kernel_rfl) Tryz.func4
    (ChangeSpec.witness6 (enc := enc) (C := Tryz.checked) false ⟨#[], #[.int .i64 0, .slice none 0 0, .string ⟨#[]⟩, .agg #[.bool false, .int .i64 0, .int .i64 0, .int .i64 0], .agg #[.bool false, .int .i64 0, .int .i64 0, .int .i64 0]], []⟩ 8 (by kernel_rfl) (by kernel_rfl) (by kernel_rfl) (by kernel_rfl)) ?_
  intro W base args ds gs before hval0 hW hcnd hsz0 _
  have hsz : (DataW.weightsEach Tryz.prog (Tryz.f4.params.toList ++ Rows.chansHearsSpec.plain.varTypes Tryz.prog) (ds ++ gs)).all (· ≤ reachBytes) = true := hsz0
  clear hsz0
  have hval : ∀ (j : Nat) t v, Tryz.f4.params[j]? = some t → args[j]? = some v → Value.okWide Tryz.prog W .any base t v := hval0
  have hW' := hW
  obtain ⟨p, q, hA0, hV, rfl, hfz, hnd⟩ := hW
  have hA : DataW.TrodAll enc Tryz.prog W 0 (fun _ => true) true Tryz.f4.params.toList args.toList ds p := hA0
  rw [Tryz.params4] at hA hval hsz
  obtain ⟨v0, vs0, d0, ds0, p0, q0, hargs, rfl, rfl, h0, r0⟩ := trodAll_cons hA
  obtain ⟨v1, vs1, d1, ds1, p1, q1, rfl, rfl, rfl, h1, r1⟩ := trodAll_cons r0
  obtain ⟨v2, vs2, d2, ds2, p2, q2, rfl, rfl, rfl, h2, r2⟩ := trodAll_cons r1
  obtain ⟨v3, vs3, d3, ds3, p3, q3, rfl, rfl, rfl, h3, r3⟩ := trodAll_cons r2
  obtain ⟨v4, vs4, d4, ds4, p4, q4, rfl, rfl, rfl, h4, r4⟩ := trodAll_cons r3
  obtain ⟨rfl, rfl, rfl⟩ := trodAll_nil r4
  obtain rfl : args = #[v0, v1, v2, v3, v4] := by cases args; simp_all
  obtain ⟨rfl, rfl⟩ := trodVars_none hV
  obtain ⟨a0, rfl, rfl, rfl, w0⟩ := open_int Tryz.underlying3 (hval 0 3 v0 rfl rfl) h0
  have k1 := h1
  have lt1 : ∀ x ∈ p1, x.block < W.heap.size := by obtain ⟨m, hm⟩ := k1; exact DataW.trod_lt m _ _ _ hm
  obtain ⟨a1, len1, cap1, rfl⟩ := okWide_slice Tryz.underlying22 (hval 1 22 v1 rfl rfl)
  obtain ⟨l1, O1, S1⟩ := open_states k1 (sized_arg hsz (j := 1) (t := 22) rfl rfl)
  obtain ⟨a2, rfl, rfl, rfl, w2⟩ := open_string Tryz.underlying9 (hval 2 9 v2 rfl rfl) h2
  have s2 : Hid ((a2.size : Int) ≤ 9223372036854775807) := by show _ ≤ _; have := w2; unfold maxLen at this; omega
  have k3 := h3
  have lt3 : ∀ x ∈ p3, x.block < W.heap.size := by obtain ⟨m, hm⟩ := k3; exact DataW.trod_lt m _ _ _ hm
  obtain ⟨⟨xh3, xv3, xo3, xg3⟩, rfl⟩ := E.open_ext (hval 3 38 v3 rfl rfl) k3
  have k4 := h4
  have lt4 : ∀ x ∈ p4, x.block < W.heap.size := by obtain ⟨m, hm⟩ := k4; exact DataW.trod_lt m _ _ _ hm
  obtain ⟨⟨xh4, xv4, xo4, xg4⟩, rfl⟩ := E.open_ext (hval 4 38 v4 rfl rfl) k4
  clear hA0 hval0
  refine (hears_walk a0 a1 len1 cap1 l1 a2 xh3 xv3 xo3 xg3 xh4 xv4 xo4 xg4 W O1 S1).mono fun e W' ⟨he, bel⟩ => ?_
  subst he
  exact ⟨_, rfl, _, _, _, [], _, [], hW', trodAll_mk1 (shut_bool Tryz.underlying4 _), (trodAll_cons_mk (shut_int Tryz.underlying3 w0) (trodAll_cons_mk (Below.trod laidOut (by kernel_rfl) (of_decide_eq_true (by kernel_rfl)) k1 bel lt1) (trodAll_cons_mk (shut_string Tryz.underlying9 w2) (trodAll_cons_mk (Below.trod laidOut (by kernel_rfl) (of_decide_eq_true (by kernel_rfl)) k3 bel lt3) (trodAll_cons_mk (Below.trod laidOut (by kernel_rfl) (of_decide_eq_true (by kernel_rfl)) k4 bel lt4) trodAll_mk0))))), rfl, bel.frame _, fun h => by cases h⟩

theorem over : Rows.chansHearsRow.holds Tryz.pinned (OpenSpec.ofChange Rows.chansHearsSpec) :=
  OpenClaim.holds_of_wide 4 Tryz.f4 rfl rfl rfl rfl rfl rfl rfl ⟨rfl, rfl, rfl, rfl, rfl⟩ rfl rfl rfl rfl rfl (by kernel_rfl) Tryz.func4 (by kernel_rfl)
    (of_decide_eq_true (by kernel_rfl)) (by unfold Func.isWrapper; first | (rw [if_pos (by decide +kernel)]; kernel_rfl) | (rw [if_neg (by decide +kernel)]; exact ⟨rfl, rfl⟩))
    (fun os started H enc _ => lifted os started H enc)

/-- The statement. -/
theorem proved : Rows.ChansHearsSaid := over
#print axioms proved
end Go.Proofs.YtoeebofappbneaaGreat.chansHears
