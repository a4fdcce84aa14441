/-
  The document: Script.
-/
import Derived.Test.YtpdmpekkmblgmaaE1
namespace Go.Proofs.Ytpdmpekkmblgmaa
open Go.ChangeShapes Go.WideShapes Go.ChangeAt Go.RowKit Go.Maps Go.Shelf
set_option linter.unusedVariables false
set_option linter.unusedSimpArgs false
attribute [local go_sem] Oper.semAt_some

set_option maxRecDepth 100000 in
set_option maxHeartbeats 2000000 in
theorem rahead_any (a : Option Addr) (k cap : Nat) (l : List LK) (w : World) (hr : RdL w a k cap l) (hl : l.length ≤ 256) :
    Calls Try.prog 43 #[.slice a k cap] w fun e w' => ∃ v, e = .returned v ∧ OwS w v (aheadL l) w' := by
  have HN : Hid (l.length ≤ 256 ∧ l.length = k) := ⟨hl, hr.size⟩
  clear hl
  go_enter Try.func43, Try.ntmps43
  go_wp2
  go_loopg [3, 4] k (fun gk v3 v4 wr => ∃ i : Nat, v4 = .int .i64 (i : Int) ∧ i + gk = k ∧ OwS w v3 ((l.take i).flatMap lks) wr)
  case atStart => exact ⟨0, by first | rfl | go_num, by omega, OwS.nil w⟩
  case round =>
    obtain ⟨i, rfl, hg, O⟩ := hrel
    by_cases hi : i < k
    case pos =>
      have hiI : (i : Int) < (k : Int) := by omega
      obtain ⟨b, off, rfl, hb, hd, hra⟩ := hr.at i hi
      obtain ⟨⟨p, q⟩, hgi⟩ : ∃ x : LK, l.getD i LK.z = x := ⟨_, rfl⟩
      rw [hgi] at hra hd
      have kc := fun X (h : Below w.heap.size w X) => cellsL (range_later hra hb h)
      have kc0 : ∀ X, Below w.heap.size w X → X.cell? ⟨b, off + i * 2, none⟩ = some (.int .i64 p) := fun X h => (kc X h).1
      have kc1 : ∀ X, Below w.heap.size w X → X.cell? ⟨b, off + i * 2 + 1, none⟩ = some (.int .i64 q) := fun X h => (kc X h).2
      have HT : Hid ((l.take (i + 1)).flatMap lks = (l.take i).flatMap lks ++ lks (p, q)) := lks_take hd
      have hlen : ((l.take i).flatMap lks).length ≤ 1000 := by rw [lks_len, List.length_take]; have := HN.out; omega
      obtain ⟨xs, hxs⟩ : ∃ xs, (l.take i).flatMap lks = xs := ⟨_, rfl⟩
      rw [hxs] at HT O hlen
      have HX : Hid (xs.length ≤ 1000) := hlen
      have hin : IntKind.i64.wrap ((i : Int) + 1) = (i : Int) + 1 := by rw [IntKind.wrap_i64]; have := HN.out; omega
      clear hd hgi hlen hxs kc hra
      go_wp2
      refine wp_region_any (by kernel_rfl) ?_
      change wpAny _ _ _ _ _ _ _ (World.drew _)
      obtain ⟨WD, hWD⟩ : ∃ WD, World.drew wr = WD := ⟨_, rfl⟩
      rw [hWD]
      have OD : OwS w u3 xs WD := by rw [← hWD]; exact O.later (Below.refl _ _).drew
      clear hWD
      refine wpAny_narrow (fun X => Below w.heap.size w X) _ _ _ _ ?_
      refine anyH_take 0 12 (u3) rfl rfl (by kernel_rfl) (by kernel_rfl) (by kernel_rfl) (fun _ _ _ h => h) (Or.inl ⟨by rfl, by intro w hSw; go_simp⟩) (OD.below) ?_
      try simp only [Act.put, List.setIfInBounds_toArray, List.set_cons_zero, List.set_cons_succ]
      refine anyH_take 1 13 (.slice (some ⟨b, off, none⟩) k cap) rfl rfl (by kernel_rfl) (by kernel_rfl) (by kernel_rfl) (fun _ _ _ h => h) (Or.inl ⟨by rfl, by intro w hSw; go_simp⟩) (OD.below) ?_
      try simp only [Act.put, List.setIfInBounds_toArray, List.set_cons_zero, List.set_cons_succ]
      refine anyH_take 2 14 (.int .i64 (i : Int)) rfl rfl (by kernel_rfl) (by kernel_rfl) (by kernel_rfl) (fun _ _ _ h => h) (Or.inl ⟨by rfl, by intro w hSw; go_simp⟩) (OD.below) ?_
      try simp only [Act.put, List.setIfInBounds_toArray, List.set_cons_zero, List.set_cons_succ]
      refine anyH_take 3 15 (.pointer (some ⟨b, off + i * 2, none⟩)) rfl rfl (by kernel_rfl) (by kernel_rfl) (by kernel_rfl) (fun _ _ _ h => h) (Or.inl ⟨by rfl, by intro w hSw; have z1 := hiI; go_simp⟩) (OD.below) ?_
      try simp only [Act.put, List.setIfInBounds_toArray, List.set_cons_zero, List.set_cons_succ]
      refine anyH_take 4 16 (.pointer (some ⟨b, off + i * 2, none⟩)) rfl rfl (by kernel_rfl) (by kernel_rfl) (by kernel_rfl) (fun _ _ _ h => h) (Or.inl ⟨by rfl, by intro w hSw; go_simp⟩) (OD.below) ?_
      try simp only [Act.put, List.setIfInBounds_toArray, List.set_cons_zero, List.set_cons_succ]
      refine anyH_take 5 17 (.int .i64 p) rfl rfl (by kernel_rfl) (by kernel_rfl) (by kernel_rfl) (fun _ _ _ h => h) (Or.inl ⟨by rfl, by intro w hSw; have z2 := kc0 _ hSw; go_simp⟩) (OD.below) ?_
      try simp only [Act.put, List.setIfInBounds_toArray, List.set_cons_zero, List.set_cons_succ]
      refine anyH_take 6 18 (.slice (some ⟨b, off, none⟩) k cap) rfl rfl (by kernel_rfl) (by kernel_rfl) (by kernel_rfl) (fun _ _ _ h => h) (Or.inl ⟨by rfl, by intro w hSw; go_simp⟩) (OD.below) ?_
      try simp only [Act.put, List.setIfInBounds_toArray, List.set_cons_zero, List.set_cons_succ]
      refine anyH_take 7 19 (.int .i64 (i : Int)) rfl rfl (by kernel_rfl) (by kernel_rfl) (by kernel_rfl) (fun _ _ _ h => h) (Or.inl ⟨by rfl, by intro w hSw; go_simp⟩) (OD.below) ?_
      try simp only [Act.put, List.setIfInBounds_toArray, List.set_cons_zero, List.set_cons_succ]
      refine anyH_take 8 20 (.pointer (some ⟨b, off + i * 2, none⟩)) rfl rfl (by kernel_rfl) (by kernel_rfl) (by kernel_rfl) (fun _ _ _ h => h) (Or.inl ⟨by rfl, by intro w hSw; have z1 := hiI; go_simp⟩) (OD.below) ?_
      try simp only [Act.put, List.setIfInBounds_toArray, List.set_cons_zero, List.set_cons_succ]
      refine anyH_take 9 21 (.pointer (some ⟨b, off + i * 2 + 1, none⟩)) rfl rfl (by kernel_rfl) (by kernel_rfl) (by kernel_rfl) (fun _ _ _ h => h) (Or.inl ⟨by rfl, by intro w hSw; go_simp⟩) (OD.below) ?_
      try simp only [Act.put, List.setIfInBounds_toArray, List.set_cons_zero, List.set_cons_succ]
      refine anyH_take 10 22 (.int .i64 q) rfl rfl (by kernel_rfl) (by kernel_rfl) (by kernel_rfl) (fun _ _ _ h => h) (Or.inl ⟨by rfl, by intro w hSw; have z2 := kc1 _ hSw; go_simp⟩) (OD.below) ?_
      try simp only [Act.put, List.setIfInBounds_toArray, List.set_cons_zero, List.set_cons_succ]
      refine anyH_take 11 23 (.agg #[.int .i64 1, .int .i64 p, .int .i64 q, .string ⟨#[]⟩, .int .i64 0, .int .i64 0]) rfl rfl (by kernel_rfl) (by kernel_rfl) (by kernel_rfl) (fun _ _ _ h => h) (Or.inl ⟨by rfl, by intro w hSw; go_simp⟩) (OD.below) ?_
      try simp only [Act.put, List.setIfInBounds_toArray, List.set_cons_zero, List.set_cons_succ]
      refine anyH_take 12 24 (.slice (some ⟨b, off, none⟩) k cap) rfl rfl (by kernel_rfl) (by kernel_rfl) (by kernel_rfl) (fun _ _ _ h => h) (Or.inl ⟨by rfl, by intro w hSw; go_simp⟩) (OD.below) ?_
      try simp only [Act.put, List.setIfInBounds_toArray, List.set_cons_zero, List.set_cons_succ]
      refine anyH_take 13 25 (.int .i64 (i : Int)) rfl rfl (by kernel_rfl) (by kernel_rfl) (by kernel_rfl) (fun _ _ _ h => h) (Or.inl ⟨by rfl, by intro w hSw; go_simp⟩) (OD.below) ?_
      try simp only [Act.put, List.setIfInBounds_toArray, List.set_cons_zero, List.set_cons_succ]
      refine anyH_take 14 26 (.pointer (some ⟨b, off + i * 2, none⟩)) rfl rfl (by kernel_rfl) (by kernel_rfl) (by kernel_rfl) (fun _ _ _ h => h) (Or.inl ⟨by rfl, by intro w hSw; have z1 := hiI; go_simp⟩) (OD.below) ?_
      try simp only [Act.put, List.setIfInBounds_toArray, List.set_cons_zero, List.set_cons_succ]
      refine anyH_take 15 27 (.pointer (some ⟨b, off + i * 2 + 1, none⟩)) rfl rfl (by kernel_rfl) (by kernel_rfl) (by kernel_rfl) (fun _ _ _ h => h) (Or.inl ⟨by rfl, by intro w hSw; go_simp⟩) (OD.below) ?_
      try simp only [Act.put, List.setIfInBounds_toArray, List.set_cons_zero, List.set_cons_succ]
      refine anyH_take 16 28 (.int .i64 q) rfl rfl (by kernel_rfl) (by kernel_rfl) (by kernel_rfl) (fun _ _ _ h => h) (Or.inl ⟨by rfl, by intro w hSw; have z2 := kc1 _ hSw; go_simp⟩) (OD.below) ?_
      try simp only [Act.put, List.setIfInBounds_toArray, List.set_cons_zero, List.set_cons_succ]
      refine anyH_take 17 29 (.slice (some ⟨b, off, none⟩) k cap) rfl rfl (by kernel_rfl) (by kernel_rfl) (by kernel_rfl) (fun _ _ _ h => h) (Or.inl ⟨by rfl, by intro w hSw; go_simp⟩) (OD.below) ?_
      try simp only [Act.put, List.setIfInBounds_toArray, List.set_cons_zero, List.set_cons_succ]
      refine anyH_take 18 30 (.int .i64 (i : Int)) rfl rfl (by kernel_rfl) (by kernel_rfl) (by kernel_rfl) (fun _ _ _ h => h) (Or.inl ⟨by rfl, by intro w hSw; go_simp⟩) (OD.below) ?_
      try simp only [Act.put, List.setIfInBounds_toArray, List.set_cons_zero, List.set_cons_succ]
      refine anyH_take 19 31 (.pointer (some ⟨b, off + i * 2, none⟩)) rfl rfl (by kernel_rfl) (by kernel_rfl) (by kernel_rfl) (fun _ _ _ h => h) (Or.inl ⟨by rfl, by intro w hSw; have z1 := hiI; go_simp⟩) (OD.below) ?_
      try simp only [Act.put, List.setIfInBounds_toArray, List.set_cons_zero, List.set_cons_succ]
      refine anyH_take 20 32 (.pointer (some ⟨b, off + i * 2, none⟩)) rfl rfl (by kernel_rfl) (by kernel_rfl) (by kernel_rfl) (fun _ _ _ h => h) (Or.inl ⟨by rfl, by intro w hSw; go_simp⟩) (OD.below) ?_
      try simp only [Act.put, List.setIfInBounds_toArray, List.set_cons_zero, List.set_cons_succ]
      refine anyH_take 21 33 (.int .i64 p) rfl rfl (by kernel_rfl) (by kernel_rfl) (by kernel_rfl) (fun _ _ _ h => h) (Or.inl ⟨by rfl, by intro w hSw; have z2 := kc0 _ hSw; go_simp⟩) (OD.below) ?_
      try simp only [Act.put, List.setIfInBounds_toArray, List.set_cons_zero, List.set_cons_succ]
      refine anyH_take 22 34 (.agg #[.int .i64 1, .int .i64 q, .int .i64 p, .string ⟨#[]⟩, .int .i64 0, .int .i64 0]) rfl rfl (by kernel_rfl) (by kernel_rfl) (by kernel_rfl) (fun _ _ _ h => h) (Or.inl ⟨by rfl, by intro w hSw; go_simp⟩) (OD.below) ?_
      try simp only [Act.put, List.setIfInBounds_toArray, List.set_cons_zero, List.set_cons_succ]
      have OB := OD.later ((Below.refl _ WD).alloc (Nat.le_refl _) (.cells (csS (lks (p, q))).toArray 74))
      refine wpAnyH_ready (rs := [23]) (by kernel_rfl) (by simp) ?_
      refine AllReadyH.cons rfl (fun K hK => ?_) AllReadyH.nil
      go_simp
      refine hK.out _ _ (OB.below) (fun hS => ?_)
      clear hK
      refine wpAnyH_ready (rs := [24]) (by kernel_rfl) (by simp) ?_
      refine AllReadyH.cons rfl (fun K hK => ?_) AllReadyH.nil
      refine wp_apps _ _ rfl w.heap.size _ _ _ rfl OB.own ⟨_, 0, none⟩ 2 (lks (p, q)) rfl rfl (fun j u hu => row_alloc (csS (lks (p, q))) 74 j u hu _ (by simp)) (by have := HX.out; omega) (Nat.le_trans OB.below.size (Nat.le_refl _)) ?_
      intro v' w' r1 r2
      have O9 := OB.more (lks (p, q)) r1 r2
      refine hK.out _ _ (O9.below) (fun hS => ?_)
      clear hK
      refine anyH_take 25 3 (v') rfl rfl (by kernel_rfl) (by kernel_rfl) (by kernel_rfl) (fun _ _ _ h => h) (Or.inl ⟨by rfl, by intro w hSw; go_simp⟩) (O9.below) ?_
      try simp only [Act.put, List.setIfInBounds_toArray, List.set_cons_zero, List.set_cons_succ]
      refine wpAnyH_done (by kernel_rfl) ?_ _
      go_wp2
      go_roundg (gk - 1)
      case measure => omega
      case rel => exact ⟨i + 1, by first | rfl | go_num, by omega, by rw [HT.out]; exact O9⟩
    case neg =>
      have hiI : ¬ (i : Int) < (k : Int) := by omega
      have HT : Hid (l.take i = l) := by show _ = _; rw [List.take_of_length_le (by have := HN.out; omega)]
      rw [HT.out] at O
      have HX : Hid ((l.flatMap lks).length ≤ 512) := by show _ ≤ _; rw [lks_len]; have := HN.out; omega
      obtain ⟨xs, hxs⟩ : ∃ xs, l.flatMap lks = xs := ⟨_, rfl⟩
      have HXE : Hid (l.flatMap lks = xs) := hxs
      rw [hxs] at O HX
      clear hxs HT hr
      go_wp2
      go_loopg [3, 5] 6 (fun gk v3 v5 wr => ∃ j : Nat, v5 = .int .i64 (j : Int) ∧ j + gk = 6 ∧ OwS w v3 (xs ++ List.replicate j rnd1) wr)
      case atStart => exact ⟨0, by first | rfl | go_num, by omega, by rw [List.replicate_zero, List.append_nil]; exact O⟩
      case round =>
        clear O
        obtain ⟨j, rfl, hgj, O⟩ := hrel
        by_cases hj : j < 6
        case pos =>
          have hjI : (j : Int) < 6 := by omega
          have HT : Hid (xs ++ List.replicate (j + 1) rnd1 = (xs ++ List.replicate j rnd1) ++ [rnd1]) := by show _ = _; rw [List.replicate_succ', List.append_assoc]
          have HY : Hid ((xs ++ List.replicate j rnd1).length ≤ 600) := by show _ ≤ _; rw [List.length_append, List.length_replicate]; have := HX.out; omega
          obtain ⟨ys, hys⟩ : ∃ ys, xs ++ List.replicate j rnd1 = ys := ⟨_, rfl⟩
          rw [hys] at O HT HY
          have hin : IntKind.i64.wrap ((j : Int) + 1) = (j : Int) + 1 := by rw [IntKind.wrap_i64]; omega
          have OB := O.later ((Below.refl _ _).alloc (Nat.le_refl _) (.cells (csS [rnd1]).toArray 74))
          clear hys
          go_wp2_with ((with_reducible show wpList _ _ _ (Oper.mk _ (Op.call { callee := Callee.builtin Builtin.append, args := _, argTypes := _ }) _ _ _ _ :: _) _ _); refine wpList_apps rfl _ _ rfl w.heap.size _ _ _ rfl OB.own ⟨_, 0, none⟩ 1 ([rnd1]) rfl rfl (fun j u hu => row_alloc (csS ([rnd1])) 74 j u hu _ (by simp)) (by have := HY.out; omega) (Nat.le_trans OB.below.size (Nat.le_refl _)) ?_; intro v' w' r1 r2; have O9 := OB.more ([rnd1]) r1 r2)
          go_roundg (gk - 1)
          case measure => omega
          case rel => exact ⟨j + 1, by first | rfl | go_num, by omega, by rw [HT.out]; exact O9⟩
        case neg =>
          have hjI : ¬ (j : Int) < 6 := by omega
          have hj6 : j = 6 := by omega
          rw [hj6] at O
          have HAE : Hid (xs ++ List.replicate 6 rnd1 = aheadL l) := by show _ = _; unfold aheadL; rw [HXE.out]
          rw [HAE.out] at O
          go_wp2
          go_ret
          exact ⟨_, rfl, O⟩
end Go.Proofs.Ytpdmpekkmblgmaa
