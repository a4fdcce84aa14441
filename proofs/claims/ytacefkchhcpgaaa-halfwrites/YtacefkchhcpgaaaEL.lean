/-
  slices.Delete, slices.Insert and slices.Replace of one line: the calls.
-/
import Derived.Test.YtacefkchhcpgaaaDL
namespace Go.Proofs.Ytacefkchhcpgaaa
open Go.ChangeShapes Go.WideShapes Go.ChangeAt Go.RowKit
set_option linter.unusedVariables false
set_option linter.unusedSimpArgs false

set_option maxHeartbeats 4000000 in
theorem delete_sameL (a : Option Addr) (n cap : Nat) (ds : List LS) (i : Nat) (w : World) (L : LstL w a n cap ds) (hi : i ≤ n) : Calls Try.prog 55 #[.slice a n cap, .int .i64 (i : Int), .int .i64 (i : Int)] w fun e w' => e = .returned (.slice a n cap) ∧ w' = w := by
  have hmx : n ≤ 9223372036854775807 := Nat.le_trans L.le L.max
  have hle := L.le
  have h5 : i ≤ cap := by omega
  have go : ∀ (P : Prop), P → P := fun _ h => h
  rcases L.mem with ⟨rfl, rfl⟩ | ⟨g, off, cur, rfl, hh, hc, ht⟩
  · obtain rfl : n = 0 := by omega
    obtain rfl : i = 0 := by omega
    clear L ds hle
    go_enter Try.func55, Try.ntmps55
    go_wp2
    go_ret
    exact ⟨rfl, rfl⟩
  · clear L ht hh hc
    by_cases hni : n = i
    · subst hni
      go_enter Try.func55, Try.ntmps55
      go_wp2
      all_goals go_ret
      all_goals exact ⟨rfl, rfl⟩
    · go_enter Try.func55, Try.ntmps55
      go_wp2
      all_goals go_ret
      all_goals exact ⟨rfl, rfl⟩
set_option maxHeartbeats 4000000 in
theorem delete_oneL (g off n cap : Nat) (ds : List LS) (i j : Nat) (w : World) (L : LstL w (some ⟨g, off, none⟩) n cap ds) (hi : i < n) (hj : j = i + 1) : Calls Try.prog 55 #[.slice (some ⟨g, off, none⟩) n cap, .int .i64 (i : Int), .int .i64 (j : Int)] w fun e w' => e = .returned (.slice (some ⟨g, off, none⟩) (n - 1) cap) ∧ LstL w' (some ⟨g, off, none⟩) (n - 1) cap (ds.eraseIdx i) ∧ Only (at1 g) w w' := by
  have hmx : n ≤ 9223372036854775807 := Nat.le_trans L.le L.max
  have hle := L.le
  have h1 : i ≤ j := by omega
  have h2 : j ≤ n := by omega
  have h4 : ¬ (i : Int) = (j : Int) := by omega
  have h4' : ¬ i = j := by omega
  have h5 : j ≤ cap := by omega
  have h6 : i ≤ cap := by omega
  have hJ : Hid (j = i + 1) := hj
  have hI : Hid (i < n) := hi
  clear hj hi
  go_enter Try.func55, Try.ntmps55
  go_wp2_with (fail)
  refine wp_region_any (by kernel_rfl) ?_
  change wpAny _ _ _ _ _ _ _ (World.drew _)
  have Ld : LstL w.drew (some ⟨g, off, none⟩) n cap ds := L.of_block fun _ _ _ => rfl
  have od : Only (at1 g) w w.drew := (Only.refl _ _).drew
  refine any_take 0 20 (.slice (some ⟨g, off, none⟩) n cap) rfl rfl (by kernel_rfl) (by kernel_rfl) (by kernel_rfl) (fun _ _ _ h => h) (Or.inl ⟨by rfl, by intro w; go_simp⟩) ?_
  try simp only [Act.put, List.setIfInBounds_toArray, List.set_cons_zero, List.set_cons_succ]
  refine any_take 1 21 (.int .i64 (i : Int)) rfl rfl (by kernel_rfl) (by kernel_rfl) (by kernel_rfl) (fun _ _ _ h => h) (Or.inl ⟨by rfl, by intro w; go_simp⟩) ?_
  try simp only [Act.put, List.setIfInBounds_toArray, List.set_cons_zero, List.set_cons_succ]
  refine any_take 2 22 (.slice (some ⟨g, off, none⟩) i cap) rfl rfl (by kernel_rfl) (by kernel_rfl) (by kernel_rfl) (fun _ _ _ h => h) (Or.inl ⟨by rfl, by intro w; go_simp⟩) ?_
  try simp only [Act.put, List.setIfInBounds_toArray, List.set_cons_zero, List.set_cons_succ]
  refine any_take 3 23 (.slice (some ⟨g, off, none⟩) n cap) rfl rfl (by kernel_rfl) (by kernel_rfl) (by kernel_rfl) (fun _ _ _ h => h) (Or.inl ⟨by rfl, by intro w; go_simp⟩) ?_
  try simp only [Act.put, List.setIfInBounds_toArray, List.set_cons_zero, List.set_cons_succ]
  refine any_take 4 24 (.int .i64 (j : Int)) rfl rfl (by kernel_rfl) (by kernel_rfl) (by kernel_rfl) (fun _ _ _ h => h) (Or.inl ⟨by rfl, by intro w; go_simp⟩) ?_
  try simp only [Act.put, List.setIfInBounds_toArray, List.set_cons_zero, List.set_cons_succ]
  refine any_take 5 25 (.slice (if cap = j then some ⟨g, off, none⟩ else some ⟨g, off + j * 4, none⟩) (n - j) (cap - j)) rfl rfl (by kernel_rfl) (by kernel_rfl) (by kernel_rfl) (fun _ _ _ h => h) (Or.inl ⟨by rfl, by intro w; go_simp⟩) ?_
  try simp only [Act.put, List.setIfInBounds_toArray, List.set_cons_zero, List.set_cons_succ]
  refine wpAny_ready (rs := [6]) (by kernel_rfl) (by simp) ?_
  refine AllReady.cons rfl (fun K hK => ?_) AllReady.nil
  have hi := hI.out
  have hj := hJ.out
  refine wp_append_overL _ _ rfl i j (n - j) (n - 1) (by omega) Ld h1 (by omega) rfl _ rfl (by by_cases hc : cap = j; (· rw [if_pos hc]; exact .inr ⟨by omega, rfl⟩); (· rw [if_neg hc]; exact .inl rfl)) ?_
  intro w2 L2 o2
  refine hK _ _ ?_
  clear hK
  try simp only [Act.put, List.setIfInBounds_toArray, List.set_cons_zero, List.set_cons_succ]
  refine any_take 7 0 (.slice (some ⟨g, off, none⟩) (n - 1) cap) rfl rfl (by kernel_rfl) (by kernel_rfl) (by kernel_rfl) (fun _ _ _ h => h) (Or.inl ⟨by rfl, by intro w; go_simp⟩) ?_
  try simp only [Act.put, List.setIfInBounds_toArray, List.set_cons_zero, List.set_cons_succ]
  refine wpAny_done (by kernel_rfl) ?_ _
  generalize (if cap = j then some (⟨g, off, none⟩ : Addr) else some ⟨g, off + j * 4, none⟩) = ad0
  obtain ⟨q, hq⟩ : ∃ q, n - 1 = q := ⟨_, rfl⟩
  rw [hq]
  have g1 : q ≤ n := by omega
  have g2 : q ≤ cap := by omega
  have g3 : q + 1 = n := by omega
  have g4 : ¬ cap = q := by omega
  have g5 : n - q = 1 := by omega
  have HQ : Hid (q + 1 = n ∧ i < n ∧ j = i + 1) := ⟨g3, hi, hj⟩
  clear g3 hi hj h4 h4'
  go_wp2_with ((with_reducible show wpList _ _ _ (Oper.mk _ (Op.call { callee := Callee.builtin Builtin.clear, args := _, argTypes := _ }) _ _ _ _ :: _) _ _); go_must (refine wpList_clear1L rfl _ rfl q L2 (by have := HQ.out; omega) (by first | rfl | (rw [← g5]; rfl)) ?_; intro w3 L3 o3))
  go_ret
  rw [hq]
  refine ⟨rfl, ?_, (od.trans o2).trans o3⟩
  obtain ⟨g3, hi, hj⟩ := HQ.out
  have hs := L.size
  have hA : (ds.take i ++ ds.drop j).length = q := by rw [List.length_append, List.length_take, List.length_drop]; omega
  have L4 := L3.short q g1
  rw [List.take_left' (by rw [List.length_take, L2.size]; omega), List.take_left' hA, hj, ← List.eraseIdx_eq_take_drop_succ] at L4
  exact L4
/-- slices.Insert at the end. -/
theorem insert_endL (a : Option Addr) (n cap s : Nat) (ds : List LS) (d : LS) (w : World) (L : LstL w a n cap ds) (hd : w.rangeAt s 0 d.cells) (hn : n ≤ 65536) : Calls Try.prog 69 #[.slice a n cap, .int .i64 (n : Int), .slice (some ⟨s, 0, none⟩) 1 1] w fun e w' => ∃ a' cap', e = .returned (.slice a' (n + 1) cap') ∧ LstL w' a' (n + 1) cap' (ds ++ [d]) ∧ (∀ g off, a' = some ⟨g, off, none⟩ → (∃ o, a = some ⟨g, o, none⟩) ∨ w.heap.size ≤ g) ∧ Only (atL a) w w' := by
  have hmx : n ≤ 9223372036854775807 := Nat.le_trans L.le L.max
  have hle := L.le
  have HN : Hid (n ≤ 65536) := hn
  rcases L.mem with ⟨rfl, rfl⟩ | ⟨g, off, cur, rfl, hh, hc, ht⟩
  · obtain rfl : n = 0 := by omega
    go_enter Try.func69, Try.ntmps69
    go_wp2_with ((with_reducible show wpList _ _ _ (Oper.mk _ (Op.call { callee := Callee.builtin Builtin.append, args := _, argTypes := _ }) _ _ _ _ :: _) _ _); go_must (refine wpList_append1L rfl _ _ rfl rfl rfl L hd HN.out ?_; intro a1 c1 w1 L1 o1 O1))
    go_ret
    exact ⟨a1, c1, rfl, L1, o1, O1⟩
  · clear ht hh hc
    by_cases hcn : cap = n
    all_goals
      go_enter Try.func69, Try.ntmps69
      go_wp2_with ((with_reducible show wpList _ _ _ (Oper.mk _ (Op.call { callee := Callee.builtin Builtin.append, args := _, argTypes := _ }) _ _ _ _ :: _) _ _); go_must (refine wpList_append1L rfl _ _ rfl rfl rfl L hd HN.out ?_; intro a1 c1 w1 L1 o1 O1))
      go_ret
      exact ⟨a1, c1, rfl, L1, o1, O1⟩
set_option maxRecDepth 100000 in
set_option maxHeartbeats 4000000 in
/-- slices.Insert where there is room. -/
theorem insert_roomL (g off n cap s : Nat) (ds : List LS) (d : LS) (i : Nat) (w : World) (L : LstL w (some ⟨g, off, none⟩) n cap ds) (hd : w.heap[s]? = some (.cells d.cells.toArray 44 (0, 0))) (hsg : s ≠ g) (hn : n ≤ 65536) (hi : i < n) (hr : n + 1 ≤ cap) : Calls Try.prog 69 #[.slice (some ⟨g, off, none⟩) n cap, .int .i64 (i : Int), .slice (some ⟨s, 0, none⟩) 1 1] w fun e w' => e = .returned (.slice (some ⟨g, off, none⟩) (n + 1) cap) ∧ LstL w' (some ⟨g, off, none⟩) (n + 1) cap (ds.take i ++ d :: ds.drop i) ∧ Only (at1 g) w w' := by
  have hmx := L.max
  have hsz := L.size
  have HN : Hid (n ≤ 65536 ∧ ds.length = n) := ⟨hn, hsz⟩
  clear hsz
  have n1 : ¬ (i : Int) = (n : Int) := by omega
  have n2 : ¬ (cap : Int) < (n : Int) + 1 := by omega
  have n3 : (i : Int) ≤ (n : Int) := by omega
  have n4 : i ≤ n := by omega
  have n5 : ¬ cap = i := by omega
  have n6 : ¬ cap = i + 1 := by omega
  have n7 : n + 1 ≤ cap := hr
  have n8 : i + 1 ≤ n + 1 := by omega
  have n9 : i ≤ n + 1 := by omega
  have hw1 : IntKind.i64.wrap ((i : Int) + 1) = (i : Int) + 1 := by rw [IntKind.wrap_i64]; omega
  have hw2 : IntKind.i64.wrap ((n : Int) + 1) = (n : Int) + 1 := by rw [IntKind.wrap_i64]; omega
  have hb1 : ¬ (i : Int) + 1 < 0 := by omega
  have hb3 : ¬ (n : Int) + 1 < (i : Int) := by omega
  have hov : ∀ la ca, (callFunc 70 #[.slice (some ⟨s, 0, none⟩) 1 1, .slice (some ⟨g, off + (i + 1) * 4, none⟩) la ca]).run Try.prog w = .ok (.value (.bool false)) w := by
    intro la ca
    rcases L.mem with ⟨e, _⟩ | ⟨g', off', cur, e, hh, hc, ht⟩
    · cases e
    · cases e
      rw [run_callFunc_extern Try.func70 (by kernel_rfl) (by kernel_rfl) (by kernel_rfl) (e := Extern.SlicesOverlaps.overlaps #[22, 22] #[4]) (by kernel_rfl),
        Lib.run_overlaps_apart (P := Try.prog) w 22 4 44 Try.underlying22 4 (fun w => by obtain ⟨i0, hi0, hz0, hz1, hz2⟩ := info_parts info44; simp [sizeOf, typeInfo, hi0, hz1]) ⟨s, 0, none⟩ ⟨g, off + (i + 1) * 4, none⟩ 1 1 la ca hsg 44 44 d.cells.toArray.size cur.size (by simp [World.shape?, hd]) (by simp [World.shape?, hh]) (by omega) (row_free hd 0) (row_free hd _)]
      rfl
  go_enter Try.func69, Try.ntmps69
  go_wp2_with (simp only [hov])
  refine wp_region_any (by kernel_rfl) ?_
  change wpAny _ _ _ _ _ _ _ (World.drew _)
  have Ld : LstL w.drew (some ⟨g, off, none⟩) n cap ds := L.of_block fun _ _ _ => rfl
  have od : Only (at1 g) w w.drew := (Only.refl _ _).drew
  refine any_take 0 69 (.slice (some ⟨g, off, none⟩) (n + 1) cap) rfl rfl (by kernel_rfl) (by kernel_rfl) (by kernel_rfl) (fun _ _ _ h => h) (Or.inl ⟨by rfl, by intro w; go_simp⟩) ?_
  try simp only [Act.put, List.setIfInBounds_toArray, List.set_cons_zero, List.set_cons_succ]
  refine any_take 1 70 (.int .i64 (i : Int)) rfl rfl (by kernel_rfl) (by kernel_rfl) (by kernel_rfl) (fun _ _ _ h => h) (Or.inl ⟨by rfl, by intro w; go_simp⟩) ?_
  try simp only [Act.put, List.setIfInBounds_toArray, List.set_cons_zero, List.set_cons_succ]
  refine any_take 2 71 (.int .i64 1) rfl rfl (by kernel_rfl) (by kernel_rfl) (by kernel_rfl) (fun _ _ _ h => h) (Or.inl ⟨by rfl, by intro w; go_simp⟩) ?_
  try simp only [Act.put, List.setIfInBounds_toArray, List.set_cons_zero, List.set_cons_succ]
  refine any_take 3 72 (.int .i64 ((i : Int) + 1)) rfl rfl (by kernel_rfl) (by kernel_rfl) (by kernel_rfl) (fun _ _ _ h => h) (Or.inl ⟨by rfl, by intro w; go_simp⟩) ?_
  try simp only [Act.put, List.setIfInBounds_toArray, List.set_cons_zero, List.set_cons_succ]
  refine any_take 4 73 (.slice (some ⟨g, off + (i + 1) * 4, none⟩) (n - i) (cap - (i + 1))) rfl rfl (by kernel_rfl) (by kernel_rfl) (by kernel_rfl) (fun _ _ _ h => h) (Or.inl ⟨by rfl, by intro w; go_simp⟩) ?_
  try simp only [Act.put, List.setIfInBounds_toArray, List.set_cons_zero, List.set_cons_succ]
  refine any_take 5 74 (.slice (some ⟨g, off, none⟩) (n + 1) cap) rfl rfl (by kernel_rfl) (by kernel_rfl) (by kernel_rfl) (fun _ _ _ h => h) (Or.inl ⟨by rfl, by intro w; go_simp⟩) ?_
  try simp only [Act.put, List.setIfInBounds_toArray, List.set_cons_zero, List.set_cons_succ]
  refine any_take 6 75 (.int .i64 (i : Int)) rfl rfl (by kernel_rfl) (by kernel_rfl) (by kernel_rfl) (fun _ _ _ h => h) (Or.inl ⟨by rfl, by intro w; go_simp⟩) ?_
  try simp only [Act.put, List.setIfInBounds_toArray, List.set_cons_zero, List.set_cons_succ]
  refine any_take 7 76 (.slice (some ⟨g, off + i * 4, none⟩) (n + 1 - i) (cap - i)) rfl rfl (by kernel_rfl) (by kernel_rfl) (by kernel_rfl) (fun _ _ _ h => h) (Or.inl ⟨by rfl, by intro w; go_simp⟩) ?_
  try simp only [Act.put, List.setIfInBounds_toArray, List.set_cons_zero, List.set_cons_succ]
  refine wpAny_ready (rs := [8]) (by kernel_rfl) (by simp) ?_
  refine AllReady.cons rfl (fun K hK => ?_) AllReady.nil
  refine wp_copyL (es := ds.drop i) _ _ rfl (Ld.tail (i + 1) (n + 1) (ds.drop i) (by omega) (by have := HN.out; rw [List.length_drop]; omega) hr) (by have := HN.out; rw [List.length_drop]; show _ = min _ _; omega) (fun j u hj => by rw [add_plain]; exact Ld.range i n4 j u hj) rfl rfl ?_
  intro w2 L2 o2
  refine hK _ _ ?_
  clear hK
  try simp only [Act.put, List.setIfInBounds_toArray, List.set_cons_zero, List.set_cons_succ]
  refine wpAny_done (by kernel_rfl) ?_ _
  have hd2 := range_rowL ((o2.block s (row_lt hd) hsg).trans hd)
  have H3 := L2.over i [d] (by simp; omega)
  clear hov
  go_wp2_with ((with_reducible show wpList _ _ _ (Oper.mk _ (Op.call { callee := Callee.builtin Builtin.copy, args := _, argTypes := _ }) _ _ _ _ :: _) _ _); go_must (refine wpList_copyL (es := [d]) rfl _ _ rfl H3 (by show 1 = min _ _; omega) (fun j u hj => by rw [add_plain]; exact hd2 j u (by simpa [csL] using hj)) rfl rfl ?_; intro w3 L3 o3))
  go_ret
  refine ⟨rfl, ?_, (od.trans o2).trans o3⟩
  obtain ⟨_, hs⟩ := HN.out
  have e1 : (ds.take (i + 1) ++ ds.drop i).take i = ds.take i := by rw [List.take_append_of_le_length (by rw [List.length_take]; omega), List.take_take, Nat.min_eq_left (by omega)]
  have e2 : (ds.take (i + 1) ++ ds.drop i).drop (i + [d].length) = ds.drop i := List.drop_left' (by rw [List.length_take]; simp; omega)
  rw [e1, e2, List.append_assoc] at L3
  exact L3
set_option maxRecDepth 100000 in
set_option maxHeartbeats 4000000 in
/-- slices.Insert where there is no room. -/
theorem insert_growL (g off n cap s : Nat) (ds : List LS) (d : LS) (i : Nat) (w : World) (L : LstL w (some ⟨g, off, none⟩) n cap ds) (hd : w.heap[s]? = some (.cells d.cells.toArray 44 (0, 0))) (hn : n + 1 ≤ 65536) (hi : i < n) (hr : cap < n + 1) : Calls Try.prog 69 #[.slice (some ⟨g, off, none⟩) n cap, .int .i64 (i : Int), .slice (some ⟨s, 0, none⟩) 1 1] w fun e w' => ∃ cap', e = .returned (.slice (some ⟨w.heap.size, 0, none⟩) (n + 1) cap') ∧ LstL w' (some ⟨w.heap.size, 0, none⟩) (n + 1) cap' (ds.take i ++ d :: ds.drop i) ∧ Below w.heap.size w w' := by
  have hle := L.le
  obtain rfl : cap = n := by omega
  have hmx := L.max
  have hsz := L.size
  have HN : Hid (cap + 1 ≤ 65536 ∧ ds.length = cap) := ⟨hn, hsz⟩
  clear hsz hle hr
  have n1 : ¬ (i : Int) = (cap : Int) := by omega
  have n2 : (cap : Int) < (cap : Int) + 1 := by omega
  have n3 : (i : Int) ≤ (cap : Int) := by omega
  have n4 : i ≤ cap := by omega
  have n5 : ¬ cap = i := by omega
  have hw1 : IntKind.i64.wrap ((i : Int) + 1) = (i : Int) + 1 := by rw [IntKind.wrap_i64]; omega
  have hw2 : IntKind.i64.wrap ((cap : Int) + 1) = (cap : Int) + 1 := by rw [IntKind.wrap_i64]; omega
  obtain ⟨k, hk⟩ : ∃ k, i + k = cap + 1 := ⟨cap + 1 - i, by omega⟩
  have hw3 : IntKind.i64.wrap ((cap : Int) + 1 - (i : Int)) = (k : Int) := by rw [IntKind.wrap_i64]; omega
  have hw4 : (cap : Int) + 1 - (i : Int) = (k : Int) := by omega
  have HK : Hid (i + k = cap + 1 ∧ i < cap) := ⟨hk, hi⟩
  have hlt := L.lt
  have hs := row_lt hd
  clear hi hk
  go_enter Try.func69, Try.ntmps69
  go_wp2_with (first
    | ((with_reducible show wpList _ _ _ (Oper.mk _ (Op.call { callee := Callee.builtin Builtin.append, args := _, argTypes := #[22, 3] }) _ _ _ _ :: _) _ _); go_must (refine wpList_zerosL rfl _ _ rfl i k L n4 (by have := HK.out; omega) (by have := HK.out; omega) (by have := HK.out; have := HN.out; omega) rfl (by first | rfl | (simp only [← hw4]; rfl)) ?_; intro c1 w1 hc1 L1 b1; rw [HK.out.1] at hc1 L1 ⊢; have g1 : ¬ c1 = i := (by have := HK.out; omega); have g2 : ¬ c1 = i + 1 := (by have := HK.out; omega); have g3 := L1.max; have g4 : i ≤ c1 := (by have := HK.out; omega); have g5 : i + 1 ≤ c1 := (by have := HK.out; omega); have H1 := L1.over i [d] (by show i + 1 ≤ cap + 1; have := HK.out; omega); have d1 := range_rowL ((b1.block s hs).trans hd)))
    | ((with_reducible show wpList _ _ _ (Oper.mk _ (Op.call { callee := Callee.builtin Builtin.copy, args := _, argTypes := _ }) _ _ _ _ :: _) _ _); go_must (refine wpList_copyL (es := [d]) (dl := cap + 1 - i) (dc := c1 - i) (sl := 1) rfl _ _ rfl H1 (by show 1 = min _ _; have := HK.out; omega) (fun j u hj => by rw [add_plain]; exact d1 j u (by simpa [csL] using hj)) (by rw [Nat.zero_add]; rfl) rfl ?_; intro w2 L2 o2)))
  try simp only [Act.put, List.setIfInBounds_toArray, List.set_cons_zero, List.set_cons_succ]
  refine wp_region_any (by kernel_rfl) ?_
  change wpAny _ _ _ _ _ _ _ (World.drew _)
  have L2d := L2.of_block (W' := w2.drew) fun _ _ _ => rfl
  have Lg : LstL w2.drew (some ⟨g, off, none⟩) cap cap ds := L.of_block fun g' o' e => by cases e; exact (o2.block g (Nat.lt_of_lt_of_le hlt b1.size) (by show ¬ g = _; omega)).trans (b1.block g hlt)
  have hb1 : ¬ (i : Int) + 1 < 0 := by omega
  have hb3 : ¬ (cap : Int) < (i : Int) := by omega
  refine any_take 0 46 (.slice (some ⟨w.heap.size, 0, none⟩) (cap + 1) c1) rfl rfl (by kernel_rfl) (by kernel_rfl) (by kernel_rfl) (fun _ _ _ h => h) (Or.inl ⟨by rfl, by intro w; go_simp⟩) ?_
  try simp only [Act.put, List.setIfInBounds_toArray, List.set_cons_zero, List.set_cons_succ]
  refine any_take 1 47 (.int .i64 (i : Int)) rfl rfl (by kernel_rfl) (by kernel_rfl) (by kernel_rfl) (fun _ _ _ h => h) (Or.inl ⟨by rfl, by intro w; go_simp⟩) ?_
  try simp only [Act.put, List.setIfInBounds_toArray, List.set_cons_zero, List.set_cons_succ]
  refine any_take 2 48 (.int .i64 1) rfl rfl (by kernel_rfl) (by kernel_rfl) (by kernel_rfl) (fun _ _ _ h => h) (Or.inl ⟨by rfl, by intro w; go_simp⟩) ?_
  try simp only [Act.put, List.setIfInBounds_toArray, List.set_cons_zero, List.set_cons_succ]
  refine any_take 3 49 (.int .i64 ((i : Int) + 1)) rfl rfl (by kernel_rfl) (by kernel_rfl) (by kernel_rfl) (fun _ _ _ h => h) (Or.inl ⟨by rfl, by intro w; go_simp⟩) ?_
  try simp only [Act.put, List.setIfInBounds_toArray, List.set_cons_zero, List.set_cons_succ]
  refine any_take 4 50 (.slice (some ⟨w.heap.size, (i + 1) * 4, none⟩) (cap - i) (c1 - (i + 1))) rfl rfl (by kernel_rfl) (by kernel_rfl) (by kernel_rfl) (fun _ _ _ h => h) (Or.inl ⟨by rfl, by intro w; go_simp⟩) ?_
  try simp only [Act.put, List.setIfInBounds_toArray, List.set_cons_zero, List.set_cons_succ]
  refine any_take 5 51 (.slice (some ⟨g, off, none⟩) cap cap) rfl rfl (by kernel_rfl) (by kernel_rfl) (by kernel_rfl) (fun _ _ _ h => h) (Or.inl ⟨by rfl, by intro w; go_simp⟩) ?_
  try simp only [Act.put, List.setIfInBounds_toArray, List.set_cons_zero, List.set_cons_succ]
  refine any_take 6 52 (.int .i64 (i : Int)) rfl rfl (by kernel_rfl) (by kernel_rfl) (by kernel_rfl) (fun _ _ _ h => h) (Or.inl ⟨by rfl, by intro w; go_simp⟩) ?_
  try simp only [Act.put, List.setIfInBounds_toArray, List.set_cons_zero, List.set_cons_succ]
  refine any_take 7 53 (.slice (some ⟨g, off + i * 4, none⟩) (cap - i) (cap - i)) rfl rfl (by kernel_rfl) (by kernel_rfl) (by kernel_rfl) (fun _ _ _ h => h) (Or.inl ⟨by rfl, by intro w; go_simp⟩) ?_
  try simp only [Act.put, List.setIfInBounds_toArray, List.set_cons_zero, List.set_cons_succ]
  refine wpAny_ready (rs := [8]) (by kernel_rfl) (by simp) ?_
  refine AllReady.cons rfl (fun K hK => ?_) AllReady.nil
  refine wp_copyL (es := ds.drop i) (dl := cap - i) (dc := c1 - (i + 1)) (sl := cap - i) _ _ rfl (L2d.over (i + 1) (ds.drop i) (by have := HN.out; have := HK.out; rw [List.length_drop]; omega)) (by have := HN.out; rw [List.length_drop]; show _ = min _ _; omega) (fun j u hj => by rw [add_plain]; exact Lg.range i n4 j u hj) (by rw [Nat.zero_add]; rfl) rfl ?_
  intro w3 L3 o3
  refine hK _ _ ?_
  clear hK
  try simp only [Act.put, List.setIfInBounds_toArray, List.set_cons_zero, List.set_cons_succ]
  refine wpAny_done (by kernel_rfl) ?_ _
  go_wp2
  go_ret
  refine ⟨c1, rfl, ?_, ?_⟩
  · obtain ⟨_, hs'⟩ := HN.out
    obtain ⟨hk1, hk2⟩ := HK.out
    have e0 : (ds.take i ++ List.replicate k LS.z).take i = ds.take i := List.take_left' (by rw [List.length_take]; omega)
    have e1 : (ds.take i ++ [d] ++ (ds.take i ++ List.replicate k LS.z).drop (i + [d].length)).take (i + 1) = ds.take i ++ [d] := List.take_left' (by rw [List.length_append, List.length_take]; simp; omega)
    have e3 : (ds.take i ++ [d] ++ (ds.take i ++ List.replicate k LS.z).drop (i + [d].length)).drop (i + 1 + (ds.drop i).length) = [] := List.drop_of_length_le (by simp only [List.length_append, List.length_drop, List.length_take, List.length_replicate, List.length_cons, List.length_nil]; omega)
    rw [e0, e1, e3, List.append_nil, List.append_assoc] at L3
    exact L3
  · exact b1.trans (((Only.below (n := w.heap.size) (o2.trans ((Only.refl _ _).drew)) b1.size (fun q hq => by rw [show q = _ from hq]; omega))).trans (Only.below (n := w.heap.size) o3 (by have := o2.size; have := b1.size; show _ ≤ w2.heap.size; omega) (fun q hq => by rw [show q = _ from hq]; omega)))
/-- slices.Insert of one, anywhere. -/
theorem insert_anyL (a : Option Addr) (n cap s : Nat) (ds : List LS) (d : LS) (i : Nat) (w : World) (L : LstL w a n cap ds) (hd : w.heap[s]? = some (.cells d.cells.toArray 44 (0, 0))) (hsa : ∀ off, a ≠ some ⟨s, off, none⟩) (hn : n + 1 ≤ 65536) (hi : i ≤ n) : Calls Try.prog 69 #[.slice a n cap, .int .i64 (i : Int), .slice (some ⟨s, 0, none⟩) 1 1] w fun e w' => ∃ a' cap', e = .returned (.slice a' (n + 1) cap') ∧ LstL w' a' (n + 1) cap' (ds.take i ++ d :: ds.drop i) ∧ (∀ g off, a' = some ⟨g, off, none⟩ → (∃ o, a = some ⟨g, o, none⟩) ∨ w.heap.size ≤ g) ∧ Only (atL a) w w' := by
  by_cases he : i = n
  · subst he
    refine (insert_endL a i cap s ds d w L (range_rowL hd) (by omega)).mono ?_
    rintro e w' ⟨a', cap', rfl, L', h1, h2⟩
    rw [List.take_of_length_le (by rw [L.size]; exact Nat.le_refl _), List.drop_of_length_le (by rw [L.size]; exact Nat.le_refl _)]
    exact ⟨a', cap', rfl, L', h1, h2⟩
  · rcases L.mem with ⟨rfl, rfl⟩ | ⟨g, off, cur, rfl, hh, hc, ht⟩
    · have := L.le; omega
    · by_cases hr : n + 1 ≤ cap
      · refine (insert_roomL g off n cap s ds d i w L hd (fun e => hsa off (by rw [e])) (by omega) (by omega) hr).mono ?_
        rintro e w' ⟨rfl, L', h2⟩
        exact ⟨_, _, rfl, L', fun g' o' e => .inl ⟨o', by cases e; rfl⟩, h2.mono fun q _ hq => ⟨off, by rw [show q = g from hq]⟩⟩
      · refine (insert_growL g off n cap s ds d i w L hd hn (by omega) (by omega)).mono ?_
        rintro e w' ⟨c', rfl, L', h2⟩
        exact ⟨_, _, rfl, L', fun g' o' e => by cases e; exact .inr (Nat.le_refl _), Only.of_below h2⟩
section
variable {ops : Array Oper} {rest : List Oper} {o : Oper} {A : Act} {W : World} {Q : Exit → Act → World → Prop} {K : Act → World → Prop}
theorem wpList_clear0L (hgd : o.guard = none) (x : Operand) (ho : o.op = .call { callee := .builtin .clear, args := #[x], argTypes := #[22] }) {a : Option Addr} {c : Nat}
    (hx : A.eval x = .slice a 0 c) (ha : a ≠ none) (h : wpList Try.prog ops Q rest (A.put o.dst (.tuple #[])) W) : wpList Try.prog ops Q (o :: rest) A W := by
  obtain ⟨a, rfl⟩ := Option.ne_none_iff_exists'.1 ha
  have hrun : (Builtin.clear_ #[22] o.type #[.slice (some a) 0 c]).run Try.prog W = .ok (.tuple #[]) W := by
    have hz := zero44
    obtain ⟨zv, hzv⟩ : ∃ z, LS.val LS.z = z := ⟨_, rfl⟩
    simp only [hzv] at hz
    simp [Builtin.clear_, run_underlying Try.underlying22, hz, Builtin.zeroCells, storeCells]
  refine wpList_plain hgd fun K hK => ?_
  unfold Oper.wp
  simp [execOp, ho, resolve, invoke, builtin, hx, hrun, Result.andThen]
  exact hK _ _ h
end
set_option maxRecDepth 100000 in
set_option maxHeartbeats 4000000 in
/-- slices.Replace of the last one by one. -/
theorem replace_lastL (g off n cap s : Nat) (ds : List LS) (d : LS) (i : Nat) (w : World) (L : LstL w (some ⟨g, off, none⟩) n cap ds) (hd : w.heap[s]? = some (.cells d.cells.toArray 44 (0, 0))) (hn : n ≤ 65536) (hi : i + 1 = n) : Calls Try.prog 56 #[.slice (some ⟨g, off, none⟩) n cap, .int .i64 (i : Int), .int .i64 (n : Int), .slice (some ⟨s, 0, none⟩) 1 1] w fun e w' => ∃ a' cap', e = .returned (.slice a' n cap') ∧ LstL w' a' n cap' (ds.take i ++ [d]) ∧ (∀ g' off', a' = some ⟨g', off', none⟩ → (g' = g) ∨ w.heap.size ≤ g') ∧ Only (at1 g) w w' := by
  have hmx := L.max
  have hle := L.le
  have n1 : ¬ (i : Int) = (n : Int) := by omega
  have n2 : i ≤ n := by omega
  have n3 : i ≤ cap := by omega
  have n5 : ¬ cap = i := by omega
  have n6 : ¬ (i + 1 : Int) < (n : Int) := by omega
  have n7 : (n : Int) ≤ (cap : Int) := by omega
  have L1 := L.short i n2
  have hdr := range_rowL hd
  have HI : Hid (i + 1 = n ∧ n ≤ 65536) := ⟨hi, hn⟩
  clear hi
  go_enter Try.func56, Try.ntmps56
  go_wp2_with ((with_reducible show wpList _ _ _ (Oper.mk _ (Op.call { callee := Callee.builtin Builtin.append, args := _, argTypes := #[22, 22] }) _ _ _ _ :: _) _ _); go_must (refine wpList_append1L rfl _ _ rfl rfl rfl L1 hdr (by have := HI.out; omega) ?_; intro a1 c1 w1 L2 o2 O2; rw [HI.out.1] at L2 ⊢))
  go_ret
  exact ⟨a1, c1, rfl, L2, fun g' off' e => (o2 g' off' e).imp (fun ⟨o, e⟩ => by cases e; rfl) id, O2.mono fun q _ ⟨o, e⟩ => by cases e; rfl⟩
set_option maxRecDepth 100000 in
set_option maxHeartbeats 4000000 in
/-- slices.Replace of one that is not the last by one. -/
theorem replace_midL (g off n cap s : Nat) (ds : List LS) (d : LS) (i j : Nat) (w : World) (L : LstL w (some ⟨g, off, none⟩) n cap ds) (hd : w.heap[s]? = some (.cells d.cells.toArray 44 (0, 0))) (hsg : s ≠ g) (hn : n ≤ 65536) (hj : j = i + 1) (hi : j < n) : Calls Try.prog 56 #[.slice (some ⟨g, off, none⟩) n cap, .int .i64 (i : Int), .int .i64 (j : Int), .slice (some ⟨s, 0, none⟩) 1 1] w fun e w' => e = .returned (.slice (some ⟨g, off, none⟩) n cap) ∧ LstL w' (some ⟨g, off, none⟩) n cap (ds.set i d) ∧ Only (at1 g) w w' := by
  have hmx := L.max
  have hle := L.le
  have hsz := L.size
  have HS : Hid (ds.length = n ∧ n ≤ 65536) := ⟨hsz, hn⟩
  clear hsz
  have n1 : ¬ (i : Int) = (j : Int) := by omega
  have n1' : ¬ (j : Int) = (n : Int) := by omega
  have n2 : i ≤ n := by omega
  have n2' : j ≤ n := by omega
  have n3 : i ≤ cap := by omega
  have n3' : j ≤ cap := by omega
  have n4 : i ≤ j := by omega
  have n5 : ¬ cap = i := by omega
  have n5' : ¬ cap = j := by omega
  have hw1 : IntKind.i64.wrap ((i : Int) + 1) = (j : Int) := by rw [IntKind.wrap_i64]; omega
  have e1 : (i : Int) + 1 = (j : Int) := by omega
  have hwj : IntKind.i64.wrap (j : Int) = (j : Int) := by rw [IntKind.wrap_i64]; omega
  have hwn : IntKind.i64.wrap (n : Int) = (n : Int) := by rw [IntKind.wrap_i64]; omega
  have hw2' : IntKind.i64.wrap ((j : Int) + ((n - j : Nat) : Int)) = (n : Int) := by rw [IntKind.wrap_i64]; omega
  have e2 : (j : Int) + ((n - j : Nat) : Int) = (n : Int) := by omega
  have n6 : ¬ (cap : Int) < (n : Int) := by omega
  have n7 : (j : Int) ≤ (j : Int) := by omega
  have HJ : Hid (j = i + 1 ∧ j < n) := ⟨hj, hi⟩
  clear hj hi
  go_enter Try.func56, Try.ntmps56
  go_wp2_with (fail)
  refine wp_region_any (by kernel_rfl) ?_
  change wpAny _ _ _ _ _ _ _ (World.drew _)
  refine any_take 0 45 (.slice (some ⟨g, off, none⟩) n cap) rfl rfl (by kernel_rfl) (by kernel_rfl) (by kernel_rfl) (fun _ _ _ h => h) (Or.inl ⟨by rfl, by intro w; go_simp⟩) ?_
  try simp only [Act.put, List.setIfInBounds_toArray, List.set_cons_zero, List.set_cons_succ]
  refine any_take 1 46 (.int .i64 (i : Int)) rfl rfl (by kernel_rfl) (by kernel_rfl) (by kernel_rfl) (fun _ _ _ h => h) (Or.inl ⟨by rfl, by intro w; go_simp⟩) ?_
  try simp only [Act.put, List.setIfInBounds_toArray, List.set_cons_zero, List.set_cons_succ]
  refine any_take 2 47 (.slice (some ⟨g, off, none⟩) i cap) rfl rfl (by kernel_rfl) (by kernel_rfl) (by kernel_rfl) (fun _ _ _ h => h) (Or.inl ⟨by rfl, by intro w; go_simp⟩) ?_
  try simp only [Act.put, List.setIfInBounds_toArray, List.set_cons_zero, List.set_cons_succ]
  refine any_take 3 48 (.int .i64 (i : Int)) rfl rfl (by kernel_rfl) (by kernel_rfl) (by kernel_rfl) (fun _ _ _ h => h) (Or.inl ⟨by rfl, by intro w; go_simp⟩) ?_
  try simp only [Act.put, List.setIfInBounds_toArray, List.set_cons_zero, List.set_cons_succ]
  refine any_take 4 49 (.slice (some ⟨s, 0, none⟩) 1 1) rfl rfl (by kernel_rfl) (by kernel_rfl) (by kernel_rfl) (fun _ _ _ h => h) (Or.inl ⟨by rfl, by intro w; go_simp⟩) ?_
  try simp only [Act.put, List.setIfInBounds_toArray, List.set_cons_zero, List.set_cons_succ]
  refine any_take 5 50 (.int .i64 1) rfl rfl (by kernel_rfl) (by kernel_rfl) (by kernel_rfl) (fun _ _ _ h => h) (Or.inl ⟨by rfl, by intro w; go_simp⟩) ?_
  try simp only [Act.put, List.setIfInBounds_toArray, List.set_cons_zero, List.set_cons_succ]
  refine any_take 6 51 (.int .i64 (j : Int)) rfl rfl (by kernel_rfl) (by kernel_rfl) (by kernel_rfl) (fun _ _ _ h => h) (Or.inl ⟨by rfl, by intro w; go_simp⟩) ?_
  try simp only [Act.put, List.setIfInBounds_toArray, List.set_cons_zero, List.set_cons_succ]
  refine any_take 7 52 (.slice (some ⟨g, off, none⟩) n cap) rfl rfl (by kernel_rfl) (by kernel_rfl) (by kernel_rfl) (fun _ _ _ h => h) (Or.inl ⟨by rfl, by intro w; go_simp⟩) ?_
  try simp only [Act.put, List.setIfInBounds_toArray, List.set_cons_zero, List.set_cons_succ]
  refine any_take 8 53 (.int .i64 (j : Int)) rfl rfl (by kernel_rfl) (by kernel_rfl) (by kernel_rfl) (fun _ _ _ h => h) (Or.inl ⟨by rfl, by intro w; go_simp⟩) ?_
  try simp only [Act.put, List.setIfInBounds_toArray, List.set_cons_zero, List.set_cons_succ]
  refine any_take 9 54 (.slice (some ⟨g, off + j * 4, none⟩) (n - j) (cap - j)) rfl rfl (by kernel_rfl) (by kernel_rfl) (by kernel_rfl) (fun _ _ _ h => h) (Or.inl ⟨by rfl, by intro w; go_simp⟩) ?_
  try simp only [Act.put, List.setIfInBounds_toArray, List.set_cons_zero, List.set_cons_succ]
  refine any_take 10 55 (.int .i64 ((n - j : Nat) : Int)) rfl rfl (by kernel_rfl) (by kernel_rfl) (by kernel_rfl) (fun _ _ _ h => h) (Or.inl ⟨by rfl, by intro w; go_simp⟩) ?_
  try simp only [Act.put, List.setIfInBounds_toArray, List.set_cons_zero, List.set_cons_succ]
  refine any_take 11 56 (.int .i64 (n : Int)) rfl rfl (by kernel_rfl) (by kernel_rfl) (by kernel_rfl) (fun _ _ _ h => h) (Or.inl ⟨by rfl, by intro w; go_simp⟩) ?_
  try simp only [Act.put, List.setIfInBounds_toArray, List.set_cons_zero, List.set_cons_succ]
  refine any_take 12 10 (.int .i64 (n : Int)) rfl rfl (by kernel_rfl) (by kernel_rfl) (by kernel_rfl) (fun _ _ _ h => h) (Or.inl ⟨by rfl, by intro w; go_simp⟩) ?_
  try simp only [Act.put, List.setIfInBounds_toArray, List.set_cons_zero, List.set_cons_succ]
  refine wpAny_done (by kernel_rfl) ?_ _
  have Ld : LstL w.drew (some ⟨g, off, none⟩) n cap ds := L.of_block fun _ _ _ => rfl
  have H1 := Ld.over i [d] (by have := HJ.out; simp; omega)
  have hdr := range_rowL hd
  go_wp2_with ((with_reducible show wpList _ _ _ (Oper.mk _ (Op.call { callee := Callee.builtin Builtin.copy, args := _, argTypes := _ }) _ _ _ _ :: _) _ _); go_must (refine wpList_copyL (es := [d]) rfl _ _ rfl H1 (by show 1 = min _ _; have := HJ.out; omega) (fun j u hj => by rw [add_plain]; exact hdr j u (by simpa [csL] using hj)) rfl rfl ?_; intro w2 L2 o2))
  try simp only [Act.put, List.setIfInBounds_toArray, List.set_cons_zero, List.set_cons_succ]
  have ex : ds.take i ++ [d] ++ ds.drop (i + [d].length) = ds.set i d := by
    rw [List.set_eq_take_append_cons_drop, if_pos (by have := HS.out; have := HJ.out; omega)]
    simp
  rw [ex] at L2
  clear ex
  refine wp_region_any (by kernel_rfl) ?_
  change wpAny _ _ _ _ _ _ _ (World.drew _)
  have L2d := L2.of_block (W' := w2.drew) fun _ _ _ => rfl
  refine any_take 0 98 (.slice (some ⟨g, off, none⟩) n cap) rfl rfl (by kernel_rfl) (by kernel_rfl) (by kernel_rfl) (fun _ _ _ h => h) (Or.inl ⟨by rfl, by intro w; go_simp⟩) ?_
  try simp only [Act.put, List.setIfInBounds_toArray, List.set_cons_zero, List.set_cons_succ]
  refine any_take 1 99 (.int .i64 (i : Int)) rfl rfl (by kernel_rfl) (by kernel_rfl) (by kernel_rfl) (fun _ _ _ h => h) (Or.inl ⟨by rfl, by intro w; go_simp⟩) ?_
  try simp only [Act.put, List.setIfInBounds_toArray, List.set_cons_zero, List.set_cons_succ]
  refine any_take 2 100 (.slice (some ⟨s, 0, none⟩) 1 1) rfl rfl (by kernel_rfl) (by kernel_rfl) (by kernel_rfl) (fun _ _ _ h => h) (Or.inl ⟨by rfl, by intro w; go_simp⟩) ?_
  try simp only [Act.put, List.setIfInBounds_toArray, List.set_cons_zero, List.set_cons_succ]
  refine any_take 3 101 (.int .i64 1) rfl rfl (by kernel_rfl) (by kernel_rfl) (by kernel_rfl) (fun _ _ _ h => h) (Or.inl ⟨by rfl, by intro w; go_simp⟩) ?_
  try simp only [Act.put, List.setIfInBounds_toArray, List.set_cons_zero, List.set_cons_succ]
  refine any_take 4 102 (.int .i64 (j : Int)) rfl rfl (by kernel_rfl) (by kernel_rfl) (by kernel_rfl) (fun _ _ _ h => h) (Or.inl ⟨by rfl, by intro w; go_simp⟩) ?_
  try simp only [Act.put, List.setIfInBounds_toArray, List.set_cons_zero, List.set_cons_succ]
  refine any_take 5 103 (.slice (some ⟨g, off + j * 4, none⟩) (n - j) (cap - j)) rfl rfl (by kernel_rfl) (by kernel_rfl) (by kernel_rfl) (fun _ _ _ h => h) (Or.inl ⟨by rfl, by intro w; go_simp⟩) ?_
  try simp only [Act.put, List.setIfInBounds_toArray, List.set_cons_zero, List.set_cons_succ]
  refine any_take 6 104 (.slice (some ⟨g, off, none⟩) n cap) rfl rfl (by kernel_rfl) (by kernel_rfl) (by kernel_rfl) (fun _ _ _ h => h) (Or.inl ⟨by rfl, by intro w; go_simp⟩) ?_
  try simp only [Act.put, List.setIfInBounds_toArray, List.set_cons_zero, List.set_cons_succ]
  refine any_take 7 105 (.int .i64 (j : Int)) rfl rfl (by kernel_rfl) (by kernel_rfl) (by kernel_rfl) (fun _ _ _ h => h) (Or.inl ⟨by rfl, by intro w; go_simp⟩) ?_
  try simp only [Act.put, List.setIfInBounds_toArray, List.set_cons_zero, List.set_cons_succ]
  refine any_take 8 106 (.slice (some ⟨g, off + j * 4, none⟩) (n - j) (cap - j)) rfl rfl (by kernel_rfl) (by kernel_rfl) (by kernel_rfl) (fun _ _ _ h => h) (Or.inl ⟨by rfl, by intro w; go_simp⟩) ?_
  try simp only [Act.put, List.setIfInBounds_toArray, List.set_cons_zero, List.set_cons_succ]
  refine wpAny_ready (rs := [9]) (by kernel_rfl) (by simp) ?_
  refine AllReady.cons rfl (fun K hK => ?_) AllReady.nil
  refine wp_copyL (es := (ds.set i d).drop j) _ _ rfl (L2d.over j ((ds.set i d).drop j) (by have := HS.out; have := HJ.out; rw [List.length_drop, List.length_set]; omega)) (by have := HS.out; rw [List.length_drop, List.length_set]; show _ = min _ _; omega) (fun q u hq => by rw [add_plain]; exact L2d.range j n2' q u hq) rfl rfl ?_
  intro w3 L3 o3
  refine hK _ _ ?_
  clear hK
  have ex : (ds.set i d).take j ++ (ds.set i d).drop j ++ (ds.set i d).drop (j + ((ds.set i d).drop j).length) = ds.set i d := by
    rw [List.take_append_drop, List.drop_of_length_le (by rw [List.length_drop]; omega), List.append_nil]
  rw [ex] at L3
  clear ex
  try simp only [Act.put, List.setIfInBounds_toArray, List.set_cons_zero, List.set_cons_succ]
  refine wpAny_done (by kernel_rfl) ?_ _
  go_wp2_with ((with_reducible show wpList _ _ _ (Oper.mk _ (Op.call { callee := Callee.builtin Builtin.clear, args := _, argTypes := _ }) _ _ _ _ :: _) _ _); go_must (refine wpList_clear0L rfl _ rfl rfl (by first | (split <;> simp) | simp) ?_))
  all_goals go_ret
  all_goals first
    | exact ⟨rfl, L3, ((((Only.refl _ _).drew).trans o2).drew).trans o3⟩
    | (have hcn : cap = n := by assumption
       rw [hcn] at L3
       exact ⟨rfl, L3, ((((Only.refl _ _).drew).trans o2).drew).trans o3⟩)
set_option maxRecDepth 100000 in
set_option maxHeartbeats 4000000 in
/-- slices.Replace of none by one, or of one by one. -/
theorem replace_anyL (a : Option Addr) (n cap s : Nat) (ds : List LS) (d : LS) (i : Nat) (h : Bool) (w : World) (L : LstL w a n cap ds) (hd : w.heap[s]? = some (.cells d.cells.toArray 44 (0, 0))) (hsa : ∀ off, a ≠ some ⟨s, off, none⟩) (hn : n + 1 ≤ 65536) (hi : i ≤ n) (hh : h = true → i < n) : Calls Try.prog 56 #[.slice a n cap, .int .i64 (i : Int), .int .i64 (toN i h), .slice (some ⟨s, 0, none⟩) 1 1] w fun e w' => ∃ a' cap' n', e = .returned (.slice a' n' cap') ∧ LstL w' a' n' cap' (if h = true then ds.set i d else ds.take i ++ d :: ds.drop i) ∧ (∀ g off, a' = some ⟨g, off, none⟩ → (∃ o, a = some ⟨g, o, none⟩) ∨ w.heap.size ≤ g) ∧ Only (atL a) w w' := by
  cases h with
  | true =>
    have hi' := hh rfl
    rcases L.mem with ⟨rfl, rfl⟩ | ⟨g, off, cur, rfl, hx, hc, ht⟩
    · have := L.le; omega
    · have et : toN i true = ((i + 1 : Nat) : Int) := by rw [toN_true]; omega
      rw [et, if_pos rfl]
      by_cases hl : i + 1 = n
      · rw [hl]
        refine (replace_lastL g off n cap s ds d i w L hd (by omega) hl).mono ?_
        rintro e w' ⟨a', c', rfl, L', h1, h2⟩
        have e : ds.set i d = ds.take i ++ [d] := by
          rw [List.set_eq_take_append_cons_drop, if_pos (by rw [L.size]; exact hi'), List.drop_of_length_le (by rw [L.size]; omega)]
        rw [e]
        exact ⟨a', c', n, rfl, L', fun g' o' e => (h1 g' o' e).imp (fun e => ⟨off, by rw [e]⟩) id, h2.mono fun q _ hq => ⟨off, by rw [show q = g from hq]⟩⟩
      · refine (replace_midL g off n cap s ds d i (i + 1) w L hd (fun e => hsa off (by rw [e])) (by omega) rfl (by omega)).mono ?_
        rintro e w' ⟨rfl, L', h2⟩
        exact ⟨_, _, n, rfl, L', fun g' o' e => .inl ⟨o', by cases e; rfl⟩, h2.mono fun q _ hq => ⟨off, by rw [show q = g from hq]⟩⟩
  | false =>
    rw [toN_false, if_neg (by decide)]
    have KI := insert_anyL a n cap s ds d i w L hd hsa hn hi
    have hmx := L.max
    have hle := L.le
    have HI : Hid (i ≤ n) := hi
    have n2 : i ≤ cap := by omega
    have n3 : (i : Int) ≤ (cap : Int) := by omega
    rcases L.mem with ⟨rfl, rfl⟩ | ⟨g, off, cur, rfl, hx, hc, ht⟩
    · obtain rfl : n = 0 := by omega
      obtain rfl : i = 0 := by omega
      go_enter Try.func56, Try.ntmps56
      go_wp2_with (go_at_call 69; refine KI.mono ?_; rintro e w1 ⟨a', c', rfl, L', h1, h2⟩)
      go_ret
      exact ⟨a', c', _, rfl, L', h1, h2⟩
    · clear hx hc ht L
      go_enter Try.func56, Try.ntmps56
      go_wp2_with (go_at_call 69; refine KI.mono ?_; rintro e w1 ⟨a', c', rfl, L', h1, h2⟩)
      all_goals go_ret
      all_goals first | exact ⟨a', c', _, rfl, L', h1, h2⟩ | exact ⟨a', c', _, rfl, L', fun g' o' e => (h1 g' o' e).imp (fun ⟨o, e⟩ => by cases e; rfl) id, h2⟩
/-- slices.Delete of none, or of one. -/
theorem delete_anyL (a : Option Addr) (n cap : Nat) (ds : List LS) (i : Nat) (h : Bool) (w : World) (L : LstL w a n cap ds) (hi : i ≤ n) (hh : h = true → i < n) : Calls Try.prog 55 #[.slice a n cap, .int .i64 (i : Int), .int .i64 (toN i h)] w fun e w' => ∃ n', e = .returned (.slice a n' cap) ∧ LstL w' a n' cap (if h = true then ds.eraseIdx i else ds) ∧ Only (atL a) w w' := by
  cases h with
  | true =>
    have hi' := hh rfl
    rcases L.mem with ⟨rfl, rfl⟩ | ⟨g, off, cur, rfl, hx, hc, ht⟩
    · have := L.le; omega
    · have et : toN i true = ((i + 1 : Nat) : Int) := by rw [toN_true]; omega
      rw [et, if_pos rfl]
      refine (delete_oneL g off n cap ds i (i + 1) w L hi' rfl).mono ?_
      rintro e w' ⟨rfl, L', h2⟩
      exact ⟨_, rfl, L', h2.mono fun q _ hq => ⟨off, by rw [show q = g from hq]⟩⟩
  | false =>
    rw [toN_false, if_neg (by decide)]
    refine (delete_sameL a n cap ds i w L hi).mono ?_
    rintro e w' ⟨rfl, hw⟩
    rw [hw]
    exact ⟨n, rfl, L, Only.refl _ _⟩
end Go.Proofs.Ytacefkchhcpgaaa
