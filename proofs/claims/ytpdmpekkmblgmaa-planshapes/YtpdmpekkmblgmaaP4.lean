/-
  Library: bits.Mul of one and a small number; slices.Repeat of one number.
-/
import Derived.Test.YtpdmpekkmblgmaaU1
import Derived.Laws.MakeOwn
namespace Go.Proofs.Ytpdmpekkmblgmaa
open Go.ChangeShapes Go.WideShapes Go.ChangeAt Go.RowKit Go.Maps Go.Shelf
set_option linter.unusedVariables false
set_option linter.unusedSimpArgs false
attribute [local go_sem] Oper.semAt_some

set_option maxRecDepth 100000 in
set_option maxHeartbeats 1000000 in
theorem mul64_any (n : Nat) (h1 : 1 ≤ n) (h2 : n ≤ 16) (w : World) : Calls Try.prog 74 #[.int .u64 1, .int .u64 (n : Int)] w fun e w' => e = .returned (.tuple #[.int .u64 0, .int .u64 (n : Int)]) ∧ w' = w := by
  have h : n = 1 ∨ n = 2 ∨ n = 3 ∨ n = 4 ∨ n = 5 ∨ n = 6 ∨ n = 7 ∨ n = 8 ∨ n = 9 ∨ n = 10 ∨ n = 11 ∨ n = 12 ∨ n = 13 ∨ n = 14 ∨ n = 15 ∨ n = 16 := by omega
  clear h1 h2
  rcases h with rfl | rfl | rfl | rfl | rfl | rfl | rfl | rfl | rfl | rfl | rfl | rfl | rfl | rfl | rfl | rfl
  all_goals
    go_enter Try.func74, Try.ntmps74
    go_wp2
    refine bodyPost_ret (results_tmp2 rfl _ _ _) rfl ?_
    exact ⟨rfl, rfl⟩
theorem mul_any (n : Nat) (h1 : 1 ≤ n) (h2 : n ≤ 16) (w : World) : Calls Try.prog 59 #[.int .u64 1, .int .u64 (n : Int)] w fun e w' => e = .returned (.tuple #[.int .u64 0, .int .u64 (n : Int)]) ∧ w' = w := by
  have K := mul64_any n h1 h2 w
  go_enter Try.func59, Try.ntmps59
  go_wp2_with (go_at_call 74; refine K.mono ?_; clear K; rintro e w1 ⟨rfl, rfl⟩)
  refine bodyPost_ret (results_tmp2 rfl _ _ _) rfl ?_
  exact ⟨rfl, rfl⟩
/-- A row of which so many are told. -/
abbrev rw1 (m n : Nat) : List Int := List.replicate m (-1) ++ List.replicate (n - m) 0
theorem make36 (n : Nat) (h : n ≤ 16) (w : World) : (Instr.makeSlice 36 (.int .i64 (n : Int)) (.int .i64 (n : Int))).run Try.prog w = .ok (.slice (some ⟨w.heap.size, 0, none⟩) n n) (w.alloc (.cells (Array.replicate n (.int .i64 0)) 3)) := by
  obtain ⟨i0, hi, hz0, hz1, hz2⟩ := info_parts info3
  have := run_make (P := Try.prog) w 36 3 i0 _ Try.underlying36 hi hz0 .i64 .i64 n n (by omega) (Int.le_refl _) (by rw [hz2]; omega) (by omega)
  rw [hz1] at this
  simp only [Int.toNat_natCast, Value.cells, Nat.mul_one] at this
  rw [this]
  have e : madeCells (#[Value.int .i64 0]) n = Array.replicate n (Value.int .i64 0) := by
    apply Array.ext
    · simp [size_madeCells]
    · intro k h1 h2
      simp [madeCells]
      rw [Nat.mod_one]
      rfl
  rw [e]
theorem run_copy36 (w : World) (g o n cap o2 m cap2 : Nat) (b2 : Nat) (cur : Array Value) (cs : List Value) (c : Nat) (hc : Nat.min m n = c) (hg : w.heap[g]? = some (.cells cur 3 (0, 0))) (hn : cs.length = c) (hsrc : ∀ j v, cs[j]? = some v → w.cell? ⟨b2, o2 + j, none⟩ = some v) (hfit : o + cs.length ≤ cur.size) (h1 : ∀ v ∈ cs, v.oneCell' = true) :
    (Builtin.copy_ #[36, 36] 3 #[.slice (some ⟨g, o, none⟩) n cap, .slice (some ⟨b2, o2, none⟩) m cap2]).run Try.prog w = .ok (.int .i64 (c : Int)) (w.setRow g (cur.toList.take o ++ cs ++ cur.toList.drop (o + cs.length)).toArray) := by
  have := run_copy_K w 36 36 3 3 1 g o n cap ⟨b2, o2, none⟩ m cap2 cur 3 cs Try.underlying36 (by kernel_rfl) hg (by rw [hn, hc, Nat.mul_one]) (fun j v hv => by rw [add_plain]; exact hsrc j v hv) hfit h1
  rw [hc] at this
  exact this
theorem rw1_more (m n c : Nat) (h : m + c ≤ n) : ((((rw1 m n).map iv).take m ++ (List.replicate c (-1)).map iv ++ ((rw1 m n).map iv).drop (m + ((List.replicate c (-1)).map iv).length))) = (rw1 (m + c) n).map iv := by
  unfold rw1
  rw [List.map_append, List.take_left' (by simp), List.length_map, List.length_replicate, List.drop_append, List.drop_of_length_le (by simp), List.nil_append, List.length_map, List.length_replicate, ← List.map_drop, List.drop_replicate, ← List.map_append, ← List.map_append]
  congr 1
  rw [List.replicate_append_replicate, show n - m - (m + c - m) = n - (m + c) by omega]
set_option maxRecDepth 100000 in
set_option maxHeartbeats 1000000 in
theorem repeat_any (b : Nat) (n : Nat) (h1 : 1 ≤ n) (h2 : n ≤ 16) (w : World) (hb : w.cell? ⟨b, 0, none⟩ = some (.int .i64 (-1))) (hbs : b < w.heap.size) : Calls Try.prog 38 #[.slice (some ⟨b, 0, none⟩) 1 1, .int .i64 (n : Int)] w fun e w' => e = .returned (.slice (some ⟨w.heap.size, 0, none⟩) n n) ∧ w'.heap[w.heap.size]? = some (.cells ((List.replicate n (-1 : Int)).map iv).toArray 3 (0, 0)) ∧ Below w.heap.size w w' := by
  have K := fun W => mul_any n h1 h2 W
  have HN : Hid (1 ≤ n ∧ n ≤ 16) := ⟨h1, h2⟩
  have c1 : IntKind.u64.wrap (n : Int) = (n : Int) := by rw [IntKind.wrap_u64]; omega
  have c2 : IntKind.i64.wrap (n : Int) = (n : Int) := by rw [IntKind.wrap_i64]; omega
  have c3 : ¬ (9223372036854775807 : Int) < (n : Int) := by omega
  have c4 : ¬ (n : Int) < 0 := by omega
  have MK := fun W => make36 n h2 W
  have h0 : (w.alloc (.cells (Array.replicate n (iv 0)) 3)).heap[w.heap.size]? = some (.cells (Array.replicate n (iv 0)) 3 (0, 0)) := World.alloc_heap_new w _
  have CP := run_copy36 (w.alloc (.cells (Array.replicate n (iv 0)) 3)) w.heap.size 0 n n 0 1 1 b _ [iv (-1)] 1 (Nat.min_eq_left h1) h0 rfl (fun j v hv => by
    cases j with
    | zero => cases hv; exact (World.cell?_alloc_past _ _ _ hbs).trans hb
    | succ j => cases hv) (by simp; omega) (by simp [Value.oneCell'])
  obtain ⟨W1, hW1⟩ : ∃ X, (w.alloc (.cells (Array.replicate n (iv 0)) 3)).setRow w.heap.size ((Array.replicate n (iv 0)).toList.take 0 ++ [iv (-1)] ++ (Array.replicate n (iv 0)).toList.drop (0 + [iv (-1)].length)).toArray = X := ⟨_, rfl⟩
  rw [hW1] at CP
  have H1 : W1.heap[w.heap.size]? = some (.cells ((rw1 1 n).map iv).toArray 3 (0, 0)) := by
    rw [← hW1, setRow_heap _ _ _ _ _ _ h0]
    congr 3
    simp [rw1]
  have B1 : Below w.heap.size w W1 := by
    rw [← hW1]
    exact ⟨rfl, rfl, rfl, by rw [size_setRow]; simp, fun k hk => (setRow_other _ _ _ _ (by omega)).trans (Below.heap_alloc _ _ _ hk)⟩
  clear hW1 h0 hb hbs h1 h2
  go_enter Try.func38, Try.ntmps38
  go_wp2_with (first
    | (go_at_call 59; refine (K _).mono ?_; clear K; rintro e w1 ⟨rfl, hw⟩; rw [hw]; clear hw w1))
  go_loopg [8] (n - 1) (fun gk v8 wr => ∃ m : Nat, v8 = .int .i64 (m : Int) ∧ m + gk = n ∧ 1 ≤ m ∧ wr.heap[w.heap.size]? = some (.cells ((rw1 m n).map iv).toArray 3 (0, 0)) ∧ Below w.heap.size w wr)
  case atStart => exact ⟨1, by first | rfl | go_num, by have := HN.out; omega, Nat.le_refl _, H1, B1⟩
  case round =>
    clear CP H1 B1 MK
    obtain ⟨m, rfl, hg, hm1, H, B⟩ := hrel
    by_cases hm : m < n
    · have hmI : (m : Int) < (n : Int) := by omega
      have q1 : (m : Int) ≤ (n : Int) := by omega
      have q2 : ¬ (m : Int) < 0 := by omega
      have q3 : ¬ n = m := by omega
      go_wp2
      refine wp_region_any (by kernel_rfl) ?_
      change wpAny _ _ _ _ _ _ _ (World.drew _)
      obtain ⟨WD, hWD⟩ : ∃ WD, World.drew wr = WD := ⟨_, rfl⟩
      rw [hWD]
      have HD : WD.heap[w.heap.size]? = some (.cells ((rw1 m n).map iv).toArray 3 (0, 0)) := by rw [← hWD]; exact H
      have BD : Below w.heap.size w WD := by rw [← hWD]; exact B.drew
      clear hWD
      refine wpAny_narrow (fun _ => True) _ _ _ _ ?_
      refine anyH_take 0 38 (.int .i64 (m : Int)) rfl rfl (by kernel_rfl) (by kernel_rfl) (by kernel_rfl) (fun _ _ _ h => h) (Or.inl ⟨by rfl, by intro w hSw; go_simp⟩) (trivial) ?_
      try simp only [Act.put, List.setIfInBounds_toArray, List.set_cons_zero, List.set_cons_succ]
      refine anyH_take 1 39 (.slice (some ⟨w.heap.size, 0, none⟩) n n) rfl rfl (by kernel_rfl) (by kernel_rfl) (by kernel_rfl) (fun _ _ _ h => h) (Or.inl ⟨by rfl, by intro w hSw; go_simp⟩) (trivial) ?_
      try simp only [Act.put, List.setIfInBounds_toArray, List.set_cons_zero, List.set_cons_succ]
      refine anyH_take 2 40 (.int .i64 (m : Int)) rfl rfl (by kernel_rfl) (by kernel_rfl) (by kernel_rfl) (fun _ _ _ h => h) (Or.inl ⟨by rfl, by intro w hSw; go_simp⟩) (trivial) ?_
      try simp only [Act.put, List.setIfInBounds_toArray, List.set_cons_zero, List.set_cons_succ]
      refine anyH_take 3 41 (.slice (some ⟨w.heap.size, m, none⟩) (n - m) (n - m)) rfl rfl (by kernel_rfl) (by kernel_rfl) (by kernel_rfl) (fun _ _ _ h => h) (Or.inl ⟨by rfl, by intro w hSw; have k1 := q1; have k2 := q2; have k3 := q3; go_simp⟩) (trivial) ?_
      try simp only [Act.put, List.setIfInBounds_toArray, List.set_cons_zero, List.set_cons_succ]
      refine anyH_take 4 42 (.slice (some ⟨w.heap.size, 0, none⟩) n n) rfl rfl (by kernel_rfl) (by kernel_rfl) (by kernel_rfl) (fun _ _ _ h => h) (Or.inl ⟨by rfl, by intro w hSw; go_simp⟩) (trivial) ?_
      try simp only [Act.put, List.setIfInBounds_toArray, List.set_cons_zero, List.set_cons_succ]
      refine anyH_take 5 43 (.int .i64 (m : Int)) rfl rfl (by kernel_rfl) (by kernel_rfl) (by kernel_rfl) (fun _ _ _ h => h) (Or.inl ⟨by rfl, by intro w hSw; go_simp⟩) (trivial) ?_
      try simp only [Act.put, List.setIfInBounds_toArray, List.set_cons_zero, List.set_cons_succ]
      refine anyH_take 6 44 (.slice (some ⟨w.heap.size, 0, none⟩) m n) rfl rfl (by kernel_rfl) (by kernel_rfl) (by kernel_rfl) (fun _ _ _ h => h) (Or.inl ⟨by rfl, by intro w hSw; have k1 := q1; have k2 := q2; have k3 := q3; go_simp⟩) (trivial) ?_
      try simp only [Act.put, List.setIfInBounds_toArray, List.set_cons_zero, List.set_cons_succ]
      have CP := run_copy36 WD w.heap.size m (n - m) (n - m) 0 m n w.heap.size _ ((List.replicate (Nat.min m (n - m)) (-1)).map iv) (Nat.min m (n - m)) rfl HD (by simp) (fun j v hv => by
        have hj : j < Nat.min m (n - m) := by have := (List.getElem?_eq_some_iff.1 hv).1; simpa using this
        have hjm : j < m := Nat.lt_of_lt_of_le hj (Nat.min_le_left _ _)
        rw [Nat.zero_add]
        refine row_cell HD j v ?_
        rw [← hv]
        simp [rw1, hjm, hj, List.getElem?_append_left]) (by have : Nat.min m (n - m) ≤ n - m := Nat.min_le_right _ _; simp; omega) (by intro v hv; obtain ⟨x, _, rfl⟩ := List.mem_map.1 hv; rfl)
      have HC : Hid (m + Nat.min m (n - m) ≤ n ∧ 1 ≤ Nat.min m (n - m)) := ⟨by have : Nat.min m (n - m) ≤ n - m := Nat.min_le_right _ _; omega, by show 1 ≤ min m (n - m); omega⟩
      obtain ⟨c, hc⟩ : ∃ c, Nat.min m (n - m) = c := ⟨_, rfl⟩
      rw [hc] at CP HC
      have HR := rw1_more m n c HC.out.1
      obtain ⟨W2, hW2⟩ : ∃ X, WD.setRow w.heap.size (((rw1 m n).map iv).toArray.toList.take m ++ (List.replicate c (-1)).map iv ++ ((rw1 m n).map iv).toArray.toList.drop (m + ((List.replicate c (-1)).map iv).length)).toArray = X := ⟨_, rfl⟩
      rw [hW2] at CP
      have H2 : W2.heap[w.heap.size]? = some (.cells ((rw1 (m + c) n).map iv).toArray 3 (0, 0)) := by rw [← hW2, setRow_heap _ _ _ _ _ _ HD, ← HR]
      have B2 : Below w.heap.size w W2 := by rw [← hW2]; exact ⟨BD.os, BD.tape, BD.output, by rw [size_setRow]; exact BD.size, fun k hk => (setRow_other _ _ _ _ (by omega)).trans (BD.block k hk)⟩
      have hwr : IntKind.i64.wrap ((m : Int) + (c : Int)) = (m : Int) + (c : Int) := by rw [IntKind.wrap_i64]; have := HC.out; have := HN.out; omega
      clear hW2 HR H HD B BD
      refine wpAnyH_ready (rs := [7]) (by kernel_rfl) (by simp) ?_
      refine AllReadyH.cons rfl (fun K hK => ?_) AllReadyH.nil
      go_simp
      refine hK.out _ _ (trivial) (fun hS => ?_)
      clear hK
      refine anyH_take 8 46 (.int .i64 ((m : Int) + (c : Int))) rfl rfl (by kernel_rfl) (by kernel_rfl) (by kernel_rfl) (fun _ _ _ h => h) (Or.inl ⟨by rfl, by intro w hSw; have k1 := hwr; go_simp⟩) (trivial) ?_
      try simp only [Act.put, List.setIfInBounds_toArray, List.set_cons_zero, List.set_cons_succ]
      refine anyH_take 9 8 (.int .i64 ((m : Int) + (c : Int))) rfl rfl (by kernel_rfl) (by kernel_rfl) (by kernel_rfl) (fun _ _ _ h => h) (Or.inl ⟨by rfl, by intro w hSw; go_simp⟩) (trivial) ?_
      try simp only [Act.put, List.setIfInBounds_toArray, List.set_cons_zero, List.set_cons_succ]
      refine wpAnyH_done (by kernel_rfl) ?_ _
      go_wp2
      go_roundg (gk - c)
      case measure => have := HC.out; omega
      case rel => exact ⟨m + c, by first | rfl | go_num | (congr 1), by have := HC.out; omega, by omega, H2, B2⟩
    · have e : m = n := by omega
      subst e
      have HE : Hid ((rw1 m m).map iv = (List.replicate m (-1 : Int)).map iv) := by show _ = _; simp [rw1]
      rw [HE.out] at H
      go_wp2
      go_ret
      exact ⟨rfl, H, B⟩
end Go.Proofs.Ytpdmpekkmblgmaa
