/-
  Package boot: the slot with the least number.
-/
import Derived.Test.YtaacggbfoejjhaaDoorB7
namespace Go.Proofs.YtaacggbfoejjhaaDoor
open Go.ChangeShapes Go.WideShapes Go.ChangeAt Go.RowKit Go.Shelf
open D
set_option linter.unusedVariables false
set_option linter.unusedSimpArgs false
attribute [local go_sem] Oper.semAt_some

def lstep (s : Nat × Nat) (q : Nat × Nat) : Nat × Nat := if q.2 < s.2 then q else s
def lsr (xs : List (Nat × Nat)) (i : Nat) : Nat × Nat := (xs.take i).foldl lstep (0, 1099511627776)
theorem lsr_succ {xs : List (Nat × Nat)} {i : Nat} {q : Nat × Nat} (h : xs[i]? = some q) : lsr xs (i + 1) = lstep (lsr xs i) q := by
  unfold lsr
  rw [List.take_add_one, h]
  simp
/-- The slot with the lesser number. -/
def lsrS (zs : List Int) : Nat := if stand (slot zs 1) < stand (slot zs 0) then 1 else 0
theorem lsr_nums (zs : List Int) : (lsr (nums zs) 2).1 = lsrS zs := by
  have h0 := stand_le (slot zs 0)
  have h1 := stand_le (slot zs 1)
  unfold lsr nums lsrS
  generalize stand (slot zs 0) = x at *
  generalize stand (slot zs 1) = y at *
  have e : lstep (0, 1099511627776) (0, x) = (0, x) := by
    unfold lstep
    split
    · rfl
    · rename_i h; have : x = 1099511627776 := by simp at h; omega
      rw [this]
  show (lstep (lstep (0, 1099511627776) (0, x)) (1, y)).1 = _
  rw [e]
  unfold lstep
  by_cases h : y < x
  · rw [if_pos h, if_pos h]
  · rw [if_neg h, if_neg h]
set_option maxRecDepth 100000 in
set_option maxHeartbeats 4000000 in
theorem lesser_any (zs : List Int) (w : World) (hz : zs.length = 64) (hb : Byt zs) (ht : S.Tab w) : Calls Tryd.prog 28 #[vb zs] w fun e w' => e = .returned (.int .i64 ((lsrS zs : Nat) : Int)) ∧ Below w.heap.size w w' := by
  have h0 := ht.pos
  refine (callsIn_wide (n := 2)).1 ?_
  refine callsIn_of_wp_marks Tryd.func28 rfl trivial ?_
  simp only [Tryd.ntmps28, List.size_toArray, List.length_cons, List.length_nil, Nat.reduceAdd, Nat.reduceSub, Array.replicate_succ, Array.replicate_zero, List.push_toArray, List.append_toArray, List.nil_append, List.cons_append]
  gi_wp2_with (first
    | ((with_reducible show wpListIn _ _ _ _ _ (Oper.mk _ (Op.box 56 _) _ _ _ _ :: _) _ _); refine wpListIn_boxB rfl 56 _ rfl zs rfl ?_; intro w1 N1)
    | ((with_reducible show wpListIn _ _ _ _ _ (Oper.mk _ (Op.alloc 3) _ _ _ _ :: _) _ _); refine wpListIn_allocC rfl 3 rfl (.int .i64 0) zero3 ?_; intro w2 N2)
    | ((with_reducible show wpListIn _ _ _ _ _ (Oper.mk _ (Op.alloc 2) _ _ _ _ :: _) _ _); refine wpListIn_allocC rfl 2 rfl (.int .i64 0) zero2 ?_; intro w3 N3)
    | ((with_reducible show wpListIn _ _ _ _ _ (Oper.mk _ (Op.store 3 _ _) _ _ _ _ :: _) _ _); refine wpListIn_storeC rfl 3 one3 _ _ rfl w1.heap.size 0 3 #[.int .i64 0] (.int .i64 0) rfl rfl rfl (N2.cel.below N3.below) (by decide) ?_; intro w5 W5)
    | ((with_reducible show wpListIn _ _ _ _ _ (Oper.mk _ (Op.store 2 _ _) _ _ _ _ :: _) _ _); refine wpListIn_storeC rfl 2 one2 _ _ rfl w2.heap.size 0 2 #[.int .i64 0] (.int .i64 1099511627776) rfl rfl rfl (N3.cel.only W5.only (by intro e; have e' : w2.heap.size = w1.heap.size := e; have := N2.size; omega)) (by decide) ?_; intro w6 W6; have Bx := ((((N1.blk.below N2.below).below N3.below).only W5.only (by intro e; have e' : w.heap.size = w1.heap.size := e; have := N1.size; omega)).only W6.only (by intro e; have e' : w.heap.size = w2.heap.size := e; have := N1.size; have := N2.size; omega)))
    | ((with_reducible show wpListIn _ _ _ _ _ (Oper.mk _ (Op.load 56 _) _ _ _ _ :: _) _ _); refine wpListIn_loadB rfl 56 64 arr56 _ rfl w.heap.size 0 zs rfl Bx.whole hz ?_)
    | (refine ⟨trivial, ?_⟩; gi_at_call 25; refine (callsIn_wide.2 (numbers_any zs w6)).mono ?_; rintro e w4 ⟨rfl, N4⟩))
  have hc1 : w1.heap.size = w.heap.size + 1 := N1.size
  have hc2 : w2.heap.size = w.heap.size + 2 := by rw [N2.size, hc1]
  have z6 : w6.heap.size = w.heap.size + 3 := by rw [W6.size, W5.size, N3.size, hc2]
  have z4 : w4.heap.size = w.heap.size + 4 := by rw [N4.size, z6]
  have Bw3 : Below w.heap.size w w3 := (N1.below.trans (N2.below.mono N1.below.size)).trans (N3.below.mono (by omega))
  have Bw5 : Below w.heap.size w w5 := Bw3.trans (W5.only.below Bw3.size (by intro q e; have e' : q = w1.heap.size := e; omega))
  have Bw6 : Below w.heap.size w w6 := Bw5.trans (W6.only.below Bw5.size (by intro q e; have e' : q = w2.heap.size := e; omega))
  have Bw4 : Below w.heap.size w w4 := Bw6.trans (N4.below.mono Bw6.size)
  have L0 : Lst w w4 w1.heap.size w6.heap.size 3 zs #[.int .i64 0] := ⟨⟨N4.blk, ht.below Bw4⟩, (W5.cel.only W6.only (by intro e; have e' : w1.heap.size = w2.heap.size := e; omega)).below N4.below, Bw4⟩
  have M0 : Cel w4 w2.heap.size 2 #[.int .i64 1099511627776] := W6.cel.below N4.below
  have HZ : Hid (w4.heap.size = w.heap.size + 4 ∧ w6.heap.size = w.heap.size + 3 ∧ w1.heap.size = w.heap.size + 1 ∧ w2.heap.size = w.heap.size + 2) := ⟨z4, z6, hc1, hc2⟩
  clear z6 z4 hc1 hc2 N1 N2 N3 W5 W6 Bx N4 Bw3 Bw4 Bw5 Bw6
  have G := numbers_gives w6.heap.size zs w4 hz hb
  have HMX : Hid ((lsr (nums zs) 2).1 = lsrS zs) := lsr_nums zs
  have HXL : Hid ((nums zs).length = 2) := rfl
  obtain ⟨xs, HXS⟩ : ∃ xs, Hid (nums zs = xs) := ⟨_, rfl⟩
  rw [HXS.out] at G HMX HXL
  generalize w1.heap.size = c at *
  generalize w2.heap.size = m at *
  generalize w6.heap.size = k at *
  refine S.range_turns (gf := 43) (lb := #[.pointer (some ⟨k, 0, none⟩)]) (by first | rfl | simp) (enters_of Tryd.func43 (by kernel_rfl) rfl)
    G (Below.refl _ _) (fun _ => rfl)
    (fun i C W => Lst w W c k 3 zs #[.int .i64 ((lsr xs i).1 : Nat)] ∧ Cel W m 2 #[.int .i64 ((lsr xs i).2 : Nat)])
    (fun c C W => False)
    (fun i C A h => h.1.keep)
    (fun i C A B h s => ⟨h.1.same s (by have := HZ.out; omega) (by have := HZ.out; omega) (by have := HZ.out; omega), h.2.same s (by have := HZ.out; omega)⟩)
    (fun c C A B h s => h)
    ⟨L0, M0⟩
    (fun q a' W => a' = { tmps := #[vb zs, .pointer (some ⟨w.heap.size, 0, none⟩), .int .i64 0, .pointer (some ⟨c, 0, none⟩), .pointer (some ⟨m, 0, none⟩), .int .i64 (q.1 : Int), .int .i64 (q.2 : Int), vb zs, .func (.func 43) #[] #[.pointer (some ⟨k, 0, none⟩)], .int .i64 (q.1 : Int), .int .i64 (q.2 : Int), undef, undef, undef, undef, undef, undef], defers := [] })
    (fun q a' A o h => h)
    ?assign ?body ?done ?stop
  case assign =>
    intro i q W C K hi hs hK
    gi_wp2
    exact hK _ _ rfl (Below.refl _ _)
  case body =>
    rintro i ⟨qi, qn⟩ C a' W ⟨L, M⟩ rfl hx hs hC
    have c0 := row_cell L.cel 0 _ rfl
    have m0 := row_cell M 0 _ rfl
    have HM : Hid (lsr xs (i + 1) = lstep (lsr xs i) (qi, qn)) := lsr_succ hx
    have hC' : ∀ b, C b → w4.heap.size ≤ b ∧ b < W.heap.size := fun b hb => ⟨by have := (hC b hb).1; omega, (hC b hb).2⟩
    clear hx HMX HXL HXS G
    obtain ⟨ls, hls⟩ : ∃ ls, lsr xs i = ls := ⟨_, rfl⟩
    obtain ⟨s1, l1⟩ := ls
    rw [hls] at HM L M c0 m0
    clear hls
    by_cases hq : qn < l1
    · have hqI : (qn : Int) < (l1 : Int) := by omega
      gi_wp2_with (first
        | ((with_reducible show wpListIn _ _ _ _ _ (Oper.mk _ (Op.store 3 _ _) _ _ _ _ :: _) _ _); refine wpListIn_storeC rfl 3 one3 _ _ rfl c 0 3 _ (.int .i64 (qi : Int)) rfl rfl rfl L.cel (by show 0 < 1; omega) ?_; intro W5 X5; have M5 := M.only X5.only (by intro e; have e' : m = c := e; have := HZ.out; omega))
        | ((with_reducible show wpListIn _ _ _ _ _ (Oper.mk _ (Op.store 2 _ _) _ _ _ _ :: _) _ _); refine wpListIn_storeC rfl 2 one2 _ _ rfl m 0 2 _ (.int .i64 (qn : Int)) rfl rfl rfl M5 (by show 0 < 1; omega) ?_; intro W6 X6))
      skip
      have hz' := HZ.out
      have L5 := L.wr X5 (by omega) (by omega) h0
      have L6 : Lst w W6 c k 3 zs #[.int .i64 (qi : Int)] := ⟨L5.keep.only X6.only (by intro e; have e' : k = m := e; omega) (by intro e; have e' : 0 = m := e; omega), X5.cel.only X6.only (by intro e; have e' : c = m := e; omega), L5.below.trans (X6.only.below L5.below.size (by intro q e; have e' : q = m := e; omega))⟩
      refine ⟨C, ⟨?_, ?_⟩, (turn_wr X5 (by omega) hC').trans (turn_wr X6 (by omega) (fun b hb => ⟨(hC' b hb).1, by rw [X5.size]; exact (hC' b hb).2⟩))⟩
      · show Lst w W6 c k 3 zs #[.int .i64 ((lsr xs (i + 1)).1 : Nat)]
        rw [HM.out, lstep, if_pos hq]; exact L6
      · show Cel W6 m 2 #[.int .i64 ((lsr xs (i + 1)).2 : Nat)]
        rw [HM.out, lstep, if_pos hq]; exact X6.cel
    · have hqI : ¬ (qn : Int) < (l1 : Int) := by omega
      gi_wp2
      refine ⟨C, ⟨?_, ?_⟩, S.Turn.of_below (Below.refl _ _) hC'⟩
      · show Lst w W c k 3 zs #[.int .i64 ((lsr xs (i + 1)).1 : Nat)]
        rw [HM.out, lstep, if_neg hq]; exact L
      · show Cel W m 2 #[.int .i64 ((lsr xs (i + 1)).2 : Nat)]
        rw [HM.out, lstep, if_neg hq]; exact M
  case done =>
    rintro C W ⟨L, M⟩ hK hC
    have c0 := row_cell L.cel 0 _ rfl
    have HV : Hid ((lsr xs xs.length).1 = lsrS zs) := by show _ = _; rw [HXL.out]; exact HMX.out
    have BW := L.below
    gi_wp2
    refine ⟨by simp, .inl ⟨_, _, rfl, run_takeDeferred hK, ?_⟩⟩
    refine ⟨_, results_tmp rfl _ _ _, ?_, S.below_putObj BW (by have := HZ.out; omega) _⟩
    show Ending.returned (.int .i64 (((lsr xs xs.length).1 : Nat) : Int)) = _
    rw [HV.out]
  case stop =>
    rintro c C W h _ _
    exact h.elim
end Go.Proofs.YtaacggbfoejjhaaDoor
