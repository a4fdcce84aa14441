/-
  Package trade: what Play returns where Ends has an error.
-/
import Derived.Test.YtcjdfnfaiocdjaaT6
import Derived.Test.YtcjdfnfaiocdjaaT3
namespace Go.Proofs.Ytcjdfnfaiocdjaa
open Go.ChangeShapes Go.WideShapes Go.ChangeAt Go.RowKit Go.Maps Go.Shelf
set_option linter.unusedVariables false
set_option linter.unusedSimpArgs false
attribute [local go_sem] Oper.semAt_some
theorem then_false {F : Fence} {m : Nat} {P : Program} {c : Code} {K : Act → World → Prop} {Q : Exit → Act → World → Prop} {x : Act} {W : World} (h : c.wpIn F m P (Exit.then K (fun _ _ _ => False)) x W) : c.wpIn F m P (Exit.then K Q) x W :=
  wpIn_mono h (by intro e x' W' h'; cases e <;> first | exact h' | exact h'.elim)
/-- What a play hands out. -/
abbrev pvV (S : PV) (sl : Option Addr) (cap : Nat) : Value := .tuple #[rg S.v S.p S.f, .slice sl S.l.length cap, .int .i64 S.e]
set_option maxRecDepth 100000 in
set_option maxHeartbeats 8000000 in
theorem play_err (v p f a b ra rb n c : Int) (w : World) (h : ends v p f a b ra rb = ⟨0, 0, c⟩) (hc : (c != 0) = true) : Calls Try.prog 15 #[.int .i64 a, .int .i64 b, rg v p f, .int .i64 ra, .int .i64 rb, .int .i64 n] w fun e w' => e = .returned (pvV ⟨0, 0, 0, [], c⟩ none 0) ∧ Below w.heap.size w w' := by
  have K8 := fun w => ends_any v p f a b ra rb w
  rw [h] at K8
  clear h
  refine (callsIn_wide (n := 2)).1 ?_
  refine callsIn_of_wp_marks Try.func15 rfl trivial ?_
  simp only [Try.ntmps15, List.size_toArray, List.length_cons, List.length_nil, Nat.reduceAdd, Nat.reduceSub, Array.replicate_succ, Array.replicate_zero, List.push_toArray, List.append_toArray, List.nil_append, List.cons_append]
  gi_wp2_with (fail)
  refine wide_scope ?_
  gi_wp2_with (first | (refine ⟨trivial, ?_⟩; gi_at_call 8; refine (callsIn_wide.2 (K8 _)).mono ?_; clear K8; rintro e w1 ⟨rfl, hb⟩; have T1 := ((Tri.new w (.int .i64 v) (.int .i64 p) (.int .i64 f) 23).alloc (.cells #[.int .i64 0, .int .i64 0, .int .i64 0] 23)).below hb; have T2 := ((Tri.new (w.alloc (.cells #[.int .i64 v, .int .i64 p, .int .i64 f] 23)) (.int .i64 0) (.int .i64 0) (.int .i64 0) 23).below hb).at (k' := w.heap.size + 1) (by simp); have hB : Below w.heap.size w w1 := Below.trans (by go_grown) (hb.mono (by simp; omega)); have HZ1 : Hid (w.heap.size + 2 ≤ w1.heap.size) := (by have := hb.size; simp at this; exact this); clear hb))
  have HO := One.new w1 (.int .i64 c) 24
  have HT := T2.alloc (.cells #[.int .i64 c] 24)
  have hB5 := hB.alloc hB.size (.cells #[.int .i64 c] 24)
  obtain ⟨W5, hW5⟩ : ∃ W5, w1.alloc (.cells #[.int .i64 c] 24) = W5 := ⟨_, rfl⟩
  rw [hW5] at HO HT hB5
  rw [hW5]
  have hz1 := HZ1.out
  clear T1 T2 hW5
  refine then_false ?_
  refine region_heldIn (fun W' => One W' (w1.heap.size) (.int .i64 c)) (by kernel_rfl) ?_
  refine anyInH_take 0 36 (rg 0 0 0) (by kernel_rfl) rfl rfl (by kernel_rfl) (by kernel_rfl) (by kernel_rfl) (fun _ _ _ h => h) (Or.inl ⟨by rfl, by intro w hSw; go_simp⟩) (fun w => by simp [Oper.about]) (HO) ?_
  try simp only [Act.put, List.setIfInBounds_toArray, List.set_cons_zero, List.set_cons_succ]
  refine anyInH_take 1 37 (.int .i64 c) (by kernel_rfl) rfl rfl (by kernel_rfl) (by kernel_rfl) (by kernel_rfl) (fun _ _ _ h => h) (Or.inl ⟨by rfl, by intro w hSw; obtain ⟨s0, s1, s2⟩ := hSw; go_simp⟩) (fun w => by simp [Oper.about]) (HO) ?_
  try simp only [Act.put, List.setIfInBounds_toArray, List.set_cons_zero, List.set_cons_succ]
  refine anyInH_one 2 (by kernel_rfl) rfl (by rfl) (fun K hK => ?_)
  obtain ⟨g0, g1, g2, h0, h1, h2, gz⟩ := _root_.id (HT)
  go_simp
  have OO : One (put3 W5 (w.heap.size + 1) (.int .i64 0) (.int .i64 0) (.int .i64 0)).drew (w1.heap.size) (.int .i64 c) := One.of_block (W := W5) HO (put3_far (W := W5) (by omega) _ _ _) (Nat.le_of_eq (put3_size W5 _ _ _ _).symm)
  have TT := (HT).store (.int .i64 0) (.int .i64 0) (.int .i64 0)
  obtain ⟨W6, hW6⟩ : ∃ W6, (put3 W5 (w.heap.size + 1) (.int .i64 0) (.int .i64 0) (.int .i64 0)) = W6 := ⟨_, rfl⟩
  rw [hW6] at OO TT
  dsimp only [put3] at hW6
  rw [hW6]
  clear g0 g1 g2 h0 h1 h2 gz
  refine hK _ _ OO (fun hS => ?_)
  clear hK
  try simp only [Act.put, List.setIfInBounds_toArray, List.set_cons_zero, List.set_cons_succ]
  refine anyInH_take 3 13 (.slice none 0 0) (by kernel_rfl) rfl rfl (by kernel_rfl) (by kernel_rfl) (by kernel_rfl) (fun _ _ _ h => h) (Or.inl ⟨by rfl, by intro w hSw; go_simp⟩) (fun w => by simp [Oper.about]) (OO) ?_
  try simp only [Act.put, List.setIfInBounds_toArray, List.set_cons_zero, List.set_cons_succ]
  refine anyInH_take 4 14 (.int .i64 c) (by kernel_rfl) rfl rfl (by kernel_rfl) (by kernel_rfl) (by kernel_rfl) (fun _ _ _ h => h) (Or.inl ⟨by rfl, by intro w hSw; go_simp⟩) (fun w => by simp [Oper.about]) (OO) ?_
  try simp only [Act.put, List.setIfInBounds_toArray, List.set_cons_zero, List.set_cons_succ]
  refine anyInH_done (by kernel_rfl) ?_ _
  gi_wp2
  obtain ⟨g0, g1, g2, h0, h1, h2, gz⟩ := _root_.id TT
  refine ⟨pvV ⟨0, 0, 0, [], c⟩ none 0, by simp [results, Try.results15, go_sem, g0, g1, g2, h0, h1, h2, gz], rfl, ?_⟩
  rw [← hW6]
  exact (Below.put3 hB5 (by omega) _ _ _).drew
end Go.Proofs.Ytcjdfnfaiocdjaa
