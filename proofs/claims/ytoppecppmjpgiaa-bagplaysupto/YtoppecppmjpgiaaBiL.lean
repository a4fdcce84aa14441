/-
  Package bag: the document's Sever where no pair is severed yet, where this one is, and of one node.
-/
import Derived.Test.YtoppecppmjpgiaaBiI
namespace Go.Proofs.Ytoppecppmjpgiaa
open Go.ChangeShapes Go.WideShapes Go.ChangeAt Go.RowKit Go.Maps
set_option linter.unusedVariables false
set_option linter.unusedSimpArgs false
set_option maxHeartbeats 2000000 in
theorem rsever_same (r : Nat) (x : Int) (w : World) : Calls Try.prog 31 #[.pointer (some ⟨r, 0, none⟩), .int .i64 x, .int .i64 x] w fun e w' => e = .returned (.int .i64 0) ∧ w' = w := by
  go_enter Try.func31, Try.ntmps31
  go_wp2
  go_ret
  exact ⟨rfl, rfl⟩
set_option maxHeartbeats 2000000 in
theorem rsever_in (r : Nat) (next : Int) (a : Option Addr) (n cap : Nat) (ds : List DG) (la : Option Addr) (m lc : Nat) (ls : List LK) (x y : Int) (w : World) (R : RAt w r next a n cap ds la m lc ls) (hxy : x ≠ y) (hc : 0 ≤ idxK (eqK ⟨min x y, max x y⟩) ls) (hn : n ≤ 65536) :
    Calls Try.prog 31 #[.pointer (some ⟨r, 0, none⟩), .int .i64 x, .int .i64 y] w fun e w' => ∃ w1, Below w.heap.size w w1 ∧ RLost w1 r next n (ds.filter (fun d => !lostP false true x y d)) la m lc ls e w' := by
  have K := severed_any r next a n cap ds la m lc ls x y w R
  generalize idxK (eqK ⟨min x y, max x y⟩) ls = q at K hc
  have hxy' : (x == y) = false := by simpa using hxy
  have hq : ¬ q < 0 := by omega
  clear hxy hc
  go_enter Try.func31, Try.ntmps31
  go_wp2_with (first
    | (go_at_call 46; go_must (refine K.mono ?_; rintro e w0 ⟨rfl, b0⟩; clear K; have KL := rlose_way r next a n cap ds la m lc ls x y _ (R.below b0) hn))
    | (go_at_call 49; go_must (refine KL.mono ?_; clear KL; rintro e w7 hL; have HLL := hL; obtain ⟨rfl, _⟩ := hL)))
  go_ret
  exact ⟨w0, b0, HLL⟩
set_option maxRecDepth 100000 in
set_option maxHeartbeats 8000000 in
theorem rsever_nil (r : Nat) (next : Int) (a : Option Addr) (n cap : Nat) (ds : List DG) (x y : Int) (w : World) (R : RAt w r next a n cap ds none 0 0 []) (hxy : x ≠ y) (hn : n ≤ 65536) :
    Calls Try.prog 31 #[.pointer (some ⟨r, 0, none⟩), .int .i64 x, .int .i64 y] w fun e w' => RSev w r next a n cap ds [⟨min x y, max x y⟩] (ds.filter (fun d => !lostP false true x y d)) e w' := by
  have K := severed_any r next a n cap ds none 0 0 [] x y w R
  rw [show idxK (eqK ⟨min x y, max x y⟩) [] = -1 from rfl] at K
  have hxy' : (x == y) = false := by simpa using hxy
  clear hxy
  go_enter Try.func31, Try.ntmps31
  go_wp2_with (go_at_call 46; go_must (refine K.mono ?_; rintro e w0 ⟨rfl, b0⟩; clear K))
  go_loopg [8] 1 (fun g v8 wr => v8 = .int .i64 0 ∧ Below w.heap.size w wr)
  case atStart => exact ⟨by first | rfl | go_num, b0⟩
  case round =>
    clear b0
    obtain ⟨rfl, hbw⟩ := hrel
    go_wp2
    refine wp_region_any (by kernel_rfl) ?_
    change wpAny _ _ _ _ _ _ _ (World.drew _)
    refine wpAny_narrow (fun W' => Below wr.heap.size wr W') _ _ _ _ ?_
    refine anyH_take 0 17 (.int .i64 0) rfl rfl (by kernel_rfl) (by kernel_rfl) (by kernel_rfl) (fun _ _ _ h => h) (Or.inl ⟨by rfl, by intro w hSw; go_simp⟩) ((Below.refl _ _).drew) ?_
    try simp only [Act.put, List.setIfInBounds_toArray, List.set_cons_zero, List.set_cons_succ]
    refine anyH_take 1 18 (.pointer (some ⟨r, 0, none⟩)) rfl rfl (by kernel_rfl) (by kernel_rfl) (by kernel_rfl) (fun _ _ _ h => h) (Or.inl ⟨by rfl, by intro w hSw; go_simp⟩) ((Below.refl _ _).drew) ?_
    try simp only [Act.put, List.setIfInBounds_toArray, List.set_cons_zero, List.set_cons_succ]
    refine anyH_take 2 19 (.pointer (some ⟨r, 0, none⟩)) rfl rfl (by kernel_rfl) (by kernel_rfl) (by kernel_rfl) (fun _ _ _ h => h) (Or.inl ⟨by rfl, by intro w hSw; go_simp⟩) ((Below.refl _ _).drew) ?_
    try simp only [Act.put, List.setIfInBounds_toArray, List.set_cons_zero, List.set_cons_succ]
    refine anyH_take 3 20 (.pointer (some ⟨r, 0, none⟩)) rfl rfl (by kernel_rfl) (by kernel_rfl) (by kernel_rfl) (fun _ _ _ h => h) (Or.inl ⟨by rfl, by intro w hSw; go_simp⟩) ((Below.refl _ _).drew) ?_
    try simp only [Act.put, List.setIfInBounds_toArray, List.set_cons_zero, List.set_cons_succ]
    refine anyH_take 4 21 (.pointer (some ⟨r, 2, none⟩)) rfl rfl (by kernel_rfl) (by kernel_rfl) (by kernel_rfl) (fun _ _ _ h => h) (Or.inl ⟨by rfl, by intro w hSw; go_simp⟩) ((Below.refl _ _).drew) ?_
    try simp only [Act.put, List.setIfInBounds_toArray, List.set_cons_zero, List.set_cons_succ]
    refine anyH_take 5 22 (.slice none 0 0) rfl rfl (by kernel_rfl) (by kernel_rfl) (by kernel_rfl) (fun _ _ _ h => h) (Or.inl ⟨by rfl, by intro w hSw; have k0 := row_cell (R.below (hbw.trans (hSw.mono hbw.size))).obj 2 (.slice none 0 0) rfl; go_simp⟩) ((Below.refl _ _).drew) ?_
    try simp only [Act.put, List.setIfInBounds_toArray, List.set_cons_zero, List.set_cons_succ]
    refine anyH_take 6 23 (.int .i64 0) rfl rfl (by kernel_rfl) (by kernel_rfl) (by kernel_rfl) (fun _ _ _ h => h) (Or.inl ⟨by rfl, by intro w hSw; go_simp⟩) ((Below.refl _ _).drew) ?_
    try simp only [Act.put, List.setIfInBounds_toArray, List.set_cons_zero, List.set_cons_succ]
    refine anyH_take 7 24 (.bool false) rfl rfl (by kernel_rfl) (by kernel_rfl) (by kernel_rfl) (fun _ _ _ h => h) (Or.inl ⟨by rfl, by intro w hSw; go_simp⟩) ((Below.refl _ _).drew) ?_
    try simp only [Act.put, List.setIfInBounds_toArray, List.set_cons_zero, List.set_cons_succ]
    refine anyH_take 8 25 (.bool false) rfl rfl (by kernel_rfl) (by kernel_rfl) (by kernel_rfl) (fun _ _ _ h => h) (Or.inl ⟨by rfl, by intro w hSw; go_simp⟩) ((Below.refl _ _).drew) ?_
    try simp only [Act.put, List.setIfInBounds_toArray, List.set_cons_zero, List.set_cons_succ]
    refine anyH_take 9 26 (undef) rfl rfl (by kernel_rfl) (by kernel_rfl) (by kernel_rfl) (fun _ _ _ h => h) (Or.inr ⟨by rfl, rfl⟩) ((Below.refl _ _).drew) ?_
    try simp only [Act.put, List.setIfInBounds_toArray, List.set_cons_zero, List.set_cons_succ]
    refine anyH_take 10 27 (undef) rfl rfl (by kernel_rfl) (by kernel_rfl) (by kernel_rfl) (fun _ _ _ h => h) (Or.inr ⟨by rfl, rfl⟩) ((Below.refl _ _).drew) ?_
    try simp only [Act.put, List.setIfInBounds_toArray, List.set_cons_zero, List.set_cons_succ]
    refine anyH_take 11 28 (undef) rfl rfl (by kernel_rfl) (by kernel_rfl) (by kernel_rfl) (fun _ _ _ h => h) (Or.inr ⟨by rfl, rfl⟩) ((Below.refl _ _).drew) ?_
    try simp only [Act.put, List.setIfInBounds_toArray, List.set_cons_zero, List.set_cons_succ]
    refine anyH_take 12 29 (undef) rfl rfl (by kernel_rfl) (by kernel_rfl) (by kernel_rfl) (fun _ _ _ h => h) (Or.inr ⟨by rfl, rfl⟩) ((Below.refl _ _).drew) ?_
    try simp only [Act.put, List.setIfInBounds_toArray, List.set_cons_zero, List.set_cons_succ]
    refine anyH_take 13 30 (undef) rfl rfl (by kernel_rfl) (by kernel_rfl) (by kernel_rfl) (fun _ _ _ h => h) (Or.inr ⟨by rfl, rfl⟩) ((Below.refl _ _).drew) ?_
    try simp only [Act.put, List.setIfInBounds_toArray, List.set_cons_zero, List.set_cons_succ]
    refine anyH_take 14 31 (undef) rfl rfl (by kernel_rfl) (by kernel_rfl) (by kernel_rfl) (fun _ _ _ h => h) (Or.inr ⟨by rfl, rfl⟩) ((Below.refl _ _).drew) ?_
    try simp only [Act.put, List.setIfInBounds_toArray, List.set_cons_zero, List.set_cons_succ]
    refine anyH_take 15 32 (undef) rfl rfl (by kernel_rfl) (by kernel_rfl) (by kernel_rfl) (fun _ _ _ h => h) (Or.inr ⟨by rfl, rfl⟩) ((Below.refl _ _).drew) ?_
    try simp only [Act.put, List.setIfInBounds_toArray, List.set_cons_zero, List.set_cons_succ]
    refine anyH_take 16 33 (undef) rfl rfl (by kernel_rfl) (by kernel_rfl) (by kernel_rfl) (fun _ _ _ h => h) (Or.inr ⟨by rfl, rfl⟩) ((Below.refl _ _).drew) ?_
    try simp only [Act.put, List.setIfInBounds_toArray, List.set_cons_zero, List.set_cons_succ]
    refine anyH_take 17 34 (undef) rfl rfl (by kernel_rfl) (by kernel_rfl) (by kernel_rfl) (fun _ _ _ h => h) (Or.inr ⟨by rfl, rfl⟩) ((Below.refl _ _).drew) ?_
    try simp only [Act.put, List.setIfInBounds_toArray, List.set_cons_zero, List.set_cons_succ]
    refine anyH_take 18 35 (undef) rfl rfl (by kernel_rfl) (by kernel_rfl) (by kernel_rfl) (fun _ _ _ h => h) (Or.inr ⟨by rfl, rfl⟩) ((Below.refl _ _).drew) ?_
    try simp only [Act.put, List.setIfInBounds_toArray, List.set_cons_zero, List.set_cons_succ]
    refine anyH_take 19 36 (undef) rfl rfl (by kernel_rfl) (by kernel_rfl) (by kernel_rfl) (fun _ _ _ h => h) (Or.inr ⟨by rfl, rfl⟩) ((Below.refl _ _).drew) ?_
    try simp only [Act.put, List.setIfInBounds_toArray, List.set_cons_zero, List.set_cons_succ]
    refine anyH_take 20 37 (undef) rfl rfl (by kernel_rfl) (by kernel_rfl) (by kernel_rfl) (fun _ _ _ h => h) (Or.inr ⟨by rfl, rfl⟩) ((Below.refl _ _).drew) ?_
    try simp only [Act.put, List.setIfInBounds_toArray, List.set_cons_zero, List.set_cons_succ]
    refine anyH_take 21 38 (.bool false) rfl rfl (by kernel_rfl) (by kernel_rfl) (by kernel_rfl) (fun _ _ _ h => h) (Or.inl ⟨by rfl, by intro w hSw; go_simp⟩) ((Below.refl _ _).drew) ?_
    try simp only [Act.put, List.setIfInBounds_toArray, List.set_cons_zero, List.set_cons_succ]
    refine wpAnyH_done (by kernel_rfl) ?_ _
    have hb9 : Below w.heap.size w (World.drew wr) := hbw.drew
    generalize World.drew wr = W9 at *
    have c2 := row_cell (R.below hb9).obj 2 (.slice none 0 0) rfl
    go_wp2_with (first
      | ((with_reducible show wpList _ _ _ (Oper.mk _ (Op.call { callee := Callee.builtin Builtin.append, args := #[Operand.tmp 41, Operand.tmp 48], argTypes := _ }) _ _ _ _ :: _) _ _); go_must (refine wpList_more_none rfl _ _ rfl (base := w.heap.size) (k := 0) rfl rfl (World.ownsRow_nil _ _ 65 2) ?_))
      | (go_at_call 48; go_must (refine (link_any x y _).mono ?_; rintro e w4 ⟨rfl, b4⟩; have b14 := hb9.trans (b4.mono hb9.size)))
      | ((with_reducible show wpList _ _ _ (Oper.mk _ (Op.buildSlice 23 1 _) _ _ _ _ :: _) _ _); go_must (refine wpList_one65 rfl _ rfl ⟨min x y, max x y⟩ rfl ?_))
      | ((with_reducible show wpList _ _ _ (Oper.mk _ (Op.call { callee := Callee.builtin Builtin.append, args := #[Operand.tmp 50, Operand.tmp 54], argTypes := _ }) _ _ _ _ :: _) _ _); go_must (refine wpList_more_lks rfl _ _ rfl (base := w.heap.size) (k := 0) (es := []) (ls := [(⟨min x y, max x y⟩ : LK)]) (g := w4.heap.size) (off := 0) rfl rfl (World.ownsRow_nil _ _ 65 2) rfl (fun j u hj => (by rw [Nat.zero_add]; exact row_cell (World.alloc_heap_new w4 _) j u (by simpa [lcs] using hj))) (by omega) (by have := b14.size; simp; omega) ?_; intro v5 w5 O5 b5; have b15 := (b14.alloc b14.size _).trans b5; have c5 := row_cell (R.below b15).obj 2 (.slice none 0 0) rfl))
      | ((with_reducible show wpList _ _ _ (Oper.mk _ (Op.call { callee := Callee.builtin Builtin.append, args := #[Operand.tmp 57, Operand.tmp 64], argTypes := _ }) _ _ _ _ :: _) _ _); go_must (refine wpList_more_none rfl _ _ rfl (base := w.heap.size) (k := 0 + 1) rfl rfl O5 ?_; rw [List.nil_append, Nat.zero_add] at O5; obtain ⟨la', lc', rfl, K6, hnew⟩ := own_lks O5 rfl; have R6 := R.below b15; have e2 := row_cell R6.obj 2 (.slice none 0 0) rfl; have f2 := row_free R6.obj 2; have RD := rlinks_done R b15 rfl O5; obtain ⟨oD, la1, lc1, RA, hn1⟩ := RD; have KL := rlose_way r next a n cap ds la1 _ lc1 _ x y _ RA hn))
      | (go_at_call 49; go_must (refine KL.mono ?_; clear KL; rintro e w7 hL; have HLL := hL; obtain ⟨rfl, _⟩ := hL)))
    all_goals go_ret
    all_goals exact ⟨_, la1, lc1, oD, RA, hn1, HLL⟩
end Go.Proofs.Ytoppecppmjpgiaa
