/-
  Package topo: stretches of lists; Unlink, the program's and the document's.
-/
import Derived.Test.YthpdaiaakpimkaaM3
import Derived.Test.YthpdaiaakpimkaaHeld
namespace Go.Proofs.Ythpdaiaakpimkaa
open Go.ChangeShapes Go.WideShapes Go.ChangeAt Go.RowKit
set_option linter.unusedVariables false
set_option linter.unusedSimpArgs false

theorem Row.from {W : World} {a : Option Addr} {n cap : Nat} {zs : List Int} (R : Row W a n cap zs) (k : Nat) (hk : k ≤ n) : Row W (if cap = k then a else a.map (·.add (k * 1))) (n - k) (cap - k) (zs.drop k) := by
  have hs := R.size
  have hm := R.max
  have hc := R.le
  refine ⟨by rw [List.length_drop]; omega, by omega, by omega, ?_, ?_⟩
  · intro e
    have e2 : a = none := by
      by_cases h : cap = k
      · rwa [if_pos h] at e
      · rw [if_neg h] at e
        cases a with
        | none => rfl
        | some x => cases e
    have := R.nil e2
    omega
  · by_cases h0 : n - k = 0
    · exact .inl h0
    · obtain ⟨b, off, rfl, hb, hcl⟩ := R.mem.resolve_left (by omega)
      rw [if_neg (show ¬ cap = k by omega)]
      refine .inr ⟨b, off + k, by rw [Option.map_some, Nat.mul_one, add_plain], hb, fun j hj => ?_⟩
      have := hcl (k + j) (by omega)
      rw [Nat.add_assoc, this]
      congr 2
      rw [List.getD_eq_getElem?_getD, List.getD_eq_getElem?_getD, List.getElem?_drop]
section
variable {ops : Array Oper} {rest : List Oper} {o : Oper} {A : Act} {W : World} {Q : Exit → Act → World → Prop} {K : Act → World → Prop}
theorem exec_to {ρ : Operand → Value} {x y : Operand} (ho : o.op = .slice 22 x none (some y) none) {a : Option Addr} {n cap k : Nat} (hx : ρ x = .slice a n cap) (hy : ρ y = .int .i64 (k : Int)) (hk : k ≤ cap) : (execOp ρ o).run Try.prog W = .ok (.value (.slice a k cap)) W := by
  have hz : (sizeOf (Try.prog.elem 22)).run Try.prog W = .ok 1 W := by kernel_rfl
  have hu : Try.prog.underlying 22 = some (.slice (Try.prog.elem 22)) := by kernel_rfl
  have h0 : (if cap = 0 then a else a.map (·.add (0 * 1))) = a := by
    split
    · rfl
    · cases a with
      | none => rfl
      | some x => obtain ⟨b, o, s⟩ := x; cases s <;> simp [Addr.add]
  simp only [execOp, ho, hx, hy, Option.map_none, Option.map_some, Sem.run_bind, run_sliceAt_slice _ _ _ _ _ _ hu, run_slice_h W 22 a n cap hu .i64 (k : Int) (by omega) (by omega), hz, Result.andThen_ok, sliced, Int.toNat_natCast, Nat.sub_zero, h0]
  rfl
theorem exec_from {ρ : Operand → Value} {x y : Operand} (ho : o.op = .slice 22 x (some y) none none) {a : Option Addr} {n cap k : Nat} (hx : ρ x = .slice a n cap) (hy : ρ y = .int .i64 (k : Int)) (hk : k ≤ n) : (execOp ρ o).run Try.prog W = .ok (.value (.slice (if cap = k then a else a.map (·.add (k * 1))) (n - k) (cap - k))) W := by
  have hz : (sizeOf (Try.prog.elem 22)).run Try.prog W = .ok 1 W := by kernel_rfl
  have hu : Try.prog.underlying 22 = some (.slice (Try.prog.elem 22)) := by kernel_rfl
  simp only [execOp, ho, hx, hy, Option.map_none, Option.map_some, Sem.run_bind, run_sliceAt_slice _ _ _ _ _ _ hu, run_slice_l W 22 a n cap hu .i64 (k : Int) (by omega) (by omega), hz, Result.andThen_ok, sliced, Int.toNat_natCast]
  rfl
theorem wpList_to (hgd : o.guard = none) (x y : Operand) (ho : o.op = .slice 22 x none (some y) none) {a : Option Addr} {n cap k : Nat} (hx : A.eval x = .slice a n cap) (hy : A.eval y = .int .i64 (k : Int)) (hk : k ≤ cap)
    (h : wpList Try.prog ops Q rest (A.put o.dst (.slice a k cap)) W) : wpList Try.prog ops Q (o :: rest) A W := by
  refine wpList_plain hgd fun K hK => ?_
  unfold Oper.wp
  rw [exec_to ho hx hy hk]
  exact hK _ _ h
theorem wpList_from (hgd : o.guard = none) (x y : Operand) (ho : o.op = .slice 22 x (some y) none none) {a : Option Addr} {n cap k : Nat} (a' : Option Addr) (hx : A.eval x = .slice a n cap) (hy : A.eval y = .int .i64 (k : Int)) (hk : k ≤ n) (ha : (if cap = k then a else a.map (·.add (k * 1))) = a')
    (h : wpList Try.prog ops Q rest (A.put o.dst (.slice a' (n - k) (cap - k))) W) : wpList Try.prog ops Q (o :: rest) A W := by
  refine wpList_plain hgd fun K hK => ?_
  unfold Oper.wp
  rw [exec_from ho hx hy hk, ha]
  exact hK _ _ h
end
theorem wp_append_ints {w : World} {o : Oper} {a : Act} {K : Act → World → Prop} {Q : Exit → Act → World → Prop}
    (s x : Operand) (hop : o.op = Op.call { callee := Callee.builtin Builtin.append, args := #[s, x], argTypes := #[22, 22] })
    (base : Nat) (v : Value) (k : Nat) (xs : List Value) (hs : a.eval s = v) (hown : w.ownsRow base 3 1 v k xs) (ad : Option Addr) (m c : Nat) (zs : List Int) (hx : a.eval x = .slice ad m c)
    (R : Row w ad m c zs) (b2 : (k + m) * 8 ≤ 140737488355328) (b3 : base ≤ w.heap.size)
    (hK : ∀ a' c' w', w'.ownsRow base 3 1 (.slice a' (k + m) c') (k + m) (xs ++ zs.map iv) → w.grownBy w' v.ownBlock → K (a.put o.dst (.slice a' (k + m) c')) w') :
    o.wp Try.prog a w K Q := by
  obtain ⟨a', c', w', hrun, r1, r2⟩ := run_append_ints o.type hown R b2 b3
  unfold Oper.wp
  simp [execOp, hop, resolve, invoke, builtin, hs, hx, hrun, Result.andThen]
  exact hK a' c' w' r1 r2
/-- What is left of a list, and the turn behind it. -/
def unL (l : List Int) (v : Int) : List Int := l.take (ix v l) ++ l.drop (ix v l + 1)
def unT (l : List Int) (t : Nat) (v : Int) : Nat := if (if ix v l < t then t - 1 else t) = l.length - 1 then 0 else (if ix v l < t then t - 1 else t)
def un (l : List Int) (t : Nat) (v : Int) : List Int × Int × Int := if ix v l < l.length then (unL l v, (unT l t v : Int), 0) else (l, (t : Int), 44)
theorem unL_len {l : List Int} {v : Int} (h : ix v l < l.length) : (unL l v).length = l.length - 1 := by unfold unL; simp; omega
set_option maxRecDepth 100000 in
set_option maxHeartbeats 4000000 in
theorem unlink_any (a : Option Addr) (len cap : Nat) (zs : List Int) (t : Nat) (v : Int) (w : World) (R : Row w a len cap zs) (hl : len ≤ 10000) (ht : t < len ∨ t = 0) : Calls Try.prog 16 #[.slice a len cap, .int .i64 (t : Int), .int .i64 v] w fun e w' => ∃ a' c', e = .returned (.tuple #[.slice a' (un zs t v).1.length c', .int .i64 (un zs t v).2.1, .int .i64 (un zs t v).2.2]) ∧ Row w' a' (un zs t v).1.length c' (un zs t v).1 ∧ Below w.heap.size w w' := by
  have HL : Hid (len ≤ 10000) := hl
  have HS : Hid (zs.length = len) := R.size
  have HT : Hid (t < len ∨ t = 0) := ht
  have hlc := R.le
  by_cases h : ix v zs < zs.length
  · have hk : ix v zs < zs.length := h
    obtain ⟨k, hke⟩ : ∃ k, ix v zs = k := ⟨_, rfl⟩
    have HX : Hid (ix v zs = k) := hke
    rw [show un zs t v = (unL zs v, (unT zs t v : Int), 0) from by unfold un; rw [if_pos h]]
    rw [unL_len h]
    dsimp only
    rw [hke] at hk
    rw [show zs.length = len from HS.out] at hk ⊢
    have HUL : Hid (zs.take k ++ zs.drop (k + 1) = unL zs v) := by show _ = _; unfold unL; rw [hke]
    have HNL : Hid (k + (len - (k + 1)) = len - 1) := by show _ = _; omega
    have HKC : Hid (k ≤ cap) := by show k ≤ cap; omega
    have HK1 : Hid (k + 1 ≤ len) := hk
    have hwk : IntKind.i64.wrap ((k : Int) + 1) = ((k + 1 : Nat) : Int) := by rw [IntKind.wrap_i64]; have := HL.out; have := HK1.out; omega
    have hk0 : ¬ (k : Int) < 0 := by omega
    have K1 := index_any a len cap zs v w R
    rw [show px v zs = (k : Int) from by unfold px; rw [if_pos h, hke]] at K1
    obtain ⟨a9, h9⟩ : ∃ a9, (if cap = k + 1 then a else a.map (·.add ((k + 1) * 1))) = a9 := ⟨_, rfl⟩
    have RF := R.from (k + 1) hk
    rw [h9] at RF
    have H9 : Hid ((if cap = k + 1 then a else a.map (·.add ((k + 1) * 1))) = a9) := h9
    have K2 : ∀ W, Below w.heap.size w W → Calls Try.prog 29 #[.slice a k cap] W fun e w' => ∃ a' c', e = .returned (.slice a' k c') ∧ w'.ownsRow W.heap.size 3 1 (.slice a' k c') k ((zs.take k).map iv) ∧ Below W.heap.size W w' := fun W b => own_any a k cap (zs.take k) W ((R.to (Nat.le_of_lt hk)).below b) (by omega)
    clear h9 R h hk hke hlc hl ht
    by_cases h5 : k < t
    · have h5I : (k : Int) < (t : Int) := by omega
      have hwr : IntKind.i64.wrap ((t : Int) - 1) = ((t - 1 : Nat) : Int) := by rw [IntKind.wrap_i64]; have := HT.out; have := HL.out; omega
      by_cases h6 : t - 1 = len - 1
      · have HU : Hid (unT zs t v = 0) := by show unT zs t v = 0; unfold unT; rw [HX.out, HS.out, if_pos h5, if_pos h6]
        have h6I : (((t - 1 : Nat) : Int) == ((len - 1 : Nat) : Int)) = true := by rw [h6]; simp
        clear h5 h6
        go_enter Try.func16, Try.ntmps16
        go_wp2_with (go_at_call 32; refine K1.mono ?_; clear K1; rintro e w1 ⟨rfl, hw⟩; rw [hw]; clear hw w1)
        refine wp_region_any (by kernel_rfl) ?_
        change wpAny _ _ _ _ _ _ _ (World.drew _)
        refine wpAny_narrow (fun _ => True) _ _ _ _ ?_
        refine anyH_take 0 19 (.slice a len cap) rfl rfl (by kernel_rfl) (by kernel_rfl) (by kernel_rfl) (fun _ _ _ h => h) (Or.inl ⟨by rfl, by intro w hSw; go_simp⟩) (trivial) ?_
        try simp only [Act.put, List.setIfInBounds_toArray, List.set_cons_zero, List.set_cons_succ]
        refine anyH_take 1 20 (.int .i64 (k : Int)) rfl rfl (by kernel_rfl) (by kernel_rfl) (by kernel_rfl) (fun _ _ _ h => h) (Or.inl ⟨by rfl, by intro w hSw; go_simp⟩) (trivial) ?_
        try simp only [Act.put, List.setIfInBounds_toArray, List.set_cons_zero, List.set_cons_succ]
        refine anyH_take 2 21 (.slice a k cap) rfl rfl (by kernel_rfl) (by kernel_rfl) (by kernel_rfl) (fun _ _ _ h => h) (Or.inl ⟨by rfl, fun X _ => exec_to rfl rfl rfl HKC.out⟩) (trivial) ?_
        try simp only [Act.put, List.setIfInBounds_toArray, List.set_cons_zero, List.set_cons_succ]
        refine anyH_take 4 23 (.slice a len cap) rfl rfl (by kernel_rfl) (by kernel_rfl) (by kernel_rfl) (fun _ _ _ h => h) (Or.inl ⟨by rfl, by intro w hSw; go_simp⟩) (trivial) ?_
        try simp only [Act.put, List.setIfInBounds_toArray, List.set_cons_zero, List.set_cons_succ]
        refine anyH_take 5 24 (.int .i64 (k : Int)) rfl rfl (by kernel_rfl) (by kernel_rfl) (by kernel_rfl) (fun _ _ _ h => h) (Or.inl ⟨by rfl, by intro w hSw; go_simp⟩) (trivial) ?_
        try simp only [Act.put, List.setIfInBounds_toArray, List.set_cons_zero, List.set_cons_succ]
        refine anyH_take 6 25 (.int .i64 ((k + 1 : Nat) : Int)) rfl rfl (by kernel_rfl) (by kernel_rfl) (by kernel_rfl) (fun _ _ _ h => h) (Or.inl ⟨by rfl, by intro w hSw; go_simp⟩) (trivial) ?_
        try simp only [Act.put, List.setIfInBounds_toArray, List.set_cons_zero, List.set_cons_succ]
        refine anyH_take 7 26 (.slice a9 (len - (k + 1)) (cap - (k + 1))) rfl rfl (by kernel_rfl) (by kernel_rfl) (by kernel_rfl) (fun _ _ _ h => h) (Or.inl ⟨by rfl, fun X _ => (by rw [← H9.out]; exact exec_from rfl rfl rfl HK1.out)⟩) (trivial) ?_
        try simp only [Act.put, List.setIfInBounds_toArray, List.set_cons_zero, List.set_cons_succ]
        refine wpAnyH_ready (rs := [3]) (by kernel_rfl) (by simp) ?_
        refine AllReadyH.cons rfl (fun K hK => ?_) AllReadyH.nil
        go_simp
        go_wp2_with (go_at_call 29; refine (K2 _ (Below.refl _ w).drew).mono ?_; clear K2; rintro e w1 ⟨a1, c1, rfl, O1, B1⟩)
        refine hK.out _ _ (trivial) (fun hS => ?_)
        clear hK
        try simp only [Act.put, List.setIfInBounds_toArray, List.set_cons_zero, List.set_cons_succ]
        refine wpAnyH_ready (rs := [8]) (by kernel_rfl) (by simp) ?_
        refine AllReadyH.cons rfl (fun K hK => ?_) AllReadyH.nil
        have B1w : Below w.heap.size w w1 := (Below.refl _ w).drew.trans B1
        refine wp_append_ints _ _ rfl w.drew.heap.size (.slice a1 k c1) k ((zs.take k).map iv) rfl O1 a9 (len - (k + 1)) (cap - (k + 1)) (zs.drop (k + 1)) rfl (RF.below B1w) (by have := HL.out; have := HK1.out; omega) B1.size ?_
        intro a3 c3 w3 O3 r3
        refine hK.out _ _ (trivial) (fun hS => ?_)
        clear hK
        rw [← List.map_append, HUL.out, HNL.out] at O3
        simp only [HNL.out]
        have B3 : Below w.heap.size w w3 := B1w.grown r3 B1w.size (fun j e => (O1.lt j e).1)
        clear O1 r3 B1 B1w RF
        try simp only [Act.put, List.setIfInBounds_toArray, List.set_cons_zero, List.set_cons_succ]
        refine anyH_take 9 10 (.slice a3 (len - 1) c3) rfl rfl (by kernel_rfl) (by kernel_rfl) (by kernel_rfl) (fun _ _ _ h => h) (Or.inl ⟨by rfl, by intro w hSw; go_simp⟩) (trivial) ?_
        try simp only [Act.put, List.setIfInBounds_toArray, List.set_cons_zero, List.set_cons_succ]
        refine wpAnyH_done (by kernel_rfl) ?_ _
        go_wp2
        exact bodyPost_ret (v := .tuple #[.slice a3 (len - 1) c3, .int .i64 (0), .int .i64 0]) (by simp [results, Try.results16, go_sem]) rfl ⟨_, _, (by rw [HU.out]; try rfl), owns_row O3, B3⟩
      · have HU : Hid (unT zs t v = t - 1) := by show unT zs t v = t - 1; unfold unT; rw [HX.out, HS.out, if_pos h5, if_neg h6]
        have h6I : (((t - 1 : Nat) : Int) == ((len - 1 : Nat) : Int)) = false := by simp; omega
        clear h5 h6
        go_enter Try.func16, Try.ntmps16
        go_wp2_with (go_at_call 32; refine K1.mono ?_; clear K1; rintro e w1 ⟨rfl, hw⟩; rw [hw]; clear hw w1)
        refine wp_region_any (by kernel_rfl) ?_
        change wpAny _ _ _ _ _ _ _ (World.drew _)
        refine wpAny_narrow (fun _ => True) _ _ _ _ ?_
        refine anyH_take 0 19 (.slice a len cap) rfl rfl (by kernel_rfl) (by kernel_rfl) (by kernel_rfl) (fun _ _ _ h => h) (Or.inl ⟨by rfl, by intro w hSw; go_simp⟩) (trivial) ?_
        try simp only [Act.put, List.setIfInBounds_toArray, List.set_cons_zero, List.set_cons_succ]
        refine anyH_take 1 20 (.int .i64 (k : Int)) rfl rfl (by kernel_rfl) (by kernel_rfl) (by kernel_rfl) (fun _ _ _ h => h) (Or.inl ⟨by rfl, by intro w hSw; go_simp⟩) (trivial) ?_
        try simp only [Act.put, List.setIfInBounds_toArray, List.set_cons_zero, List.set_cons_succ]
        refine anyH_take 2 21 (.slice a k cap) rfl rfl (by kernel_rfl) (by kernel_rfl) (by kernel_rfl) (fun _ _ _ h => h) (Or.inl ⟨by rfl, fun X _ => exec_to rfl rfl rfl HKC.out⟩) (trivial) ?_
        try simp only [Act.put, List.setIfInBounds_toArray, List.set_cons_zero, List.set_cons_succ]
        refine anyH_take 4 23 (.slice a len cap) rfl rfl (by kernel_rfl) (by kernel_rfl) (by kernel_rfl) (fun _ _ _ h => h) (Or.inl ⟨by rfl, by intro w hSw; go_simp⟩) (trivial) ?_
        try simp only [Act.put, List.setIfInBounds_toArray, List.set_cons_zero, List.set_cons_succ]
        refine anyH_take 5 24 (.int .i64 (k : Int)) rfl rfl (by kernel_rfl) (by kernel_rfl) (by kernel_rfl) (fun _ _ _ h => h) (Or.inl ⟨by rfl, by intro w hSw; go_simp⟩) (trivial) ?_
        try simp only [Act.put, List.setIfInBounds_toArray, List.set_cons_zero, List.set_cons_succ]
        refine anyH_take 6 25 (.int .i64 ((k + 1 : Nat) : Int)) rfl rfl (by kernel_rfl) (by kernel_rfl) (by kernel_rfl) (fun _ _ _ h => h) (Or.inl ⟨by rfl, by intro w hSw; go_simp⟩) (trivial) ?_
        try simp only [Act.put, List.setIfInBounds_toArray, List.set_cons_zero, List.set_cons_succ]
        refine anyH_take 7 26 (.slice a9 (len - (k + 1)) (cap - (k + 1))) rfl rfl (by kernel_rfl) (by kernel_rfl) (by kernel_rfl) (fun _ _ _ h => h) (Or.inl ⟨by rfl, fun X _ => (by rw [← H9.out]; exact exec_from rfl rfl rfl HK1.out)⟩) (trivial) ?_
        try simp only [Act.put, List.setIfInBounds_toArray, List.set_cons_zero, List.set_cons_succ]
        refine wpAnyH_ready (rs := [3]) (by kernel_rfl) (by simp) ?_
        refine AllReadyH.cons rfl (fun K hK => ?_) AllReadyH.nil
        go_simp
        go_wp2_with (go_at_call 29; refine (K2 _ (Below.refl _ w).drew).mono ?_; clear K2; rintro e w1 ⟨a1, c1, rfl, O1, B1⟩)
        refine hK.out _ _ (trivial) (fun hS => ?_)
        clear hK
        try simp only [Act.put, List.setIfInBounds_toArray, List.set_cons_zero, List.set_cons_succ]
        refine wpAnyH_ready (rs := [8]) (by kernel_rfl) (by simp) ?_
        refine AllReadyH.cons rfl (fun K hK => ?_) AllReadyH.nil
        have B1w : Below w.heap.size w w1 := (Below.refl _ w).drew.trans B1
        refine wp_append_ints _ _ rfl w.drew.heap.size (.slice a1 k c1) k ((zs.take k).map iv) rfl O1 a9 (len - (k + 1)) (cap - (k + 1)) (zs.drop (k + 1)) rfl (RF.below B1w) (by have := HL.out; have := HK1.out; omega) B1.size ?_
        intro a3 c3 w3 O3 r3
        refine hK.out _ _ (trivial) (fun hS => ?_)
        clear hK
        rw [← List.map_append, HUL.out, HNL.out] at O3
        simp only [HNL.out]
        have B3 : Below w.heap.size w w3 := B1w.grown r3 B1w.size (fun j e => (O1.lt j e).1)
        clear O1 r3 B1 B1w RF
        try simp only [Act.put, List.setIfInBounds_toArray, List.set_cons_zero, List.set_cons_succ]
        refine anyH_take 9 10 (.slice a3 (len - 1) c3) rfl rfl (by kernel_rfl) (by kernel_rfl) (by kernel_rfl) (fun _ _ _ h => h) (Or.inl ⟨by rfl, by intro w hSw; go_simp⟩) (trivial) ?_
        try simp only [Act.put, List.setIfInBounds_toArray, List.set_cons_zero, List.set_cons_succ]
        refine wpAnyH_done (by kernel_rfl) ?_ _
        go_wp2
        exact bodyPost_ret (v := .tuple #[.slice a3 (len - 1) c3, .int .i64 (((t - 1 : Nat) : Int)), .int .i64 0]) (by simp [results, Try.results16, go_sem]) rfl ⟨_, _, (by rw [HU.out]; try rfl), owns_row O3, B3⟩
    · have h5I : ¬ (k : Int) < (t : Int) := by omega
      by_cases h6 : t = len - 1
      · have HU : Hid (unT zs t v = 0) := by show unT zs t v = 0; unfold unT; rw [HX.out, HS.out, if_neg h5, if_pos h6]
        have h6I : ((t : Int) == ((len - 1 : Nat) : Int)) = true := by rw [h6]; simp
        clear h5 h6
        go_enter Try.func16, Try.ntmps16
        go_wp2_with (go_at_call 32; refine K1.mono ?_; clear K1; rintro e w1 ⟨rfl, hw⟩; rw [hw]; clear hw w1)
        refine wp_region_any (by kernel_rfl) ?_
        change wpAny _ _ _ _ _ _ _ (World.drew _)
        refine wpAny_narrow (fun _ => True) _ _ _ _ ?_
        refine anyH_take 0 19 (.slice a len cap) rfl rfl (by kernel_rfl) (by kernel_rfl) (by kernel_rfl) (fun _ _ _ h => h) (Or.inl ⟨by rfl, by intro w hSw; go_simp⟩) (trivial) ?_
        try simp only [Act.put, List.setIfInBounds_toArray, List.set_cons_zero, List.set_cons_succ]
        refine anyH_take 1 20 (.int .i64 (k : Int)) rfl rfl (by kernel_rfl) (by kernel_rfl) (by kernel_rfl) (fun _ _ _ h => h) (Or.inl ⟨by rfl, by intro w hSw; go_simp⟩) (trivial) ?_
        try simp only [Act.put, List.setIfInBounds_toArray, List.set_cons_zero, List.set_cons_succ]
        refine anyH_take 2 21 (.slice a k cap) rfl rfl (by kernel_rfl) (by kernel_rfl) (by kernel_rfl) (fun _ _ _ h => h) (Or.inl ⟨by rfl, fun X _ => exec_to rfl rfl rfl HKC.out⟩) (trivial) ?_
        try simp only [Act.put, List.setIfInBounds_toArray, List.set_cons_zero, List.set_cons_succ]
        refine anyH_take 4 23 (.slice a len cap) rfl rfl (by kernel_rfl) (by kernel_rfl) (by kernel_rfl) (fun _ _ _ h => h) (Or.inl ⟨by rfl, by intro w hSw; go_simp⟩) (trivial) ?_
        try simp only [Act.put, List.setIfInBounds_toArray, List.set_cons_zero, List.set_cons_succ]
        refine anyH_take 5 24 (.int .i64 (k : Int)) rfl rfl (by kernel_rfl) (by kernel_rfl) (by kernel_rfl) (fun _ _ _ h => h) (Or.inl ⟨by rfl, by intro w hSw; go_simp⟩) (trivial) ?_
        try simp only [Act.put, List.setIfInBounds_toArray, List.set_cons_zero, List.set_cons_succ]
        refine anyH_take 6 25 (.int .i64 ((k + 1 : Nat) : Int)) rfl rfl (by kernel_rfl) (by kernel_rfl) (by kernel_rfl) (fun _ _ _ h => h) (Or.inl ⟨by rfl, by intro w hSw; go_simp⟩) (trivial) ?_
        try simp only [Act.put, List.setIfInBounds_toArray, List.set_cons_zero, List.set_cons_succ]
        refine anyH_take 7 26 (.slice a9 (len - (k + 1)) (cap - (k + 1))) rfl rfl (by kernel_rfl) (by kernel_rfl) (by kernel_rfl) (fun _ _ _ h => h) (Or.inl ⟨by rfl, fun X _ => (by rw [← H9.out]; exact exec_from rfl rfl rfl HK1.out)⟩) (trivial) ?_
        try simp only [Act.put, List.setIfInBounds_toArray, List.set_cons_zero, List.set_cons_succ]
        refine wpAnyH_ready (rs := [3]) (by kernel_rfl) (by simp) ?_
        refine AllReadyH.cons rfl (fun K hK => ?_) AllReadyH.nil
        go_simp
        go_wp2_with (go_at_call 29; refine (K2 _ (Below.refl _ w).drew).mono ?_; clear K2; rintro e w1 ⟨a1, c1, rfl, O1, B1⟩)
        refine hK.out _ _ (trivial) (fun hS => ?_)
        clear hK
        try simp only [Act.put, List.setIfInBounds_toArray, List.set_cons_zero, List.set_cons_succ]
        refine wpAnyH_ready (rs := [8]) (by kernel_rfl) (by simp) ?_
        refine AllReadyH.cons rfl (fun K hK => ?_) AllReadyH.nil
        have B1w : Below w.heap.size w w1 := (Below.refl _ w).drew.trans B1
        refine wp_append_ints _ _ rfl w.drew.heap.size (.slice a1 k c1) k ((zs.take k).map iv) rfl O1 a9 (len - (k + 1)) (cap - (k + 1)) (zs.drop (k + 1)) rfl (RF.below B1w) (by have := HL.out; have := HK1.out; omega) B1.size ?_
        intro a3 c3 w3 O3 r3
        refine hK.out _ _ (trivial) (fun hS => ?_)
        clear hK
        rw [← List.map_append, HUL.out, HNL.out] at O3
        simp only [HNL.out]
        have B3 : Below w.heap.size w w3 := B1w.grown r3 B1w.size (fun j e => (O1.lt j e).1)
        clear O1 r3 B1 B1w RF
        try simp only [Act.put, List.setIfInBounds_toArray, List.set_cons_zero, List.set_cons_succ]
        refine anyH_take 9 10 (.slice a3 (len - 1) c3) rfl rfl (by kernel_rfl) (by kernel_rfl) (by kernel_rfl) (fun _ _ _ h => h) (Or.inl ⟨by rfl, by intro w hSw; go_simp⟩) (trivial) ?_
        try simp only [Act.put, List.setIfInBounds_toArray, List.set_cons_zero, List.set_cons_succ]
        refine wpAnyH_done (by kernel_rfl) ?_ _
        go_wp2
        exact bodyPost_ret (v := .tuple #[.slice a3 (len - 1) c3, .int .i64 (0), .int .i64 0]) (by simp [results, Try.results16, go_sem]) rfl ⟨_, _, (by rw [HU.out]; try rfl), owns_row O3, B3⟩
      · have HU : Hid (unT zs t v = t) := by show unT zs t v = t; unfold unT; rw [HX.out, HS.out, if_neg h5, if_neg h6]
        have h6I : ((t : Int) == ((len - 1 : Nat) : Int)) = false := by simp; omega
        clear h5 h6
        go_enter Try.func16, Try.ntmps16
        go_wp2_with (go_at_call 32; refine K1.mono ?_; clear K1; rintro e w1 ⟨rfl, hw⟩; rw [hw]; clear hw w1)
        refine wp_region_any (by kernel_rfl) ?_
        change wpAny _ _ _ _ _ _ _ (World.drew _)
        refine wpAny_narrow (fun _ => True) _ _ _ _ ?_
        refine anyH_take 0 19 (.slice a len cap) rfl rfl (by kernel_rfl) (by kernel_rfl) (by kernel_rfl) (fun _ _ _ h => h) (Or.inl ⟨by rfl, by intro w hSw; go_simp⟩) (trivial) ?_
        try simp only [Act.put, List.setIfInBounds_toArray, List.set_cons_zero, List.set_cons_succ]
        refine anyH_take 1 20 (.int .i64 (k : Int)) rfl rfl (by kernel_rfl) (by kernel_rfl) (by kernel_rfl) (fun _ _ _ h => h) (Or.inl ⟨by rfl, by intro w hSw; go_simp⟩) (trivial) ?_
        try simp only [Act.put, List.setIfInBounds_toArray, List.set_cons_zero, List.set_cons_succ]
        refine anyH_take 2 21 (.slice a k cap) rfl rfl (by kernel_rfl) (by kernel_rfl) (by kernel_rfl) (fun _ _ _ h => h) (Or.inl ⟨by rfl, fun X _ => exec_to rfl rfl rfl HKC.out⟩) (trivial) ?_
        try simp only [Act.put, List.setIfInBounds_toArray, List.set_cons_zero, List.set_cons_succ]
        refine anyH_take 4 23 (.slice a len cap) rfl rfl (by kernel_rfl) (by kernel_rfl) (by kernel_rfl) (fun _ _ _ h => h) (Or.inl ⟨by rfl, by intro w hSw; go_simp⟩) (trivial) ?_
        try simp only [Act.put, List.setIfInBounds_toArray, List.set_cons_zero, List.set_cons_succ]
        refine anyH_take 5 24 (.int .i64 (k : Int)) rfl rfl (by kernel_rfl) (by kernel_rfl) (by kernel_rfl) (fun _ _ _ h => h) (Or.inl ⟨by rfl, by intro w hSw; go_simp⟩) (trivial) ?_
        try simp only [Act.put, List.setIfInBounds_toArray, List.set_cons_zero, List.set_cons_succ]
        refine anyH_take 6 25 (.int .i64 ((k + 1 : Nat) : Int)) rfl rfl (by kernel_rfl) (by kernel_rfl) (by kernel_rfl) (fun _ _ _ h => h) (Or.inl ⟨by rfl, by intro w hSw; go_simp⟩) (trivial) ?_
        try simp only [Act.put, List.setIfInBounds_toArray, List.set_cons_zero, List.set_cons_succ]
        refine anyH_take 7 26 (.slice a9 (len - (k + 1)) (cap - (k + 1))) rfl rfl (by kernel_rfl) (by kernel_rfl) (by kernel_rfl) (fun _ _ _ h => h) (Or.inl ⟨by rfl, fun X _ => (by rw [← H9.out]; exact exec_from rfl rfl rfl HK1.out)⟩) (trivial) ?_
        try simp only [Act.put, List.setIfInBounds_toArray, List.set_cons_zero, List.set_cons_succ]
        refine wpAnyH_ready (rs := [3]) (by kernel_rfl) (by simp) ?_
        refine AllReadyH.cons rfl (fun K hK => ?_) AllReadyH.nil
        go_simp
        go_wp2_with (go_at_call 29; refine (K2 _ (Below.refl _ w).drew).mono ?_; clear K2; rintro e w1 ⟨a1, c1, rfl, O1, B1⟩)
        refine hK.out _ _ (trivial) (fun hS => ?_)
        clear hK
        try simp only [Act.put, List.setIfInBounds_toArray, List.set_cons_zero, List.set_cons_succ]
        refine wpAnyH_ready (rs := [8]) (by kernel_rfl) (by simp) ?_
        refine AllReadyH.cons rfl (fun K hK => ?_) AllReadyH.nil
        have B1w : Below w.heap.size w w1 := (Below.refl _ w).drew.trans B1
        refine wp_append_ints _ _ rfl w.drew.heap.size (.slice a1 k c1) k ((zs.take k).map iv) rfl O1 a9 (len - (k + 1)) (cap - (k + 1)) (zs.drop (k + 1)) rfl (RF.below B1w) (by have := HL.out; have := HK1.out; omega) B1.size ?_
        intro a3 c3 w3 O3 r3
        refine hK.out _ _ (trivial) (fun hS => ?_)
        clear hK
        rw [← List.map_append, HUL.out, HNL.out] at O3
        simp only [HNL.out]
        have B3 : Below w.heap.size w w3 := B1w.grown r3 B1w.size (fun j e => (O1.lt j e).1)
        clear O1 r3 B1 B1w RF
        try simp only [Act.put, List.setIfInBounds_toArray, List.set_cons_zero, List.set_cons_succ]
        refine anyH_take 9 10 (.slice a3 (len - 1) c3) rfl rfl (by kernel_rfl) (by kernel_rfl) (by kernel_rfl) (fun _ _ _ h => h) (Or.inl ⟨by rfl, by intro w hSw; go_simp⟩) (trivial) ?_
        try simp only [Act.put, List.setIfInBounds_toArray, List.set_cons_zero, List.set_cons_succ]
        refine wpAnyH_done (by kernel_rfl) ?_ _
        go_wp2
        exact bodyPost_ret (v := .tuple #[.slice a3 (len - 1) c3, .int .i64 ((t : Int)), .int .i64 0]) (by simp [results, Try.results16, go_sem]) rfl ⟨_, _, (by rw [HU.out]; try rfl), owns_row O3, B3⟩
  · rw [show un zs t v = (zs, (t : Int), 44) from by unfold un; rw [if_neg h]]
    dsimp only
    rw [show zs.length = len from HS.out]
    have K1 := index_any a len cap zs v w R
    rw [show px v zs = -1 from by unfold px; rw [if_neg h]] at K1
    have K2 := own_any a len cap zs w R (by omega)
    clear R h hlc hl ht
    go_enter Try.func16, Try.ntmps16
    go_wp2_with (first
      | (go_at_call 32; refine K1.mono ?_; clear K1; rintro e w1 ⟨rfl, hw⟩; rw [hw]; clear hw w1)
      | (go_at_call 29; refine K2.mono ?_; clear K2; rintro e w1 ⟨a1, c1, rfl, O1, B1⟩))
    exact bodyPost_ret (v := .tuple #[.slice a1 len c1, .int .i64 (t : Int), .int .i64 44]) (by simp [results, Try.results16, go_sem]) rfl ⟨_, _, rfl, owns_row O1, B1⟩
set_option maxRecDepth 100000 in
set_option maxHeartbeats 4000000 in
theorem runlink_any (a : Option Addr) (len cap : Nat) (zs : List Int) (t : Nat) (v : Int) (w : World) (R : Row w a len cap zs) (hl : len ≤ 10000) (ht : t < len ∨ t = 0) : Calls Try.prog 17 #[.slice a len cap, .int .i64 (t : Int), .int .i64 v] w fun e w' => ∃ a' c', e = .returned (.tuple #[.slice a' (un zs t v).1.length c', .int .i64 (un zs t v).2.1, .int .i64 (un zs t v).2.2]) ∧ Row w' a' (un zs t v).1.length c' (un zs t v).1 ∧ Below w.heap.size w w' := by
  have HL : Hid (len ≤ 10000) := hl
  have HS : Hid (zs.length = len) := R.size
  have HT : Hid (t < len ∨ t = 0) := ht
  have hlc := R.le
  by_cases h : ix v zs < zs.length
  · have hk : ix v zs < zs.length := h
    obtain ⟨k, hke⟩ : ∃ k, ix v zs = k := ⟨_, rfl⟩
    have HX : Hid (ix v zs = k) := hke
    rw [show un zs t v = (unL zs v, (unT zs t v : Int), 0) from by unfold un; rw [if_pos h]]
    rw [unL_len h]
    dsimp only
    rw [hke] at hk
    rw [show zs.length = len from HS.out] at hk ⊢
    have HUL : Hid (zs.take k ++ zs.drop (k + 1) = unL zs v) := by show _ = _; unfold unL; rw [hke]
    have HNL : Hid (k + (len - (k + 1)) = len - 1) := by show _ = _; omega
    have HKC : Hid (k ≤ cap) := by show k ≤ cap; omega
    have HK1 : Hid (k + 1 ≤ len) := hk
    have hwk : IntKind.i64.wrap ((k : Int) + 1) = ((k + 1 : Nat) : Int) := by rw [IntKind.wrap_i64]; have := HL.out; have := HK1.out; omega
    have hk0 : ¬ (k : Int) < 0 := by omega
    have K1 := place_any a len cap zs v w R
    rw [show px v zs = (k : Int) from by unfold px; rw [if_pos h, hke]] at K1
    obtain ⟨a9, h9⟩ : ∃ a9, (if cap = k + 1 then a else a.map (·.add ((k + 1) * 1))) = a9 := ⟨_, rfl⟩
    have RF := R.from (k + 1) hk
    rw [h9] at RF
    have H9 : Hid ((if cap = k + 1 then a else a.map (·.add ((k + 1) * 1))) = a9) := h9
    have RT := R.to (Nat.le_of_lt hk)
    clear h9 R h hk hke hlc hl ht
    by_cases h5 : k < t
    · have h5I : (k : Int) < (t : Int) := by omega
      have hwr : IntKind.i64.wrap ((t : Int) - 1) = ((t - 1 : Nat) : Int) := by rw [IntKind.wrap_i64]; have := HT.out; have := HL.out; omega
      by_cases h6 : t - 1 = len - 1
      · have HU : Hid (unT zs t v = 0) := by show unT zs t v = 0; unfold unT; rw [HX.out, HS.out, if_pos h5, if_pos h6]
        have h6J : ((len - 1 : Nat) : Int) ≤ ((t - 1 : Nat) : Int) := by omega
        clear h5 h6
        go_enter Try.func17, Try.ntmps17
        go_wp2_with (first
          | (go_at_call 28; refine K1.mono ?_; clear K1; rintro e w1 ⟨rfl, hw⟩; rw [hw]; clear hw w1)
          | ((with_reducible show wpList _ _ _ (Oper.mk _ (Op.slice 22 _ none (some _) none) _ _ _ _ :: _) _ _); go_must (refine wpList_to rfl _ _ rfl rfl rfl HKC.out ?_))
          | ((with_reducible show wpList _ _ _ (Oper.mk _ (Op.slice 22 _ (some _) none none) _ _ _ _ :: _) _ _); go_must (refine wpList_from (k := k + 1) rfl _ _ rfl a9 rfl rfl HK1.out H9.out ?_))
          | ((with_reducible show wpList _ _ _ (Oper.mk _ (Op.call { callee := Callee.builtin Builtin.append, args := #[Operand.tmp 24, Operand.tmp 28], argTypes := #[22, 22] }) _ _ _ _ :: _) _ _); go_must (refine wpList_append_ints rfl _ _ rfl w.heap.size (.slice a1 k c1) k ((zs.take k).map iv) rfl O1 a9 (len - (k + 1)) (cap - (k + 1)) (zs.drop (k + 1)) rfl (RF.below B1) (by have := HL.out; have := HK1.out; omega) B1.size ?_; intro a3 c3 w3 O3 r3; rw [← List.map_append, HUL.out, HNL.out] at O3; simp only [HNL.out]; have B3 : Below w.heap.size w w3 := B1.grown r3 B1.size (fun j e => (O1.lt j e).1); clear O1 r3 B1 RF))
          | ((with_reducible show wpList _ _ _ (Oper.mk _ (Op.call { callee := Callee.builtin Builtin.append, args := #[Operand.tmp 19, Operand.tmp 22], argTypes := #[22, 22] }) _ _ _ _ :: _) _ _); go_must (refine wpList_append_ints rfl _ _ rfl w.heap.size (.slice none 0 0) 0 [] rfl (World.ownsRow_nil _ _ _ _) a k cap (zs.take k) rfl RT (by have := HL.out; have := HK1.out; omega) (Nat.le_refl _) ?_; intro a1 c1 w1 O1 r1; simp only [Nat.zero_add, List.nil_append] at O1; have B1 : Below w.heap.size w w1 := (Below.refl _ w).grown r1 (Nat.le_refl _) (fun j e => by cases e); clear RT r1; try simp only [Nat.zero_add])))
        exact bodyPost_ret (v := .tuple #[.slice a3 (len - 1) c3, .int .i64 (0), .int .i64 0]) (by simp [results, Try.results17, go_sem]) rfl ⟨_, _, (by rw [HU.out]; try rfl), owns_row O3, B3⟩
      · have HU : Hid (unT zs t v = t - 1) := by show unT zs t v = t - 1; unfold unT; rw [HX.out, HS.out, if_pos h5, if_neg h6]
        have h6J : ¬ ((len - 1 : Nat) : Int) ≤ ((t - 1 : Nat) : Int) := by have := HT.out; omega
        clear h5 h6
        go_enter Try.func17, Try.ntmps17
        go_wp2_with (first
          | (go_at_call 28; refine K1.mono ?_; clear K1; rintro e w1 ⟨rfl, hw⟩; rw [hw]; clear hw w1)
          | ((with_reducible show wpList _ _ _ (Oper.mk _ (Op.slice 22 _ none (some _) none) _ _ _ _ :: _) _ _); go_must (refine wpList_to rfl _ _ rfl rfl rfl HKC.out ?_))
          | ((with_reducible show wpList _ _ _ (Oper.mk _ (Op.slice 22 _ (some _) none none) _ _ _ _ :: _) _ _); go_must (refine wpList_from (k := k + 1) rfl _ _ rfl a9 rfl rfl HK1.out H9.out ?_))
          | ((with_reducible show wpList _ _ _ (Oper.mk _ (Op.call { callee := Callee.builtin Builtin.append, args := #[Operand.tmp 24, Operand.tmp 28], argTypes := #[22, 22] }) _ _ _ _ :: _) _ _); go_must (refine wpList_append_ints rfl _ _ rfl w.heap.size (.slice a1 k c1) k ((zs.take k).map iv) rfl O1 a9 (len - (k + 1)) (cap - (k + 1)) (zs.drop (k + 1)) rfl (RF.below B1) (by have := HL.out; have := HK1.out; omega) B1.size ?_; intro a3 c3 w3 O3 r3; rw [← List.map_append, HUL.out, HNL.out] at O3; simp only [HNL.out]; have B3 : Below w.heap.size w w3 := B1.grown r3 B1.size (fun j e => (O1.lt j e).1); clear O1 r3 B1 RF))
          | ((with_reducible show wpList _ _ _ (Oper.mk _ (Op.call { callee := Callee.builtin Builtin.append, args := #[Operand.tmp 19, Operand.tmp 22], argTypes := #[22, 22] }) _ _ _ _ :: _) _ _); go_must (refine wpList_append_ints rfl _ _ rfl w.heap.size (.slice none 0 0) 0 [] rfl (World.ownsRow_nil _ _ _ _) a k cap (zs.take k) rfl RT (by have := HL.out; have := HK1.out; omega) (Nat.le_refl _) ?_; intro a1 c1 w1 O1 r1; simp only [Nat.zero_add, List.nil_append] at O1; have B1 : Below w.heap.size w w1 := (Below.refl _ w).grown r1 (Nat.le_refl _) (fun j e => by cases e); clear RT r1; try simp only [Nat.zero_add])))
        exact bodyPost_ret (v := .tuple #[.slice a3 (len - 1) c3, .int .i64 (((t - 1 : Nat) : Int)), .int .i64 0]) (by simp [results, Try.results17, go_sem]) rfl ⟨_, _, (by rw [HU.out]; try rfl), owns_row O3, B3⟩
    · have h5I : ¬ (k : Int) < (t : Int) := by omega
      by_cases h6 : t = len - 1
      · have HU : Hid (unT zs t v = 0) := by show unT zs t v = 0; unfold unT; rw [HX.out, HS.out, if_neg h5, if_pos h6]
        have h6J : ((len - 1 : Nat) : Int) ≤ (t : Int) := by omega
        clear h5 h6
        go_enter Try.func17, Try.ntmps17
        go_wp2_with (first
          | (go_at_call 28; refine K1.mono ?_; clear K1; rintro e w1 ⟨rfl, hw⟩; rw [hw]; clear hw w1)
          | ((with_reducible show wpList _ _ _ (Oper.mk _ (Op.slice 22 _ none (some _) none) _ _ _ _ :: _) _ _); go_must (refine wpList_to rfl _ _ rfl rfl rfl HKC.out ?_))
          | ((with_reducible show wpList _ _ _ (Oper.mk _ (Op.slice 22 _ (some _) none none) _ _ _ _ :: _) _ _); go_must (refine wpList_from (k := k + 1) rfl _ _ rfl a9 rfl rfl HK1.out H9.out ?_))
          | ((with_reducible show wpList _ _ _ (Oper.mk _ (Op.call { callee := Callee.builtin Builtin.append, args := #[Operand.tmp 24, Operand.tmp 28], argTypes := #[22, 22] }) _ _ _ _ :: _) _ _); go_must (refine wpList_append_ints rfl _ _ rfl w.heap.size (.slice a1 k c1) k ((zs.take k).map iv) rfl O1 a9 (len - (k + 1)) (cap - (k + 1)) (zs.drop (k + 1)) rfl (RF.below B1) (by have := HL.out; have := HK1.out; omega) B1.size ?_; intro a3 c3 w3 O3 r3; rw [← List.map_append, HUL.out, HNL.out] at O3; simp only [HNL.out]; have B3 : Below w.heap.size w w3 := B1.grown r3 B1.size (fun j e => (O1.lt j e).1); clear O1 r3 B1 RF))
          | ((with_reducible show wpList _ _ _ (Oper.mk _ (Op.call { callee := Callee.builtin Builtin.append, args := #[Operand.tmp 19, Operand.tmp 22], argTypes := #[22, 22] }) _ _ _ _ :: _) _ _); go_must (refine wpList_append_ints rfl _ _ rfl w.heap.size (.slice none 0 0) 0 [] rfl (World.ownsRow_nil _ _ _ _) a k cap (zs.take k) rfl RT (by have := HL.out; have := HK1.out; omega) (Nat.le_refl _) ?_; intro a1 c1 w1 O1 r1; simp only [Nat.zero_add, List.nil_append] at O1; have B1 : Below w.heap.size w w1 := (Below.refl _ w).grown r1 (Nat.le_refl _) (fun j e => by cases e); clear RT r1; try simp only [Nat.zero_add])))
        exact bodyPost_ret (v := .tuple #[.slice a3 (len - 1) c3, .int .i64 (0), .int .i64 0]) (by simp [results, Try.results17, go_sem]) rfl ⟨_, _, (by rw [HU.out]; try rfl), owns_row O3, B3⟩
      · have HU : Hid (unT zs t v = t) := by show unT zs t v = t; unfold unT; rw [HX.out, HS.out, if_neg h5, if_neg h6]
        have h6J : ¬ ((len - 1 : Nat) : Int) ≤ (t : Int) := by have := HT.out; omega
        clear h5 h6
        go_enter Try.func17, Try.ntmps17
        go_wp2_with (first
          | (go_at_call 28; refine K1.mono ?_; clear K1; rintro e w1 ⟨rfl, hw⟩; rw [hw]; clear hw w1)
          | ((with_reducible show wpList _ _ _ (Oper.mk _ (Op.slice 22 _ none (some _) none) _ _ _ _ :: _) _ _); go_must (refine wpList_to rfl _ _ rfl rfl rfl HKC.out ?_))
          | ((with_reducible show wpList _ _ _ (Oper.mk _ (Op.slice 22 _ (some _) none none) _ _ _ _ :: _) _ _); go_must (refine wpList_from (k := k + 1) rfl _ _ rfl a9 rfl rfl HK1.out H9.out ?_))
          | ((with_reducible show wpList _ _ _ (Oper.mk _ (Op.call { callee := Callee.builtin Builtin.append, args := #[Operand.tmp 24, Operand.tmp 28], argTypes := #[22, 22] }) _ _ _ _ :: _) _ _); go_must (refine wpList_append_ints rfl _ _ rfl w.heap.size (.slice a1 k c1) k ((zs.take k).map iv) rfl O1 a9 (len - (k + 1)) (cap - (k + 1)) (zs.drop (k + 1)) rfl (RF.below B1) (by have := HL.out; have := HK1.out; omega) B1.size ?_; intro a3 c3 w3 O3 r3; rw [← List.map_append, HUL.out, HNL.out] at O3; simp only [HNL.out]; have B3 : Below w.heap.size w w3 := B1.grown r3 B1.size (fun j e => (O1.lt j e).1); clear O1 r3 B1 RF))
          | ((with_reducible show wpList _ _ _ (Oper.mk _ (Op.call { callee := Callee.builtin Builtin.append, args := #[Operand.tmp 19, Operand.tmp 22], argTypes := #[22, 22] }) _ _ _ _ :: _) _ _); go_must (refine wpList_append_ints rfl _ _ rfl w.heap.size (.slice none 0 0) 0 [] rfl (World.ownsRow_nil _ _ _ _) a k cap (zs.take k) rfl RT (by have := HL.out; have := HK1.out; omega) (Nat.le_refl _) ?_; intro a1 c1 w1 O1 r1; simp only [Nat.zero_add, List.nil_append] at O1; have B1 : Below w.heap.size w w1 := (Below.refl _ w).grown r1 (Nat.le_refl _) (fun j e => by cases e); clear RT r1; try simp only [Nat.zero_add])))
        exact bodyPost_ret (v := .tuple #[.slice a3 (len - 1) c3, .int .i64 ((t : Int)), .int .i64 0]) (by simp [results, Try.results17, go_sem]) rfl ⟨_, _, (by rw [HU.out]; try rfl), owns_row O3, B3⟩
  · rw [show un zs t v = (zs, (t : Int), 44) from by unfold un; rw [if_neg h]]
    dsimp only
    rw [show zs.length = len from HS.out]
    have K1 := place_any a len cap zs v w R
    rw [show px v zs = -1 from by unfold px; rw [if_neg h]] at K1
    have K2 := rcopied_any a len cap zs w R (by omega)
    clear R h hlc hl ht
    go_enter Try.func17, Try.ntmps17
    go_wp2_with (first
      | (go_at_call 28; refine K1.mono ?_; clear K1; rintro e w1 ⟨rfl, hw⟩; rw [hw]; clear hw w1)
      | (go_at_call 30; refine K2.mono ?_; clear K2; rintro e w1 ⟨a1, c1, rfl, O1, B1⟩))
    exact bodyPost_ret (v := .tuple #[.slice a1 len c1, .int .i64 (t : Int), .int .i64 44]) (by simp [results, Try.results17, go_sem]) rfl ⟨_, _, rfl, owns_row O1, B1⟩
end Go.Proofs.Ythpdaiaakpimkaa
