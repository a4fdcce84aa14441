/-
  Package bag: slices.Delete of one packet.
-/
import Derived.Test.YtoppecppmjpgiaaBg9
import Derived.Deep.DeepMust
namespace Go.Proofs.Ytoppecppmjpgiaa
open Go.ChangeShapes Go.WideShapes Go.ChangeAt Go.RowKit Go.Maps
set_option linter.unusedVariables false
set_option linter.unusedSimpArgs false

/-- The cells of some packets. -/
theorem Lst.range {W : World} {g off n cap : Nat} {ds : List DG} (L : Lst W (some ⟨g, off, none⟩) n cap ds) (i : Nat) (hi : i ≤ n) : W.rangeAt g (off + i * 4) (dcs (ds.drop i)) := by
  intro j v hv
  rcases L.mem with ⟨e, _⟩ | ⟨g', off', cur, e, hh, hc, ht⟩
  · cases e
  · cases e
    refine row_cell hh _ _ ?_
    have hlen := dcs_len (ds.drop i)
    rw [List.length_drop, L.size] at hlen
    have hj : j < 4 * (n - i) := by rw [← hlen]; exact (List.getElem?_eq_some_iff.1 hv).1
    rw [dcs_drop, ← ht, List.getElem?_drop, List.getElem?_take, if_pos (by omega), List.getElem?_drop, Array.getElem?_toList] at hv
    rw [← hv]
    congr 1
    omega
/-- append(s[:i], s[j:]...) in place. -/
theorem wp_append_over {o : Oper} {A : Act} {W : World} {K : Go.Act → World → Prop} {Q : Exit → Go.Act → World → Prop} (x y : Operand) (ho : o.op = .call { callee := .builtin .append, args := #[x, y], argTypes := #[22, 22] }) {g off n cap c : Nat} {ds : List DG} (i j m q : Nat) (hq : i + m = q)
    (L : Lst W (some ⟨g, off, none⟩) n cap ds) (hij : i ≤ j) (hj : j + m = n)
    (hx : A.eval x = .slice (some ⟨g, off, none⟩) i cap) (ad : Option Addr) (hy : A.eval y = .slice ad m c) (had : ad = some ⟨g, off + j * 4, none⟩ ∨ (m = 0 ∧ ad = some ⟨g, off, none⟩))
    (h : ∀ w', Lst w' (some ⟨g, off, none⟩) n cap (ds.take i ++ ds.drop j ++ ds.drop (i + m)) → Only (at1 g) W w' → K (A.put o.dst (.slice (some ⟨g, off, none⟩) q cap)) w') : o.wp Try.prog A W K Q := by
  subst hq
  obtain ⟨i0, hi, hz0, hz1, hz2⟩ := info_parts info33
  have hsz := L.size
  have hle := L.le
  have hdl : (ds.drop j).length = m := by rw [List.length_drop, hsz]; omega
  obtain ⟨cur', hst, L'⟩ := L.over i (ds.drop j) (by rw [hdl]; omega)
  rw [hdl] at L'
  have hrg := L.range j (by omega)
  obtain ⟨ag, ao, rfl, hnews⟩ : ∃ ag ao, ad = some ⟨ag, ao, none⟩ ∧ ∀ q u, (dcs (ds.drop j))[q]? = some u → W.cell? ((⟨ag, ao, none⟩ : Addr).add q) = some u := by
    rcases had with rfl | ⟨h0, rfl⟩
    · exact ⟨_, _, rfl, fun q u hq => by rw [add_plain]; exact hrg q u hq⟩
    · refine ⟨_, _, rfl, fun q u hq => ?_⟩
      have e : ds.drop j = [] := List.eq_nil_of_length_eq_zero (by omega)
      rw [e] at hq
      cases hq
  have hfc := run_firstCells_some (P := Try.prog) W i0.size m ⟨ag, ao, none⟩ m c (dcs (ds.drop j)) (by rw [hz1, dcs_len, hdl, Nat.mul_comm]) hnews
  have hr : i + m ≤ cap := by omega
  have hrun : (Builtin.append_ #[22, 22] o.type #[.slice (some ⟨g, off, none⟩) i cap, .slice (some ⟨ag, ao, none⟩) m c]).run Try.prog W = .ok (.slice (some ⟨g, off, none⟩) (i + m) cap) (W.setRow g cur') := by
    rw [hz1] at hfc
    simp [Builtin.append_, run_underlying Try.underlying22, sizeOf, typeInfo, hi, hz1, Builtin.lenOf, hr, hfc, Addr.add_lit, hst]
  unfold Oper.wp
  simp [execOp, ho, resolve, invoke, builtin, hx, hy, hrun, Result.andThen]
  exact h _ L' (Only.setRow (C := at1 g) (Only.refl _ _) (fun _ => rfl) _)
set_option maxHeartbeats 4000000 in
theorem erase_any (g off n cap : Nat) (ds : List DG) (i j : Nat) (w : World) (L : Lst w (some ⟨g, off, none⟩) n cap ds) (hi : i < n) (hj : j = i + 1) : Calls Try.prog 56 #[.slice (some ⟨g, off, none⟩) n cap, .int .i64 (i : Int), .int .i64 (j : Int)] w fun e w' => e = .returned (.slice (some ⟨g, off, none⟩) (n - 1) cap) ∧ Lst w' (some ⟨g, off, none⟩) (n - 1) cap (ds.eraseIdx i) ∧ Only (at1 g) w w' := by
  have hmx : n ≤ 9223372036854775807 := Nat.le_trans L.le L.max
  have hle := L.le
  have h1 : i ≤ j := by omega
  have h2 : j ≤ n := by omega
  have h4 : ¬ (i : Int) = (j : Int) := by omega
  have h4' : ¬ i = j := by omega
  have h5 : j ≤ cap := by omega
  have h6 : i ≤ cap := by omega
  have hJ : Hid (j = i + 1) := ⟨hj⟩
  have hI : Hid (i < n) := ⟨hi⟩
  clear hj hi
  go_enter Try.func56, Try.ntmps56
  go_wp2_with (fail)
  refine wp_region_any (by kernel_rfl) ?_
  change wpAny _ _ _ _ _ _ _ (World.drew _)
  have Ld : Lst w.drew (some ⟨g, off, none⟩) n cap ds := L.of_block fun _ _ _ => rfl
  have od : Only (at1 g) w w.drew := (Only.refl _ _).drew
  refine any_take 0 20 (.slice (some ⟨g, off, none⟩) n cap) rfl rfl (by kernel_rfl) (by kernel_rfl) (by kernel_rfl) (fun _ _ _ h => h) (Or.inl ⟨by rfl, by intro w; go_simp⟩) ?_
  try simp only [Act.put, List.setIfInBounds_toArray, List.set_cons_zero, List.set_cons_succ]
  refine any_take 1 21 (.int .i64 (i : Int)) rfl rfl (by kernel_rfl) (by kernel_rfl) (by kernel_rfl) (fun _ _ _ h => h) (Or.inl ⟨by rfl, by intro w; go_simp⟩) ?_
  try simp only [Act.put, List.setIfInBounds_toArray, List.set_cons_zero, List.set_cons_succ]
  refine any_take 2 22 (.slice (some ⟨g, off, none⟩) i cap) rfl rfl (by kernel_rfl) (by kernel_rfl) (by kernel_rfl) (fun _ _ _ h => h) (Or.inl ⟨by rfl, by intro w; go_simp⟩) ?_
  try simp only [Act.put, List.setIfInBounds_toArray, List.set_cons_zero, List.set_cons_succ]
  refine any_take 3 23 (.slice (some ⟨g, off, none⟩) n cap) rfl rfl (by kernel_rfl) (by kernel_rfl) (by kernel_rfl) (fun _ _ _ h => h) (Or.inl ⟨by rfl, by intro w; go_simp⟩) ?_
  try simp only [Act.put, List.setIfInBounds_toArray, List.set_cons_zero, List.set_cons_succ]
  refine any_take 4 24 (.int .i64 (j : Int)) rfl rfl (by kernel_rfl) (by kernel_rfl) (by kernel_rfl) (fun _ _ _ h => h) (Or.inl ⟨by rfl, by intro w; go_simp⟩) ?_
  try simp only [Act.put, List.setIfInBounds_toArray, List.set_cons_zero, List.set_cons_succ]
  refine any_take 5 25 (.slice (if cap = j then some ⟨g, off, none⟩ else some ⟨g, off + j * 4, none⟩) (n - j) (cap - j)) rfl rfl (by kernel_rfl) (by kernel_rfl) (by kernel_rfl) (fun _ _ _ h => h) (Or.inl ⟨by rfl, by intro w; go_simp⟩) ?_
  try simp only [Act.put, List.setIfInBounds_toArray, List.set_cons_zero, List.set_cons_succ]
  refine wpAny_ready (rs := [6]) (by kernel_rfl) (by simp) ?_
  refine AllReady.cons rfl (fun K hK => ?_) AllReady.nil
  have hi := hI.out
  have hj := hJ.out
  refine wp_append_over _ _ rfl i j (n - j) (n - 1) (by omega) Ld h1 (by omega) rfl _ rfl (by by_cases hc : cap = j; (· rw [if_pos hc]; exact .inr ⟨by omega, rfl⟩); (· rw [if_neg hc]; exact .inl rfl)) ?_
  intro w2 L2 o2
  refine hK _ _ ?_
  clear hK
  try simp only [Act.put, List.setIfInBounds_toArray, List.set_cons_zero, List.set_cons_succ]
  refine any_take 7 0 (.slice (some ⟨g, off, none⟩) (n - 1) cap) rfl rfl (by kernel_rfl) (by kernel_rfl) (by kernel_rfl) (fun _ _ _ h => h) (Or.inl ⟨by rfl, by intro w; go_simp⟩) ?_
  try simp only [Act.put, List.setIfInBounds_toArray, List.set_cons_zero, List.set_cons_succ]
  refine wpAny_done (by kernel_rfl) ?_ _
  generalize (if cap = j then some (⟨g, off, none⟩ : Addr) else some ⟨g, off + j * 4, none⟩) = ad0
  obtain ⟨q, hq⟩ : ∃ q, n - 1 = q := ⟨_, rfl⟩
  rw [hq]
  have g1 : q ≤ n := by omega
  have g2 : q ≤ cap := by omega
  have g3 : q + 1 = n := by omega
  have g4 : ¬ cap = q := by omega
  have HQ : Hid (q + 1 = n ∧ i < n ∧ j = i + 1) := ⟨g3, hi, hj⟩
  clear g3 hi hj h4 h4'
  go_wp2_with ((with_reducible show wpList _ _ _ (Oper.mk _ (Op.call { callee := Callee.builtin Builtin.clear, args := _, argTypes := _ }) _ _ _ _ :: _) _ _); go_must (refine wpList_clear33 rfl _ rfl q (n - q) L2 (by omega) (by have := HQ.out; omega) rfl ?_; intro w3 L3 o3))
  go_ret
  rw [hq]
  refine ⟨rfl, ?_, (od.trans o2).trans o3⟩
  obtain ⟨g3, hi, hj⟩ := HQ.out
  have hs := L.size
  have hA : (ds.take i ++ ds.drop j).length = q := by rw [List.length_append, List.length_take, List.length_drop]; omega
  have L4 := L3.short q g1
  rw [List.take_left' (by rw [List.length_take, L2.size]; omega), List.take_left' hA, hj, ← List.eraseIdx_eq_take_drop_succ] at L4
  exact L4
end Go.Proofs.Ytoppecppmjpgiaa
