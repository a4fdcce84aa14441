/-
  slices.Delete, slices.Insert and slices.Replace of one half-edge.
-/
import Derived.Test.YtacefkchhcpgaaaC5
namespace Go.Proofs.Ytacefkchhcpgaaa
open Go.ChangeShapes Go.WideShapes Go.ChangeAt Go.RowKit
set_option linter.unusedVariables false
set_option linter.unusedSimpArgs false

theorem LstH.tail {W : World} {g off n cap : Nat} {ds : List HR} (L : LstH W (some ⟨g, off, none⟩) n cap ds) (k q : Nat) (es : List HR) (hk : k ≤ n) (hq : k + es.length = q) (hc : q ≤ cap) :
    ∃ cur', (storeCells ⟨g, off + k * 6, none⟩ (csH es)).run Try.prog W = .ok () (W.setRow g cur') ∧ LstH (W.setRow g cur') (some ⟨g, off, none⟩) q cap (ds.take k ++ es) := by
  rcases L.mem with ⟨e, _⟩ | ⟨g', off', cur, e, hh, hcs, htk⟩
  · cases e
  · cases e
    have hsz := L.size
    have hel := csH_len es
    have hst := run_storeCells_at Try.prog g (off + k * 6) 24 (csH es) 0 cur W hh (by rw [hcs, hel]; omega) (csH_one es)
    simp only [Nat.add_zero] at hst
    refine ⟨_, hst, ⟨by rw [List.length_append, List.length_take]; omega, hc, L.max, .inr ⟨g, off, _, rfl, setRow_heap _ _ _ _ _ _ hh, ?_, ?_⟩⟩⟩
    · simp only [List.size_toArray, List.length_append, List.length_take, List.length_drop, Array.length_toList, hel]
      omega
    · rw [csH_append, csH_take, ← htk, List.take_take, Nat.min_eq_left (by omega)]
      have e1 : off + k * 6 = off + 6 * k := by omega
      have e2 : 6 * q = 6 * k + (csH es).length := by rw [hel]; omega
      show ((_ : List Value).drop off).take (6 * q) = _
      rw [e1, e2]
      exact put_row _ _ _ _ _ (by rw [Array.length_toList, hcs]; have := L.le; omega)
section
variable {ops : Array Oper} {rest : List Oper} {o : Oper} {A : Act} {W : World} {Q : Exit → Act → World → Prop} {K : Act → World → Prop}
theorem wp_copyH (x y : Operand) (ho : o.op = .call { callee := .builtin .copy, args := #[x, y], argTypes := #[25, 25] }) {g off k dl dc sl sc n' cap : Nat} {ad : Addr} {es ds' : List HR}
    (H : ∃ cur', (storeCells ⟨g, off + k * 6, none⟩ (csH es)).run Try.prog W = .ok () (W.setRow g cur') ∧ LstH (W.setRow g cur') (some ⟨g, off, none⟩) n' cap ds') (hl : es.length = Nat.min sl dl)
    (hsrc : ∀ j u, (csH es)[j]? = some u → W.cell? (ad.add j) = some u) (hx : A.eval x = .slice (some ⟨g, off + k * 6, none⟩) dl dc) (hy : A.eval y = .slice (some ad) sl sc)
    (h : ∀ w', LstH w' (some ⟨g, off, none⟩) n' cap ds' → Only (at1 g) W w' → K (A.put o.dst (goInt (Nat.min sl dl))) w') : o.wp Try.prog A W K Q := by
  obtain ⟨cur', hst, L'⟩ := H
  obtain ⟨i0, hi, hz0, hz1, hz2⟩ := info_parts info24
  have hlc := run_loadCells_list (P := Try.prog) W ad (csH es) hsrc
  have hn : (csH es).length = Nat.min sl dl * 6 := by rw [csH_len, hl]; omega
  have hrun : (Builtin.copy_ #[25, 25] o.type #[.slice (some ⟨g, off + k * 6, none⟩) dl dc, .slice (some ad) sl sc]).run Try.prog W = .ok (goInt (Nat.min sl dl)) (W.setRow g cur') := by
    simp [Builtin.copy_, run_underlying Try.underlying25, Builtin.lenOf, Builtin.firstCells, sizeOf, typeInfo, hi, hz1, ← hn, hlc, hst]
  unfold Oper.wp
  simp [execOp, ho, resolve, invoke, builtin, hx, hy, hrun, Result.andThen]
  exact h _ L' (Only.setRow (C := at1 g) (Only.refl _ _) (fun _ => rfl) _)
theorem wpList_copyH (hgd : o.guard = none) (x y : Operand) (ho : o.op = .call { callee := .builtin .copy, args := #[x, y], argTypes := #[25, 25] }) {g off k dl dc sl sc n' cap : Nat} {ad : Addr} {es ds' : List HR}
    (H : ∃ cur', (storeCells ⟨g, off + k * 6, none⟩ (csH es)).run Try.prog W = .ok () (W.setRow g cur') ∧ LstH (W.setRow g cur') (some ⟨g, off, none⟩) n' cap ds') (hl : es.length = Nat.min sl dl)
    (hsrc : ∀ j u, (csH es)[j]? = some u → W.cell? (ad.add j) = some u) (hx : A.eval x = .slice (some ⟨g, off + k * 6, none⟩) dl dc) (hy : A.eval y = .slice (some ad) sl sc)
    (h : ∀ w', LstH w' (some ⟨g, off, none⟩) n' cap ds' → Only (at1 g) W w' → wpList Try.prog ops Q rest (A.put o.dst (goInt (Nat.min sl dl))) w') : wpList Try.prog ops Q (o :: rest) A W :=
  wpList_plain hgd fun _ hK => wp_copyH x y ho H hl hsrc hx hy fun w' h1 h2 => hK _ _ (h w' h1 h2)
theorem wp_append1H (s x : Operand) (ho : o.op = .call { callee := .builtin .append, args := #[s, x], argTypes := #[25, 25] }) {a : Option Addr} {n cap b : Nat} {ds : List HR} {d : HR}
    (hs : A.eval s = .slice a n cap) (hx : A.eval x = .slice (some ⟨b, 0, none⟩) 1 1) (L : LstH W a n cap ds) (hd : W.rangeAt b 0 d.cells) (hn : n ≤ 65536)
    (h : ∀ a' cap' w', LstH w' a' (n + 1) cap' (ds ++ [d]) → (∀ g off, a' = some ⟨g, off, none⟩ → (∃ o, a = some ⟨g, o, none⟩) ∨ W.heap.size ≤ g) → Only (atL a) W w' → K (A.put o.dst (.slice a' (n + 1) cap')) w') : o.wp Try.prog A W K Q := by
  obtain ⟨v', w', hrun, ⟨a', cap', rfl, L', hb⟩, hO⟩ := run_append_lstH o.type L hd hn
  unfold Oper.wp
  simp [execOp, ho, resolve, invoke, builtin, hs, hx, hrun, Result.andThen]
  exact h a' cap' w' L' hb hO
theorem wpList_append1H (hgd : o.guard = none) (s x : Operand) (ho : o.op = .call { callee := .builtin .append, args := #[s, x], argTypes := #[25, 25] }) {a : Option Addr} {n cap b : Nat} {ds : List HR} {d : HR}
    (hs : A.eval s = .slice a n cap) (hx : A.eval x = .slice (some ⟨b, 0, none⟩) 1 1) (L : LstH W a n cap ds) (hd : W.rangeAt b 0 d.cells) (hn : n ≤ 65536)
    (h : ∀ a' cap' w', LstH w' a' (n + 1) cap' (ds ++ [d]) → (∀ g off, a' = some ⟨g, off, none⟩ → (∃ o, a = some ⟨g, o, none⟩) ∨ W.heap.size ≤ g) → Only (atL a) W w' → wpList Try.prog ops Q rest (A.put o.dst (.slice a' (n + 1) cap')) w') : wpList Try.prog ops Q (o :: rest) A W :=
  wpList_plain hgd fun _ hK => wp_append1H s x ho hs hx L hd hn fun a' cap' w' h1 h2 h3 => hK _ _ (h a' cap' w' h1 h2 h3)
theorem zeros1_H : (Builtin.zeroCells (HR.val HR.z).cells 1).toList = csH [HR.z] := by kernel_rfl
theorem wpList_clear1H (hgd : o.guard = none) (x : Operand) (ho : o.op = .call { callee := .builtin .clear, args := #[x], argTypes := #[25] }) {g off n cap c : Nat} {ds : List HR} (k : Nat) (L : LstH W (some ⟨g, off, none⟩) n cap ds) (hk : k + 1 = n)
    (hx : A.eval x = .slice (some ⟨g, off + k * 6, none⟩) 1 c)
    (h : ∀ w', LstH w' (some ⟨g, off, none⟩) n cap (ds.take k ++ [HR.z]) → Only (at1 g) W w' → wpList Try.prog ops Q rest (A.put o.dst (.tuple #[])) w') : wpList Try.prog ops Q (o :: rest) A W := by
  obtain ⟨cur', hst, L'⟩ := L.over k [HR.z] (by simp; omega)
  rw [List.drop_of_length_le (by rw [L.size]; simp; omega), List.append_nil] at L'
  have hrun : (Builtin.clear_ #[25] o.type #[.slice (some ⟨g, off + k * 6, none⟩) 1 c]).run Try.prog W = .ok (.tuple #[]) (W.setRow g cur') := by
    have hz := zero24
    have hzs := zeros1_H
    obtain ⟨zv, hzv⟩ : ∃ z, HR.val HR.z = z := ⟨_, rfl⟩
    rw [hzv] at hzs
    simp only [hzv] at hz
    simp [Builtin.clear_, run_underlying Try.underlying25, hz, hzs, hst]
  refine wpList_plain hgd fun K hK => ?_
  unfold Oper.wp
  simp [execOp, ho, resolve, invoke, builtin, hx, hrun, Result.andThen]
  exact hK _ _ (h _ L' (Only.setRow (C := at1 g) (Only.refl _ _) (fun _ => rfl) _))
/-- append(s[:i], s[j:]...) in place. -/
theorem wp_append_overH (x y : Operand) (ho : o.op = .call { callee := .builtin .append, args := #[x, y], argTypes := #[25, 25] }) {g off n cap c : Nat} {ds : List HR} (i j m q : Nat) (hq : i + m = q)
    (L : LstH W (some ⟨g, off, none⟩) n cap ds) (hij : i ≤ j) (hj : j + m = n)
    (hx : A.eval x = .slice (some ⟨g, off, none⟩) i cap) (ad : Option Addr) (hy : A.eval y = .slice ad m c) (had : ad = some ⟨g, off + j * 6, none⟩ ∨ (m = 0 ∧ ad = some ⟨g, off, none⟩))
    (h : ∀ w', LstH w' (some ⟨g, off, none⟩) n cap (ds.take i ++ ds.drop j ++ ds.drop (i + m)) → Only (at1 g) W w' → K (A.put o.dst (.slice (some ⟨g, off, none⟩) q cap)) w') : o.wp Try.prog A W K Q := by
  subst hq
  obtain ⟨i0, hi, hz0, hz1, hz2⟩ := info_parts info24
  have hsz := L.size
  have hle := L.le
  have hdl : (ds.drop j).length = m := by rw [List.length_drop, hsz]; omega
  obtain ⟨cur', hst, L'⟩ := L.over i (ds.drop j) (by rw [hdl]; omega)
  rw [hdl] at L'
  have hrg := L.range j (by omega)
  obtain ⟨ag, ao, rfl, hnews⟩ : ∃ ag ao, ad = some ⟨ag, ao, none⟩ ∧ ∀ q u, (csH (ds.drop j))[q]? = some u → W.cell? ((⟨ag, ao, none⟩ : Addr).add q) = some u := by
    rcases had with rfl | ⟨h0, rfl⟩
    · exact ⟨_, _, rfl, fun q u hq => by rw [add_plain]; exact hrg q u hq⟩
    · refine ⟨_, _, rfl, fun q u hq => ?_⟩
      have e : ds.drop j = [] := List.eq_nil_of_length_eq_zero (by omega)
      rw [e] at hq
      cases hq
  have hfc := run_firstCells_some (P := Try.prog) W i0.size m ⟨ag, ao, none⟩ m c (csH (ds.drop j)) (by rw [hz1, csH_len, hdl, Nat.mul_comm]) hnews
  have hr : i + m ≤ cap := by omega
  have hrun : (Builtin.append_ #[25, 25] o.type #[.slice (some ⟨g, off, none⟩) i cap, .slice (some ⟨ag, ao, none⟩) m c]).run Try.prog W = .ok (.slice (some ⟨g, off, none⟩) (i + m) cap) (W.setRow g cur') := by
    rw [hz1] at hfc
    simp [Builtin.append_, run_underlying Try.underlying25, sizeOf, typeInfo, hi, hz1, Builtin.lenOf, hr, hfc, Addr.add_lit, hst]
  unfold Oper.wp
  simp [execOp, ho, resolve, invoke, builtin, hx, hy, hrun, Result.andThen]
  exact h _ L' (Only.setRow (C := at1 g) (Only.refl _ _) (fun _ => rfl) _)
theorem zerosl_H (m : Nat) : (Builtin.zeroCells (HR.val HR.z).cells m).toList = csH (List.replicate m HR.z) := by
  have h4 : (HR.val HR.z).cells.size = 6 := rfl
  have hl := csH_len (List.replicate m HR.z)
  rw [List.length_replicate] at hl
  unfold Builtin.zeroCells
  rw [h4]
  apply List.ext_getElem?
  intro j
  by_cases hj : j < 6 * m
  · have e : j = 6 * (j / 6) + j % 6 := by omega
    have h := csH_get (List.replicate m HR.z) (j / 6) (j % 6) HR.z (by rw [List.getElem?_replicate, if_pos (by omega)]) (by omega)
    rw [← e] at h
    rw [h]
    have hm : j % 6 < 6 := by omega
    simp [Array.getElem?_range, show j < m * 6 by omega]
    generalize j % 6 = r at hm
    match r, hm with
    | 0, _ => rfl
    | 1, _ => rfl
    | 2, _ => rfl
    | 3, _ => rfl
    | 4, _ => rfl
    | 5, _ => rfl
  · rw [List.getElem?_eq_none (by simp; omega), List.getElem?_eq_none (by omega)]
/-- append(s[:i], make(S, k)...) where there is no room. -/
theorem wp_zerosH (s x : Operand) (ho : o.op = .call { callee := .builtin .append, args := #[s, x], argTypes := #[25, 3] }) {g off n cap : Nat} {ds : List HR} (i k : Nat) (L : LstH W (some ⟨g, off, none⟩) n cap ds) (hi : i ≤ n) (h0 : 0 < k) (hg : cap < i + k) (hk : i + k ≤ 65536)
    (hs : A.eval s = .slice (some ⟨g, off, none⟩) i cap) (hx : A.eval x = .int .i64 (k : Int))
    (h : ∀ cap' w', i + k ≤ cap' → LstH w' (some ⟨W.heap.size, 0, none⟩) (i + k) cap' (ds.take i ++ List.replicate k HR.z) → Below W.heap.size W w' → K (A.put o.dst (.slice (some ⟨W.heap.size, 0, none⟩) (i + k) cap')) w') : o.wp Try.prog A W K Q := by
  obtain ⟨i0, hi0, hz0, hz1, hz2⟩ := info_parts info24
  have L1 := L.short i hi
  have hsz := L1.size
  have hrg := L1.range 0 (Nat.zero_le _)
  rw [Nat.zero_mul, Nat.add_zero, List.drop_zero] at hrg
  have hl : (csH (ds.take i)).length = i * 6 := by rw [csH_len, hsz]; omega
  have hold : (Builtin.firstCells i0.size i (.slice (some ⟨g, off, none⟩) i cap)).run Try.prog W.drew = .ok (csH (ds.take i)).toArray W.drew := run_firstCells_some W.drew i0.size i ⟨g, off, none⟩ i cap (csH (ds.take i)) (by rw [hz1]; exact hl) (fun j u hj => by rw [add_plain]; exact hrg j u hj)
  have hrun := Lib.run_append_grow_zeros (P := Try.prog) W 25 3 o.type 24 i0 _ .i64 .i64 Try.underlying25 Try.underlying3 hi0 hz0 (some ⟨g, off, none⟩) i cap (csH (ds.take i)) hold k h0 (by rw [hz1]; omega) hg (by omega) (by rw [hz2]; omega) (by rw [hz2]; exact growslice_fits hg (by omega))
  have hge := grownCap_ge W (i + k) cap 24
  have hcm := grownCap_le_maxLen W (i + k) cap 24 (by unfold maxLen; omega)
  unfold maxLen at hcm
  unfold Oper.wp
  simp [execOp, ho, resolve, invoke, builtin, hs, hx, hrun, Result.andThen]
  refine h _ _ hge ⟨by rw [List.length_append, hsz, List.length_replicate], hge, by omega, .inr ⟨W.heap.size, 0, _, rfl, heap_alloc_new W.drew _, ?_, ?_⟩⟩ ⟨rfl, rfl, rfl, by simp, fun q hq => heap_old (w := W.drew) hq rfl⟩
  · rw [Array.size_append, Array.size_append, size_zeroCells, size_zeroCells, List.size_toArray, hl, show (HR.val HR.z).cells.size = 6 from rfl]
    omega
  · simp only [List.drop_zero, Array.toList_append, zerosl_H, csH_append, List.append_assoc]
    rw [← List.append_assoc]
    refine List.take_left' ?_
    rw [List.length_append, hl, csH_len, List.length_replicate]
    omega
theorem wpList_zerosH (hgd : o.guard = none) (s x : Operand) (ho : o.op = .call { callee := .builtin .append, args := #[s, x], argTypes := #[25, 3] }) {g off n cap : Nat} {ds : List HR} (i k : Nat) (L : LstH W (some ⟨g, off, none⟩) n cap ds) (hi : i ≤ n) (h0 : 0 < k) (hg : cap < i + k) (hk : i + k ≤ 65536)
    (hs : A.eval s = .slice (some ⟨g, off, none⟩) i cap) (hx : A.eval x = .int .i64 (k : Int))
    (h : ∀ cap' w', i + k ≤ cap' → LstH w' (some ⟨W.heap.size, 0, none⟩) (i + k) cap' (ds.take i ++ List.replicate k HR.z) → Below W.heap.size W w' → wpList Try.prog ops Q rest (A.put o.dst (.slice (some ⟨W.heap.size, 0, none⟩) (i + k) cap')) w') : wpList Try.prog ops Q (o :: rest) A W :=
  wpList_plain hgd fun _ hK => wp_zerosH s x ho i k L hi h0 hg hk hs hx fun cap' w' h1 h2 h3 => hK _ _ (h cap' w' h1 h2 h3)
end
end Go.Proofs.Ytacefkchhcpgaaa
