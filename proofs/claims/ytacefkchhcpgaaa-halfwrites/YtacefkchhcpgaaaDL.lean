/-
  slices.Delete, slices.Insert and slices.Replace of one line.
-/
import Derived.Test.YtacefkchhcpgaaaC5
namespace Go.Proofs.Ytacefkchhcpgaaa
open Go.ChangeShapes Go.WideShapes Go.ChangeAt Go.RowKit
set_option linter.unusedVariables false
set_option linter.unusedSimpArgs false

theorem LstL.tail {W : World} {g off n cap : Nat} {ds : List LS} (L : LstL W (some ⟨g, off, none⟩) n cap ds) (k q : Nat) (es : List LS) (hk : k ≤ n) (hq : k + es.length = q) (hc : q ≤ cap) :
    ∃ cur', (storeCells ⟨g, off + k * 4, none⟩ (csL es)).run Try.prog W = .ok () (W.setRow g cur') ∧ LstL (W.setRow g cur') (some ⟨g, off, none⟩) q cap (ds.take k ++ es) := by
  rcases L.mem with ⟨e, _⟩ | ⟨g', off', cur, e, hh, hcs, htk⟩
  · cases e
  · cases e
    have hsz := L.size
    have hel := csL_len es
    have hst := run_storeCells_at Try.prog g (off + k * 4) 44 (csL es) 0 cur W hh (by rw [hcs, hel]; omega) (csL_one es)
    simp only [Nat.add_zero] at hst
    refine ⟨_, hst, ⟨by rw [List.length_append, List.length_take]; omega, hc, L.max, .inr ⟨g, off, _, rfl, setRow_heap _ _ _ _ _ _ hh, ?_, ?_⟩⟩⟩
    · simp only [List.size_toArray, List.length_append, List.length_take, List.length_drop, Array.length_toList, hel]
      omega
    · rw [csL_append, csL_take, ← htk, List.take_take, Nat.min_eq_left (by omega)]
      have e1 : off + k * 4 = off + 4 * k := by omega
      have e2 : 4 * q = 4 * k + (csL es).length := by rw [hel]; omega
      show ((_ : List Value).drop off).take (4 * q) = _
      rw [e1, e2]
      exact put_row _ _ _ _ _ (by rw [Array.length_toList, hcs]; have := L.le; omega)
section
variable {ops : Array Oper} {rest : List Oper} {o : Oper} {A : Act} {W : World} {Q : Exit → Act → World → Prop} {K : Act → World → Prop}
theorem wp_copyL (x y : Operand) (ho : o.op = .call { callee := .builtin .copy, args := #[x, y], argTypes := #[22, 22] }) {g off k dl dc sl sc n' cap : Nat} {ad : Addr} {es ds' : List LS}
    (H : ∃ cur', (storeCells ⟨g, off + k * 4, none⟩ (csL es)).run Try.prog W = .ok () (W.setRow g cur') ∧ LstL (W.setRow g cur') (some ⟨g, off, none⟩) n' cap ds') (hl : es.length = Nat.min sl dl)
    (hsrc : ∀ j u, (csL es)[j]? = some u → W.cell? (ad.add j) = some u) (hx : A.eval x = .slice (some ⟨g, off + k * 4, none⟩) dl dc) (hy : A.eval y = .slice (some ad) sl sc)
    (h : ∀ w', LstL w' (some ⟨g, off, none⟩) n' cap ds' → Only (at1 g) W w' → K (A.put o.dst (goInt (Nat.min sl dl))) w') : o.wp Try.prog A W K Q := by
  obtain ⟨cur', hst, L'⟩ := H
  obtain ⟨i0, hi, hz0, hz1, hz2⟩ := info_parts info44
  have hlc := run_loadCells_list (P := Try.prog) W ad (csL es) hsrc
  have hn : (csL es).length = Nat.min sl dl * 4 := by rw [csL_len, hl]; omega
  have hrun : (Builtin.copy_ #[22, 22] o.type #[.slice (some ⟨g, off + k * 4, none⟩) dl dc, .slice (some ad) sl sc]).run Try.prog W = .ok (goInt (Nat.min sl dl)) (W.setRow g cur') := by
    simp [Builtin.copy_, run_underlying Try.underlying22, Builtin.lenOf, Builtin.firstCells, sizeOf, typeInfo, hi, hz1, ← hn, hlc, hst]
  unfold Oper.wp
  simp [execOp, ho, resolve, invoke, builtin, hx, hy, hrun, Result.andThen]
  exact h _ L' (Only.setRow (C := at1 g) (Only.refl _ _) (fun _ => rfl) _)
theorem wpList_copyL (hgd : o.guard = none) (x y : Operand) (ho : o.op = .call { callee := .builtin .copy, args := #[x, y], argTypes := #[22, 22] }) {g off k dl dc sl sc n' cap : Nat} {ad : Addr} {es ds' : List LS}
    (H : ∃ cur', (storeCells ⟨g, off + k * 4, none⟩ (csL es)).run Try.prog W = .ok () (W.setRow g cur') ∧ LstL (W.setRow g cur') (some ⟨g, off, none⟩) n' cap ds') (hl : es.length = Nat.min sl dl)
    (hsrc : ∀ j u, (csL es)[j]? = some u → W.cell? (ad.add j) = some u) (hx : A.eval x = .slice (some ⟨g, off + k * 4, none⟩) dl dc) (hy : A.eval y = .slice (some ad) sl sc)
    (h : ∀ w', LstL w' (some ⟨g, off, none⟩) n' cap ds' → Only (at1 g) W w' → wpList Try.prog ops Q rest (A.put o.dst (goInt (Nat.min sl dl))) w') : wpList Try.prog ops Q (o :: rest) A W :=
  wpList_plain hgd fun _ hK => wp_copyL x y ho H hl hsrc hx hy fun w' h1 h2 => hK _ _ (h w' h1 h2)
theorem wp_append1L (s x : Operand) (ho : o.op = .call { callee := .builtin .append, args := #[s, x], argTypes := #[22, 22] }) {a : Option Addr} {n cap b : Nat} {ds : List LS} {d : LS}
    (hs : A.eval s = .slice a n cap) (hx : A.eval x = .slice (some ⟨b, 0, none⟩) 1 1) (L : LstL W a n cap ds) (hd : W.rangeAt b 0 d.cells) (hn : n ≤ 65536)
    (h : ∀ a' cap' w', LstL w' a' (n + 1) cap' (ds ++ [d]) → (∀ g off, a' = some ⟨g, off, none⟩ → (∃ o, a = some ⟨g, o, none⟩) ∨ W.heap.size ≤ g) → Only (atL a) W w' → K (A.put o.dst (.slice a' (n + 1) cap')) w') : o.wp Try.prog A W K Q := by
  obtain ⟨v', w', hrun, ⟨a', cap', rfl, L', hb⟩, hO⟩ := run_append_lstL o.type L hd hn
  unfold Oper.wp
  simp [execOp, ho, resolve, invoke, builtin, hs, hx, hrun, Result.andThen]
  exact h a' cap' w' L' hb hO
theorem wpList_append1L (hgd : o.guard = none) (s x : Operand) (ho : o.op = .call { callee := .builtin .append, args := #[s, x], argTypes := #[22, 22] }) {a : Option Addr} {n cap b : Nat} {ds : List LS} {d : LS}
    (hs : A.eval s = .slice a n cap) (hx : A.eval x = .slice (some ⟨b, 0, none⟩) 1 1) (L : LstL W a n cap ds) (hd : W.rangeAt b 0 d.cells) (hn : n ≤ 65536)
    (h : ∀ a' cap' w', LstL w' a' (n + 1) cap' (ds ++ [d]) → (∀ g off, a' = some ⟨g, off, none⟩ → (∃ o, a = some ⟨g, o, none⟩) ∨ W.heap.size ≤ g) → Only (atL a) W w' → wpList Try.prog ops Q rest (A.put o.dst (.slice a' (n + 1) cap')) w') : wpList Try.prog ops Q (o :: rest) A W :=
  wpList_plain hgd fun _ hK => wp_append1L s x ho hs hx L hd hn fun a' cap' w' h1 h2 h3 => hK _ _ (h a' cap' w' h1 h2 h3)
theorem zeros1_L : (Builtin.zeroCells (LS.val LS.z).cells 1).toList = csL [LS.z] := by kernel_rfl
theorem wpList_clear1L (hgd : o.guard = none) (x : Operand) (ho : o.op = .call { callee := .builtin .clear, args := #[x], argTypes := #[22] }) {g off n cap c : Nat} {ds : List LS} (k : Nat) (L : LstL W (some ⟨g, off, none⟩) n cap ds) (hk : k + 1 = n)
    (hx : A.eval x = .slice (some ⟨g, off + k * 4, none⟩) 1 c)
    (h : ∀ w', LstL w' (some ⟨g, off, none⟩) n cap (ds.take k ++ [LS.z]) → Only (at1 g) W w' → wpList Try.prog ops Q rest (A.put o.dst (.tuple #[])) w') : wpList Try.prog ops Q (o :: rest) A W := by
  obtain ⟨cur', hst, L'⟩ := L.over k [LS.z] (by simp; omega)
  rw [List.drop_of_length_le (by rw [L.size]; simp; omega), List.append_nil] at L'
  have hrun : (Builtin.clear_ #[22] o.type #[.slice (some ⟨g, off + k * 4, none⟩) 1 c]).run Try.prog W = .ok (.tuple #[]) (W.setRow g cur') := by
    have hz := zero44
    have hzs := zeros1_L
    obtain ⟨zv, hzv⟩ : ∃ z, LS.val LS.z = z := ⟨_, rfl⟩
    rw [hzv] at hzs
    simp only [hzv] at hz
    simp [Builtin.clear_, run_underlying Try.underlying22, hz, hzs, hst]
  refine wpList_plain hgd fun K hK => ?_
  unfold Oper.wp
  simp [execOp, ho, resolve, invoke, builtin, hx, hrun, Result.andThen]
  exact hK _ _ (h _ L' (Only.setRow (C := at1 g) (Only.refl _ _) (fun _ => rfl) _))
/-- append(s[:i], s[j:]...) in place. -/
theorem wp_append_overL (x y : Operand) (ho : o.op = .call { callee := .builtin .append, args := #[x, y], argTypes := #[22, 22] }) {g off n cap c : Nat} {ds : List LS} (i j m q : Nat) (hq : i + m = q)
    (L : LstL W (some ⟨g, off, none⟩) n cap ds) (hij : i ≤ j) (hj : j + m = n)
    (hx : A.eval x = .slice (some ⟨g, off, none⟩) i cap) (ad : Option Addr) (hy : A.eval y = .slice ad m c) (had : ad = some ⟨g, off + j * 4, none⟩ ∨ (m = 0 ∧ ad = some ⟨g, off, none⟩))
    (h : ∀ w', LstL w' (some ⟨g, off, none⟩) n cap (ds.take i ++ ds.drop j ++ ds.drop (i + m)) → Only (at1 g) W w' → K (A.put o.dst (.slice (some ⟨g, off, none⟩) q cap)) w') : o.wp Try.prog A W K Q := by
  subst hq
  obtain ⟨i0, hi, hz0, hz1, hz2⟩ := info_parts info44
  have hsz := L.size
  have hle := L.le
  have hdl : (ds.drop j).length = m := by rw [List.length_drop, hsz]; omega
  obtain ⟨cur', hst, L'⟩ := L.over i (ds.drop j) (by rw [hdl]; omega)
  rw [hdl] at L'
  have hrg := L.range j (by omega)
  obtain ⟨ag, ao, rfl, hnews⟩ : ∃ ag ao, ad = some ⟨ag, ao, none⟩ ∧ ∀ q u, (csL (ds.drop j))[q]? = some u → W.cell? ((⟨ag, ao, none⟩ : Addr).add q) = some u := by
    rcases had with rfl | ⟨h0, rfl⟩
    · exact ⟨_, _, rfl, fun q u hq => by rw [add_plain]; exact hrg q u hq⟩
    · refine ⟨_, _, rfl, fun q u hq => ?_⟩
      have e : ds.drop j = [] := List.eq_nil_of_length_eq_zero (by omega)
      rw [e] at hq
      cases hq
  have hfc := run_firstCells_some (P := Try.prog) W i0.size m ⟨ag, ao, none⟩ m c (csL (ds.drop j)) (by rw [hz1, csL_len, hdl, Nat.mul_comm]) hnews
  have hr : i + m ≤ cap := by omega
  have hrun : (Builtin.append_ #[22, 22] o.type #[.slice (some ⟨g, off, none⟩) i cap, .slice (some ⟨ag, ao, none⟩) m c]).run Try.prog W = .ok (.slice (some ⟨g, off, none⟩) (i + m) cap) (W.setRow g cur') := by
    rw [hz1] at hfc
    simp [Builtin.append_, run_underlying Try.underlying22, sizeOf, typeInfo, hi, hz1, Builtin.lenOf, hr, hfc, Addr.add_lit, hst]
  unfold Oper.wp
  simp [execOp, ho, resolve, invoke, builtin, hx, hy, hrun, Result.andThen]
  exact h _ L' (Only.setRow (C := at1 g) (Only.refl _ _) (fun _ => rfl) _)
theorem zerosl_L (m : Nat) : (Builtin.zeroCells (LS.val LS.z).cells m).toList = csL (List.replicate m LS.z) := by
  have h4 : (LS.val LS.z).cells.size = 4 := rfl
  have hl := csL_len (List.replicate m LS.z)
  rw [List.length_replicate] at hl
  unfold Builtin.zeroCells
  rw [h4]
  apply List.ext_getElem?
  intro j
  by_cases hj : j < 4 * m
  · have e : j = 4 * (j / 4) + j % 4 := by omega
    have h := csL_get (List.replicate m LS.z) (j / 4) (j % 4) LS.z (by rw [List.getElem?_replicate, if_pos (by omega)]) (by omega)
    rw [← e] at h
    rw [h]
    have hm : j % 4 < 4 := by omega
    simp [Array.getElem?_range, show j < m * 4 by omega]
    generalize j % 4 = r at hm
    match r, hm with
    | 0, _ => rfl
    | 1, _ => rfl
    | 2, _ => rfl
    | 3, _ => rfl
  · rw [List.getElem?_eq_none (by simp; omega), List.getElem?_eq_none (by omega)]
/-- append(s[:i], make(S, k)...) where there is no room. -/
theorem wp_zerosL (s x : Operand) (ho : o.op = .call { callee := .builtin .append, args := #[s, x], argTypes := #[22, 3] }) {g off n cap : Nat} {ds : List LS} (i k : Nat) (L : LstL W (some ⟨g, off, none⟩) n cap ds) (hi : i ≤ n) (h0 : 0 < k) (hg : cap < i + k) (hk : i + k ≤ 65536)
    (hs : A.eval s = .slice (some ⟨g, off, none⟩) i cap) (hx : A.eval x = .int .i64 (k : Int))
    (h : ∀ cap' w', i + k ≤ cap' → LstL w' (some ⟨W.heap.size, 0, none⟩) (i + k) cap' (ds.take i ++ List.replicate k LS.z) → Below W.heap.size W w' → K (A.put o.dst (.slice (some ⟨W.heap.size, 0, none⟩) (i + k) cap')) w') : o.wp Try.prog A W K Q := by
  obtain ⟨i0, hi0, hz0, hz1, hz2⟩ := info_parts info44
  have L1 := L.short i hi
  have hsz := L1.size
  have hrg := L1.range 0 (Nat.zero_le _)
  rw [Nat.zero_mul, Nat.add_zero, List.drop_zero] at hrg
  have hl : (csL (ds.take i)).length = i * 4 := by rw [csL_len, hsz]; omega
  have hold : (Builtin.firstCells i0.size i (.slice (some ⟨g, off, none⟩) i cap)).run Try.prog W.drew = .ok (csL (ds.take i)).toArray W.drew := run_firstCells_some W.drew i0.size i ⟨g, off, none⟩ i cap (csL (ds.take i)) (by rw [hz1]; exact hl) (fun j u hj => by rw [add_plain]; exact hrg j u hj)
  have hrun := Lib.run_append_grow_zeros (P := Try.prog) W 22 3 o.type 44 i0 _ .i64 .i64 Try.underlying22 Try.underlying3 hi0 hz0 (some ⟨g, off, none⟩) i cap (csL (ds.take i)) hold k h0 (by rw [hz1]; omega) hg (by omega) (by rw [hz2]; omega) (by rw [hz2]; exact growslice_fits hg (by omega))
  have hge := grownCap_ge W (i + k) cap 44
  have hcm := grownCap_le_maxLen W (i + k) cap 44 (by unfold maxLen; omega)
  unfold maxLen at hcm
  unfold Oper.wp
  simp [execOp, ho, resolve, invoke, builtin, hs, hx, hrun, Result.andThen]
  refine h _ _ hge ⟨by rw [List.length_append, hsz, List.length_replicate], hge, by omega, .inr ⟨W.heap.size, 0, _, rfl, heap_alloc_new W.drew _, ?_, ?_⟩⟩ ⟨rfl, rfl, rfl, by simp, fun q hq => heap_old (w := W.drew) hq rfl⟩
  · rw [Array.size_append, Array.size_append, size_zeroCells, size_zeroCells, List.size_toArray, hl, show (LS.val LS.z).cells.size = 4 from rfl]
    omega
  · simp only [List.drop_zero, Array.toList_append, zerosl_L, csL_append, List.append_assoc]
    rw [← List.append_assoc]
    refine List.take_left' ?_
    rw [List.length_append, hl, csL_len, List.length_replicate]
    omega
theorem wpList_zerosL (hgd : o.guard = none) (s x : Operand) (ho : o.op = .call { callee := .builtin .append, args := #[s, x], argTypes := #[22, 3] }) {g off n cap : Nat} {ds : List LS} (i k : Nat) (L : LstL W (some ⟨g, off, none⟩) n cap ds) (hi : i ≤ n) (h0 : 0 < k) (hg : cap < i + k) (hk : i + k ≤ 65536)
    (hs : A.eval s = .slice (some ⟨g, off, none⟩) i cap) (hx : A.eval x = .int .i64 (k : Int))
    (h : ∀ cap' w', i + k ≤ cap' → LstL w' (some ⟨W.heap.size, 0, none⟩) (i + k) cap' (ds.take i ++ List.replicate k LS.z) → Below W.heap.size W w' → wpList Try.prog ops Q rest (A.put o.dst (.slice (some ⟨W.heap.size, 0, none⟩) (i + k) cap')) w') : wpList Try.prog ops Q (o :: rest) A W :=
  wpList_plain hgd fun _ hK => wp_zerosL s x ho i k L hi h0 hg hk hs hx fun cap' w' h1 h2 h3 => hK _ _ (h cap' w' h1 h2 h3)
end
end Go.Proofs.Ytacefkchhcpgaaa
