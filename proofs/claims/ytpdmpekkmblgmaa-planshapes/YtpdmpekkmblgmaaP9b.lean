/-
  Package plan: a list of pairs sorted; what an iterator gives, sorted.
-/
import Derived.Test.YtpdmpekkmblgmaaP9
namespace Go.Proofs.Ytpdmpekkmblgmaa
open Go.ChangeShapes Go.WideShapes Go.ChangeAt Go.RowKit Go.Maps Go.Shelf Go.Lib
set_option linter.unusedVariables false
set_option linter.unusedSimpArgs false
attribute [local go_sem] Oper.semAt_some

theorem cmpI_lt (x y : Int) : cmpI x y < 0 ↔ x < y := by unfold cmpI; split <;> (try split) <;> omega
theorem cmpI_zero (x y : Int) : cmpI x y = 0 ↔ x = y := by unfold cmpI; split <;> (try split) <;> omega
/-- The order of pairs. -/
def ltL (p q : LK) : Bool := decide (ordL p q < 0)
theorem ltL_iff (p q : LK) : ltL p q = true ↔ p.1 < q.1 ∨ (p.1 = q.1 ∧ p.2 < q.2) := by
  unfold ltL ordL
  rw [decide_eq_true_eq]
  by_cases h : cmpI p.1 q.1 = 0
  · rw [if_pos h, cmpI_lt]
    have := (cmpI_zero _ _).1 h
    omega
  · rw [if_neg h, cmpI_lt]
    have : ¬ p.1 = q.1 := fun e => h ((cmpI_zero _ _).2 e)
    omega
theorem ltL_no (p q : LK) : ltL p q = false ↔ ¬ (p.1 < q.1 ∨ (p.1 = q.1 ∧ p.2 < q.2)) := by
  rw [← ltL_iff, Bool.not_eq_true]
theorem ltL_swo : Go.Sort.SWO (ltOf ordL) where
  irrefl x := (ltL_no x x).2 (by omega)
  trans x y z h1 h2 := (ltL_iff x z).2 (by have := (ltL_iff x y).1 h1; have := (ltL_iff y z).1 h2; omega)
  ntrans x y z h1 h2 := (ltL_no x z).2 (by have := (ltL_no x y).1 h1; have := (ltL_no y z).1 h2; omega)
theorem ltL_total (x y : LK) (h1 : ltOf ordL x y = false) (h2 : ltOf ordL y x = false) : x = y := by
  have := (ltL_no x y).1 h1
  have := (ltL_no y x).1 h2
  exact Prod.ext (by omega) (by omega)
/-- The pairs in their order. -/
def srt (l : List LK) : List LK := l.mergeSort fun x y => !ltL y x
theorem srt_perm (l : List LK) : (srt l).Perm l := List.mergeSort_perm l _
theorem srt_len (l : List LK) : (srt l).length = l.length := (srt_perm l).length_eq
theorem flat_csL (l : List LK) : (Go.Sort.flatK LK.cells 2 l.toArray).toList = csL l := by
  apply List.ext_getElem?
  intro t
  by_cases ht : t < 2 * l.length
  · have h1 : t / 2 < l.length := by omega
    have hd : l[t / 2]? = some (l.getD (t / 2) LK.z) := get_zL l (t / 2) h1
    have h2 := csL_get l (t / 2) (t % 2) _ hd (by omega)
    rw [show 2 * (t / 2) + t % 2 = t by omega] at h2
    rw [h2]
    have h3 := Go.Sort.get_flatK LK.cells 2 l.toArray t (by simp; omega)
    have hs : t < (Go.Sort.flatK LK.cells 2 l.toArray).size := by rw [Go.Sort.size_flatK]; simp; omega
    rw [Array.getElem?_toList, Array.getElem?_eq_getElem hs]
    rw [getElem!_pos (Go.Sort.flatK LK.cells 2 l.toArray) t hs] at h3
    rw [h3]
    have h4 : l.toArray[t / 2]! = l.getD (t / 2) LK.z := by
      rw [getElem!_pos l.toArray (t / 2) (by simpa using h1), List.getD_eq_getElem?_getD, List.getElem?_eq_getElem h1]
      simp
    rw [h4]
    have h5 : t % 2 < (LK.cells (l.getD (t / 2) LK.z)).length := by show _ < 2; omega
    rw [getElem!_pos (LK.cells (l.getD (t / 2) LK.z)) (t % 2) h5, List.getElem?_eq_getElem h5]
  · rw [List.getElem?_eq_none (by rw [Array.length_toList, Go.Sort.size_flatK]; simp; omega), List.getElem?_eq_none (by rw [csL_len]; omega)]
theorem holdsK_row {w : World} {g : Nat} {cur : Array Value} {l : List LK} (hb : w.heap[g]? = some (.cells cur 49 (0, 0))) (ht : cur.toList.take (l.length * 2) = csL l) : Go.Sort.HoldsK LK.cells 2 w g 0 l.toArray := by
  intro j hj
  have hj' : j < l.length * 2 := by rw [Go.Sort.size_flatK] at hj; simpa using hj
  refine ⟨?_, by simp [World.frozen?, hb]⟩
  have h1 : (cur.toList.take (l.length * 2))[j]? = (csL l)[j]? := by rw [ht]
  rw [List.getElem?_take_of_lt hj', ← flat_csL] at h1
  simp only [World.cell?, hb, Nat.zero_add]
  simp only [Option.isSome_none, Bool.false_eq_true, if_false]
  rw [← Array.getElem?_toList, h1, Array.getElem?_toList, Array.getElem?_eq_getElem hj, getElem!_pos (Go.Sort.flatK LK.cells 2 l.toArray) j hj]
  rfl
theorem sorted_row {w : World} {g cap n base : Nat} {os : Array Obj} {cur : Array Value} {l ts : List LK} (hl : ts.length = l.length) (hbase : base ≤ g) (hb : w.heap[g]? = some (.cells cur 49 (0, 0))) (h1 : l.length ≤ cap) (h2 : cap ≤ maxLen) (h3 : cur.size = cap * 2) :
    (sortWorldK LK.cells 2 w g 0 n ts.toArray os).ownsRow base 49 2 (.slice (some ⟨g, 0, none⟩) l.length cap) l.length (csL ts) ∧ w.grownBy (sortWorldK LK.cells 2 w g 0 n ts.toArray os) (some g) := by
  have hg : g < w.heap.size := row_lt hb
  have hh : (sortWorldK LK.cells 2 w g 0 n ts.toArray os).heap[g]? = some (.cells (Go.Sort.putCells id 0 (Go.Sort.flatK LK.cells 2 ts.toArray) cur) 49 (0, 0)) := by
    unfold sortWorldK Go.Sort.putRowK
    rw [Go.Sort.heap_grow_old _ _ (by simpa using hg)]
    simp [Go.Sort.putRow, Go.Sort.mapBlock, Go.Sort.ahead, Array.getElem?_modify, hb, Go.Sort.onCells]
  have hf : (Go.Sort.flatK LK.cells 2 ts.toArray).size = l.length * 2 := by rw [Go.Sort.size_flatK]; simp [hl]
  refine ⟨⟨by rw [csL_len, hl]; omega, .inr ⟨g, cap, _, rfl, hbase, hh, h1, h2, by simp [Go.Sort.putCells, h3], ?_⟩⟩, ⟨rfl, rfl, rfl, by simp [sortWorldK, Go.Sort.putRowK], fun k hk hne => ?_⟩⟩
  · rw [← flat_csL]
    apply List.ext_getElem?
    intro j
    by_cases hj : j < l.length * 2
    · have hc : j < cur.size := by rw [h3]; omega
      have hjf : j < (Go.Sort.flatK LK.cells 2 ts.toArray).size := by rw [hf]; exact hj
      rw [List.getElem?_take_of_lt hj, Array.getElem?_toList, Array.getElem?_toList, Array.getElem?_eq_getElem hjf]
      simp [Go.Sort.putCells, hc, hf, hj, getElem!_pos (Go.Sort.flatK LK.cells 2 ts.toArray) j hjf]
    · rw [List.getElem?_take_eq_none (by omega), List.getElem?_eq_none (by rw [Array.length_toList, hf]; omega)]
  · unfold sortWorldK Go.Sort.putRowK
    rw [Go.Sort.heap_grow_old _ _ (by simpa using hk)]
    have : g ≠ k := fun e => hne (by rw [e])
    simp [Go.Sort.putRow, Go.Sort.mapBlock, Go.Sort.ahead, Array.getElem?_modify, this]
theorem cmp_lays (blk off size : Nat) (w : World) : CmpLays Try.prog 31 #[] LK.cells 2 ordL blk off size w := fun m os dk _ x y => by
  have h := order_any x.1 x.2 y.1 y.2 (sortWorldK LK.cells 2 w blk off m dk os)
  refine h.mono ?_
  rintro e w' ⟨h1, h2⟩
  refine ⟨h1, 1, #[.cells #[.int .i64 x.1, .int .i64 x.2] 49, .cells #[.int .i64 y.1, .int .i64 y.2] 49, .cells #[.int .i64 (cmpI x.1 y.1), .int .i64 (cmpI x.2 y.2)] 3], ?_⟩
  rw [h2]
  generalize sortWorldK LK.cells 2 w blk off m dk os = S
  rw [Go.Sort.alloc_eq_grow, Go.Sort.alloc_eq_grow, Go.Sort.alloc_eq_grow, Go.Sort.grow_grow]
  show Go.Sort.grow (Go.Sort.grow (World.drewN S 1) _) _ = _
  rw [Go.Sort.grow_grow]
  rfl
/-- slices.SortFunc at a list of one's own. -/
theorem sortfunc_any (w : World) (base : Nat) (v : Value) (l : List LK) (R : w.ownsRow base 49 2 v l.length (csL l)) (hl : l.length ≤ 100000) :
    Calls Try.prog 52 #[v, .func (.func 31) #[] #[]] w fun e w' => e = .returned (.tuple #[]) ∧ w'.ownsRow base 49 2 v l.length (csL (srt l)) ∧ w.grownBy w' v.ownBlock := by
  rcases R.2 with ⟨rfl, h0⟩ | ⟨g, cap, cur, rfl, hbg, hb, hnc, hcm, hcs, htk⟩
  · have e : l = [] := List.eq_nil_of_length_eq_zero h0
    subst e
    refine (AnyF.slices_SortFunc_none Try.sortLk none 0 _ w).mono ?_
    rintro e w' ⟨rfl, rfl⟩
    exact ⟨rfl, by rw [show srt [] = [] by simp [srt]]; exact R, ⟨rfl, rfl, rfl, Nat.le_refl _, fun _ _ _ => rfl⟩⟩
  · have H := AnyQ.slices_SortFunc_total Try.sortLk 2 Try.isAgg49 Try.sizeOf49 LK.cells (fun _ => rfl) cells_oneL ordL ltL_swo 31 #[] g 0 cap l.toArray w (enters_of Try.func31 (by kernel_rfl) rfl) (cmp_lays g 0 l.toArray.size w) (holdsK_row hb htk) (row_lt hb) (by simp; omega) ltL_total
    rw [List.size_toArray] at H
    refine H.mono ?_
    rintro e w' ⟨rfl, n, os, rfl⟩
    have h := sorted_row (w := w) (n := n) (os := os) (base := base) (l := l) (ts := srt l) (srt_len l) hbg hb hnc hcm hcs
    exact ⟨rfl, h.1, h.2⟩
theorem collect_any (g : Nat) (lb : Array Value) (eg : ∀ args w, (callFunc g args).run Try.prog w = .ok (.enter g args) w) (xs : List LK) (Keep : World → Prop) (w : World) (hx : xs.length ≤ 100000)
    (hseq : ∀ W, Below w.heap.size w W → Gives Try.prog g lb encL xs W Keep) (hK : ∀ W, Below w.heap.size w W → Keep W) :
    Calls Try.prog 51 #[.func (.func g) #[] lb] w fun e w' => ∃ v, e = .returned v ∧ w'.ownsRow w.heap.size 49 2 v xs.length (csL xs) ∧ Below w.heap.size w w' := by
  have K := appendseq_any g lb eg xs Keep w hx hseq hK
  clear hseq hK eg
  go_enter Try.func51, Try.ntmps51
  go_wp2_with (go_at_call 68; refine K.mono ?_; clear K; rintro e w1 ⟨v, rfl, R, B⟩)
  go_ret
  exact ⟨_, rfl, R, B⟩
/-- slices.SortedFunc(seq, order). -/
theorem sortedfunc_any (g : Nat) (lb : Array Value) (eg : ∀ args w, (callFunc g args).run Try.prog w = .ok (.enter g args) w) (xs : List LK) (Keep : World → Prop) (w : World) (hx : xs.length ≤ 100000)
    (hseq : ∀ W, Below w.heap.size w W → Gives Try.prog g lb encL xs W Keep) (hK : ∀ W, Below w.heap.size w W → Keep W) :
    Calls Try.prog 30 #[.func (.func g) #[] lb, .func (.func 31) #[] #[]] w fun e w' => ∃ a cap, e = .returned (.slice a xs.length cap) ∧ RdL w' a xs.length cap (srt xs) ∧ Below w.heap.size w w' := by
  have K := collect_any g lb eg xs Keep w hx hseq hK
  have HX : Hid (xs.length ≤ 100000) := hx
  clear hseq hK eg hx
  go_enter Try.func30, Try.ntmps30
  go_wp2_with (first
    | (go_at_call 51; refine K.mono ?_; clear K; rintro e w1 ⟨v, rfl, R, B⟩; have KS := sortfunc_any w1 w.heap.size v xs R HX.out)
    | (go_at_call 52; refine KS.mono ?_; clear KS; rintro e w2 ⟨rfl, R2, G2⟩))
  go_ret
  obtain ⟨a, cap, rfl, L, hb⟩ := own_lstL R2 (srt_len xs)
  exact ⟨a, cap, rfl, L.rd (by have := HX.out; omega), B.grown G2 B.size (fun j e => (R.lt j e).1)⟩
end Go.Proofs.Ytpdmpekkmblgmaa
