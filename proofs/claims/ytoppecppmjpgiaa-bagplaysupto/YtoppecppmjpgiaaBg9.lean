/-
  Package bag: clear, slices.DeleteFunc.
-/
import Derived.Test.YtoppecppmjpgiaaBg8
namespace Go.Proofs.Ytoppecppmjpgiaa
open Go.ChangeShapes Go.WideShapes Go.ChangeAt Go.RowKit Go.Maps
set_option linter.unusedVariables false
set_option linter.unusedSimpArgs false

theorem zero33 (w : World) : (zeroValue 33).run Try.prog w = .ok (dgv DG.z) w := by kernel_rfl
theorem zeros33 (m : Nat) : (Builtin.zeroCells (dgv DG.z).cells m).toList = dcs (List.replicate m DG.z) := by
  have h4 : (dgv DG.z).cells.size = 4 := rfl
  have hl := dcs_len (List.replicate m DG.z)
  rw [List.length_replicate] at hl
  unfold Builtin.zeroCells
  rw [h4]
  apply List.ext_getElem?
  intro j
  by_cases hj : j < 4 * m
  · have e : j = 4 * (j / 4) + j % 4 := by omega
    have h := dcs_get (List.replicate m DG.z) (j / 4) (j % 4) DG.z (by rw [List.getElem?_replicate, if_pos (by omega)]) (by omega)
    rw [← e] at h
    rw [h]
    have hm : j % 4 < 4 := by omega
    simp [Array.getElem?_range, show j < m * 4 by omega]
    generalize j % 4 = r at hm
    match r, hm with
    | 0, _ => rfl
    | 1, _ => rfl
    | 2, _ => rfl
    | 3, _ => rfl
  · rw [List.getElem?_eq_none (by simp; omega), List.getElem?_eq_none (by omega)]
theorem wpList_clear33 {ops : Array Oper} {rest : List Oper} {o : Oper} {A : Act} {W : World} {Q : Exit → Go.Act → World → Prop} (hgd : o.guard = none) (x : Operand) (ho : o.op = .call { callee := .builtin .clear, args := #[x], argTypes := #[22] }) {g off n cap c : Nat} {ds : List DG} (k m : Nat) (L : Lst W (some ⟨g, off, none⟩) n cap ds) (hk : k + m = n) (hm : 0 < m)
    (hx : A.eval x = .slice (some ⟨g, off + k * 4, none⟩) m c)
    (h : ∀ w', Lst w' (some ⟨g, off, none⟩) n cap (ds.take k ++ List.replicate m DG.z) → Only (at1 g) W w' → wpList Try.prog ops Q rest (A.put o.dst (.tuple #[])) w') : wpList Try.prog ops Q (o :: rest) A W := by
  obtain ⟨cur', hst, L'⟩ := L.over k (List.replicate m DG.z) (by simp; omega)
  rw [List.drop_of_length_le (by rw [L.size, List.length_replicate]; omega), List.append_nil] at L'
  have hrun : (Builtin.clear_ #[22] o.type #[.slice (some ⟨g, off + k * 4, none⟩) m c]).run Try.prog W = .ok (.tuple #[]) (W.setRow g cur') := by
    obtain ⟨q, rfl⟩ : ∃ q, m = q + 1 := ⟨m - 1, by omega⟩
    have hz := zero33
    have hzs := zeros33 (q + 1)
    obtain ⟨zv, hzv⟩ : ∃ z, dgv DG.z = z := ⟨_, rfl⟩
    rw [hzv] at hzs
    simp only [hzv] at hz
    simp [Builtin.clear_, run_underlying Try.underlying22, hz, hzs, hst]
  refine wpList_plain hgd fun K hK => ?_
  unfold Oper.wp
  simp [execOp, ho, resolve, invoke, builtin, hx, hrun, Result.andThen]
  exact hK _ _ (h _ L' (Only.setRow (C := at1 g) (Only.refl _ _) (fun _ => rfl) _))
theorem wpList_load33x {ops : Array Oper} {rest : List Oper} {o : Oper} {a : Act} {W : World} {Q : Exit → Act → World → Prop} (hgd : o.guard = none) (x : Operand) (ho : o.op = .load 33 x) (g off : Nat) (num src dst : Int) (body : ByteArray) (hx : a.eval x = .pointer (some ⟨g, off, none⟩)) (hc : W.rangeAt g off (DG.cells ⟨num, src, dst, body⟩))
    (h : wpList Try.prog ops Q rest (a.put o.dst (.agg #[.int .i64 num, .int .i64 src, .int .i64 dst, .string body])) W) : wpList Try.prog ops Q (o :: rest) a W :=
  wpList_load33 hgd x ho g off ⟨num, src, dst, body⟩ hx hc h
theorem range_of_row {W : World} {g : Nat} {d : DG} (h : W.heap[g]? = some (.cells d.cells.toArray 33 (0, 0))) : W.rangeAt g 0 d.cells := fun j v hv => by
  rw [Nat.zero_add]
  exact row_cell h j v (by simpa using hv)
/-- How far DeleteFunc has come: i are read, k are kept. -/
structure Del (p : DG → Bool) (w : World) (g off n cap : Nat) (ds : List DG) (i k : Nat) (W : World) : Prop where
  lst : ∃ es, Lst W (some ⟨g, off, none⟩) n cap es ∧ es.take k = (ds.take i).filter (fun d => !p d) ∧ es.drop i = ds.drop i
  only : Only (at1 g) w W
theorem Del.skip {p : DG → Bool} {w : World} {g off n cap : Nat} {ds : List DG} {i k : Nat} {W W' : World} (h : Del p w g off n cap ds i k W) {d : DG} (hd : ds[i]? = some d) (hp : p d = true) (b : Below W.heap.size W W') : Del p w g off n cap ds (i + 1) k W' := by
  obtain ⟨es, L, e1, e2⟩ := h.lst
  refine ⟨⟨es, L.of_block fun g' o e => b.block g' (by cases e; exact L.lt), ?_, ?_⟩, h.only.trans (Only.of_below b)⟩
  · rw [List.take_add_one, hd, List.filter_append, e1]; simp [hp]
  · rw [← List.drop_drop, e2, List.drop_drop]
theorem Del.below {p : DG → Bool} {w : World} {g off n cap : Nat} {ds : List DG} {i k : Nat} {W W' : World} (h : Del p w g off n cap ds i k W) (b : Below W.heap.size W W') : Del p w g off n cap ds i k W' := by
  obtain ⟨es, L, e1, e2⟩ := h.lst
  exact ⟨⟨es, L.of_block fun g' o e => b.block g' (by cases e; exact L.lt), e1, e2⟩, h.only.trans (Only.of_below b)⟩
theorem Lst.short {W : World} {a : Option Addr} {n cap : Nat} {ds : List DG} (L : Lst W a n cap ds) (k : Nat) (hk : k ≤ n) : Lst W a k cap (ds.take k) := by
  have hs := L.size
  refine ⟨by rw [List.length_take]; omega, Nat.le_trans hk L.le, L.max, L.mem.imp id ?_⟩
  rintro ⟨g, off, cur, e, hh, hc, ht⟩
  refine ⟨g, off, cur, e, hh, hc, ?_⟩
  rw [dcs_take, ← ht, List.take_take, Nat.min_eq_left (by omega)]
theorem first_at {p : DG → Bool} : ∀ {ds : List DG}, (∃ d ∈ ds, p d = true) → ∃ (k : Nat) (d : DG), ds[k]? = some d ∧ p d = true ∧ ∀ e ∈ ds.take k, p e = false
  | [], h => by obtain ⟨d, hd, _⟩ := h; cases hd
  | c :: ds, h => by
    cases hc : p c with
    | true => exact ⟨0, c, rfl, hc, fun e he => by simp at he⟩
    | false =>
      obtain ⟨d, hd, hp⟩ := h
      have : ∃ d ∈ ds, p d = true := by
        rcases List.mem_cons.1 hd with rfl | hd
        · rw [hc] at hp; cases hp
        · exact ⟨d, hd, hp⟩
      obtain ⟨k, d', h1, h2, h3⟩ := first_at this
      refine ⟨k + 1, d', by simpa using h1, h2, fun e he => ?_⟩
      rw [List.take_succ_cons] at he
      rcases List.mem_cons.1 he with rfl | he
      · exact hc
      · exact h3 e he
theorem Del.start {p : DG → Bool} {w W : World} {g off n cap : Nat} {ds : List DG} {k : Nat} {d : DG} (L : Lst W (some ⟨g, off, none⟩) n cap ds) (h1 : ds[k]? = some d) (h2 : p d = true) (h3 : ∀ e ∈ ds.take k, p e = false) (o : Only (at1 g) w W) : Del p w g off n cap ds (k + 1) k W := by
  refine ⟨⟨ds, L, ?_, rfl⟩, o⟩
  rw [List.take_add_one, h1, List.filter_append, List.filter_eq_self.2 (fun e he => by rw [h3 e he]; rfl)]
  simp [h2]
theorem Del.at {p : DG → Bool} {w : World} {g off n cap : Nat} {ds : List DG} {i k : Nat} {W : World} (h : Del p w g off n cap ds i k W) (hi : i < n) : ∃ d, ds[i]? = some d ∧ W.rangeAt g (off + i * 4) d.cells := by
  obtain ⟨es, L, e1, e2⟩ := h.lst
  obtain ⟨g', off', e, hd, hr⟩ := L.at i hi
  cases e
  refine ⟨_, ?_, hr⟩
  rw [← hd]
  have := congrArg (·[0]?) e2
  simpa using this.symm
theorem Del.put {p : DG → Bool} {w : World} {g off n cap : Nat} {ds : List DG} {i k : Nat} {W : World} (h : Del p w g off n cap ds i k W) {d : DG} (hki : k ≤ i) (hi : i < n) (hd : ds[i]? = some d) (hp : p d = false) : ∃ es, Lst W (some ⟨g, off, none⟩) n cap es ∧ ∀ W', Lst W' (some ⟨g, off, none⟩) n cap (es.set k d) → Only (at1 g) W W' → Del p w g off n cap ds (i + 1) (k + 1) W' := by
  obtain ⟨es, L, e1, e2⟩ := h.lst
  refine ⟨es, L, fun W' L' o => ⟨⟨_, L', ?_, ?_⟩, h.only.trans o⟩⟩
  · have e3 : (es.set k d).take k = es.take k := by rw [List.take_set, List.set_eq_of_length_le (by rw [List.length_take]; omega)]
    rw [List.take_add_one, e3, e1, List.getElem?_set_self (by rw [L.size]; omega), List.take_add_one, hd, List.filter_append]
    simp [hp]
  · rw [List.drop_set_of_lt (by omega), ← List.drop_drop, e2, List.drop_drop]
set_option maxHeartbeats 4000000 in
theorem delete_way (a : Option Addr) (n cap : Nat) (ds : List DG) (l : Nat) (x y : Int) (w : World) (L : Lst w a n cap ds) (H : w.heap[l]? = some (.cells #[.int .i64 x, .int .i64 y] 65 (0, 0))) : Calls Try.prog 57 #[.slice a n cap, .func (.func 42) #[] #[.pointer (some ⟨l, 0, none⟩)]] w fun e w' => ∃ m, e = .returned (.slice a m cap) ∧ Lst w' a m cap (ds.filter (fun d => !onWay x y d)) ∧ Only (atL a) w w' := by
  have hmx : n ≤ 9223372036854775807 := Nat.le_trans L.le L.max
  have KI := index_way a n cap ds l x y w L H
  by_cases hany : ∃ d ∈ ds, onWay x y d = true
  · obtain ⟨k0, d0, h1, h2, h3⟩ := first_at hany
    clear hany
    rw [idx_some h3 h1 h2] at KI
    have hk0 : k0 < n := by rw [← L.size]; exact (List.getElem?_eq_some_iff.1 h1).1
    have hk1 : ¬ (k0 : Int) = -1 := by omega
    obtain ⟨g, off, rfl, _, _⟩ := L.at k0 hk0
    have hcn := L.le
    have hgl : l ≠ g := Ne.symm (L.ne_cells H (by decide))
    go_enter Try.func57, Try.ntmps57
    go_wp2_with (go_at_call 62; refine KI.mono ?_; rintro e w1 ⟨rfl, b1⟩; clear KI)
    have D0 : Del (onWay x y) w g off n cap ds (k0 + 1) k0 w1 := Del.start (L.of_block fun g' o e => b1.block g' (by cases e; exact L.lt)) h1 h2 h3 (Only.of_below b1)
    clear h1 h2 h3 b1
    go_loopg [5, 6] (n - (k0 + 1)) (fun gk v5 v6 wr => ∃ i k : Nat, v5 = .int .i64 (k : Int) ∧ v6 = .int .i64 (i : Int) ∧ i + gk = n ∧ k < i ∧ Hid (Del (onWay x y) w g off n cap ds i k wr))
    case atStart => exact ⟨k0 + 1, k0, rfl, by go_num, by omega, by omega, ⟨D0⟩⟩
    case round =>
      obtain ⟨i, k, rfl, rfl, hg, hki, HD⟩ := hrel
      by_cases hi : i < n
      · have hiI : (i : Int) < (n : Int) := by omega
        have hkI : (k : Int) < (n : Int) := by omega
        obtain ⟨d, hd, hr⟩ := HD.out.at hi
        have HDI : Hid (ds[i]? = some d) := ⟨hd⟩
        clear hd
        obtain ⟨num, src, dst, body⟩ := d
        have Hr := (HD.out.only.block l (row_lt H) hgl).trans H
        have bA : Below wr.heap.size wr (wr.alloc (.cells #[.int .i64 num, .int .i64 src, .int .i64 dst, .string body] 33)) := (Below.refl _ _).alloc (Nat.le_refl _) _
        have X0 : (wr.alloc (.cells #[.int .i64 num, .int .i64 src, .int .i64 dst, .string body] 33)).heap[wr.heap.size]? = some (.cells #[.int .i64 num, .int .i64 src, .int .i64 dst, .string body] 33 (0, 0)) := World.alloc_heap_new _ _
        have K := way_any ⟨num, src, dst, body⟩ l x y _ ((bA.block l (row_lt Hr)).trans Hr)
        obtain ⟨r, hrr⟩ : ∃ r, (onWay x y) ⟨num, src, dst, body⟩ = r := ⟨_, rfl⟩
        rw [hrr] at K
        cases r with
        | true =>
          go_wp2_with (first
            | ((with_reducible show wpList _ _ _ (Oper.mk _ (Op.load 33 _) _ _ _ _ :: _) _ _); refine wpList_load33x rfl _ rfl g (off + i * 4) num src dst body rfl hr ?_)
            | (go_at_call 42; refine K.mono ?_; rintro e w2 ⟨rfl, b2⟩; clear K))
          go_roundg (gk - 1)
          case measure => omega
          case rel => exact ⟨i + 1, k, rfl, by go_num, by omega, by omega, ⟨HD.out.skip HDI.out hrr (bA.trans (b2.mono bA.size))⟩⟩
        | false =>
          go_wp2_with (first
            | ((with_reducible show wpList _ _ _ (Oper.mk _ (Op.load 33 _) _ _ _ _ :: _) _ _); refine wpList_load33x rfl _ rfl g (off + i * 4) num src dst body rfl hr ?_)
            | ((with_reducible show wpList _ _ _ (Oper.mk _ (Op.load 33 _) _ _ _ _ :: _) _ _); refine wpList_load33x rfl _ rfl wr.heap.size 0 num src dst body rfl X2 ?_)
            | ((with_reducible show wpList _ _ _ (Oper.mk _ (Op.store 33 _ _) _ _ _ _ :: _) _ _); refine wpList_store33 rfl _ _ rfl k ⟨num, src, dst, body⟩ L2 (by omega) rfl rfl ?_; intro w3 L3 o3)
            | (go_at_call 42; refine K.mono ?_; rintro e w2 ⟨rfl, b2⟩; clear K; have D2 := HD.out.below (bA.trans (b2.mono bA.size)); have X2 := range_of_row (d := ⟨num, src, dst, body⟩) ((b2.block _ (row_lt X0)).trans X0); obtain ⟨es, L2, hput⟩ := D2.put (Nat.le_of_lt hki) hi HDI.out hrr))
          go_roundg (gk - 1)
          case measure => omega
          case rel => exact ⟨i + 1, k + 1, by go_num, by go_num, by omega, by omega, ⟨hput _ L3 o3⟩⟩
      · obtain rfl : i = n := by omega
        obtain ⟨es, Ln, e1, e2⟩ := HD.out.lst
        have HE : Hid (es.take k = ds.filter (fun d => !onWay x y d)) := ⟨by rw [e1, List.take_of_length_le (by rw [L.size]; exact Nat.le_refl _)]⟩
        clear e1 e2
        have hkn : (k : Int) ≤ (i : Int) := by omega
        have hkc : k ≤ cap := by omega
        go_wp2_with (refine wpList_clear33 rfl _ rfl k (i - k) Ln (by omega) (by omega) rfl ?_; intro w3 L3 o3)
        have O3 : Only (atL (some ⟨g, off, none⟩)) w w3 := (HD.out.only.trans o3).mono fun q _ hq => ⟨off, by rw [show q = g from hq]⟩
        have Lk : Lst w3 (some ⟨g, off, none⟩) k cap (ds.filter (fun d => !onWay x y d)) := by
          have hk : es.take k ++ List.replicate (i - k) DG.z = ds.filter (fun d => !onWay x y d) ++ List.replicate (i - k) DG.z := by rw [HE.out]
          rw [hk] at L3
          have hlen : (ds.filter (fun d => !onWay x y d)).length = k := by have := congrArg List.length HE.out; rw [List.length_take, Ln.size] at this; omega
          have := L3.short k (by omega)
          rw [List.take_left' hlen] at this
          exact this
        go_ret
        exact ⟨k, rfl, Lk, O3⟩
  · have hno : ∀ d ∈ ds, onWay x y d = false := fun d hd => by
      cases hc : onWay x y d with
      | false => rfl
      | true => exact absurd ⟨d, hd, hc⟩ hany
    rw [idx_none hno] at KI
    have hf : ds.filter (fun d => !onWay x y d) = ds := List.filter_eq_self.2 fun d hd => by rw [hno d hd]; rfl
    rw [hf]
    go_enter Try.func57, Try.ntmps57
    go_wp2_with (go_at_call 62; refine KI.mono ?_; rintro e w1 ⟨rfl, b1⟩; clear KI)
    go_ret
    exact ⟨n, rfl, L.of_block fun g off e => b1.block g (by rw [e] at L; exact L.lt), Only.of_below b1⟩
set_option maxHeartbeats 4000000 in
theorem delete_onto (a : Option Addr) (n cap : Nat) (ds : List DG) (l : Nat) (x : Int) (w : World) (L : Lst w a n cap ds) (H : w.heap[l]? = some (.cells #[.int .i64 x] 3 (0, 0))) : Calls Try.prog 57 #[.slice a n cap, .func (.func 43) #[] #[.pointer (some ⟨l, 0, none⟩)]] w fun e w' => ∃ m, e = .returned (.slice a m cap) ∧ Lst w' a m cap (ds.filter (fun d => !onTo x d)) ∧ Only (atL a) w w' := by
  have hmx : n ≤ 9223372036854775807 := Nat.le_trans L.le L.max
  have KI := index_onto a n cap ds l x w L H
  by_cases hany : ∃ d ∈ ds, onTo x d = true
  · obtain ⟨k0, d0, h1, h2, h3⟩ := first_at hany
    clear hany
    rw [idx_some h3 h1 h2] at KI
    have hk0 : k0 < n := by rw [← L.size]; exact (List.getElem?_eq_some_iff.1 h1).1
    have hk1 : ¬ (k0 : Int) = -1 := by omega
    obtain ⟨g, off, rfl, _, _⟩ := L.at k0 hk0
    have hcn := L.le
    have hgl : l ≠ g := Ne.symm (L.ne_cells H (by decide))
    go_enter Try.func57, Try.ntmps57
    go_wp2_with (go_at_call 62; refine KI.mono ?_; rintro e w1 ⟨rfl, b1⟩; clear KI)
    have D0 : Del (onTo x) w g off n cap ds (k0 + 1) k0 w1 := Del.start (L.of_block fun g' o e => b1.block g' (by cases e; exact L.lt)) h1 h2 h3 (Only.of_below b1)
    clear h1 h2 h3 b1
    go_loopg [5, 6] (n - (k0 + 1)) (fun gk v5 v6 wr => ∃ i k : Nat, v5 = .int .i64 (k : Int) ∧ v6 = .int .i64 (i : Int) ∧ i + gk = n ∧ k < i ∧ Hid (Del (onTo x) w g off n cap ds i k wr))
    case atStart => exact ⟨k0 + 1, k0, rfl, by go_num, by omega, by omega, ⟨D0⟩⟩
    case round =>
      obtain ⟨i, k, rfl, rfl, hg, hki, HD⟩ := hrel
      by_cases hi : i < n
      · have hiI : (i : Int) < (n : Int) := by omega
        have hkI : (k : Int) < (n : Int) := by omega
        obtain ⟨d, hd, hr⟩ := HD.out.at hi
        have HDI : Hid (ds[i]? = some d) := ⟨hd⟩
        clear hd
        obtain ⟨num, src, dst, body⟩ := d
        have Hr := (HD.out.only.block l (row_lt H) hgl).trans H
        have bA : Below wr.heap.size wr (wr.alloc (.cells #[.int .i64 num, .int .i64 src, .int .i64 dst, .string body] 33)) := (Below.refl _ _).alloc (Nat.le_refl _) _
        have X0 : (wr.alloc (.cells #[.int .i64 num, .int .i64 src, .int .i64 dst, .string body] 33)).heap[wr.heap.size]? = some (.cells #[.int .i64 num, .int .i64 src, .int .i64 dst, .string body] 33 (0, 0)) := World.alloc_heap_new _ _
        have K := onto_any ⟨num, src, dst, body⟩ l x _ ((bA.block l (row_lt Hr)).trans Hr)
        obtain ⟨r, hrr⟩ : ∃ r, (onTo x) ⟨num, src, dst, body⟩ = r := ⟨_, rfl⟩
        rw [show (dst == x) = r from hrr] at K
        cases r with
        | true =>
          go_wp2_with (first
            | ((with_reducible show wpList _ _ _ (Oper.mk _ (Op.load 33 _) _ _ _ _ :: _) _ _); refine wpList_load33x rfl _ rfl g (off + i * 4) num src dst body rfl hr ?_)
            | (go_at_call 43; refine K.mono ?_; rintro e w2 ⟨rfl, b2⟩; clear K))
          go_roundg (gk - 1)
          case measure => omega
          case rel => exact ⟨i + 1, k, rfl, by go_num, by omega, by omega, ⟨HD.out.skip HDI.out hrr (bA.trans (b2.mono bA.size))⟩⟩
        | false =>
          go_wp2_with (first
            | ((with_reducible show wpList _ _ _ (Oper.mk _ (Op.load 33 _) _ _ _ _ :: _) _ _); refine wpList_load33x rfl _ rfl g (off + i * 4) num src dst body rfl hr ?_)
            | ((with_reducible show wpList _ _ _ (Oper.mk _ (Op.load 33 _) _ _ _ _ :: _) _ _); refine wpList_load33x rfl _ rfl wr.heap.size 0 num src dst body rfl X2 ?_)
            | ((with_reducible show wpList _ _ _ (Oper.mk _ (Op.store 33 _ _) _ _ _ _ :: _) _ _); refine wpList_store33 rfl _ _ rfl k ⟨num, src, dst, body⟩ L2 (by omega) rfl rfl ?_; intro w3 L3 o3)
            | (go_at_call 43; refine K.mono ?_; rintro e w2 ⟨rfl, b2⟩; clear K; have D2 := HD.out.below (bA.trans (b2.mono bA.size)); have X2 := range_of_row (d := ⟨num, src, dst, body⟩) ((b2.block _ (row_lt X0)).trans X0); obtain ⟨es, L2, hput⟩ := D2.put (Nat.le_of_lt hki) hi HDI.out hrr))
          go_roundg (gk - 1)
          case measure => omega
          case rel => exact ⟨i + 1, k + 1, by go_num, by go_num, by omega, by omega, ⟨hput _ L3 o3⟩⟩
      · obtain rfl : i = n := by omega
        obtain ⟨es, Ln, e1, e2⟩ := HD.out.lst
        have HE : Hid (es.take k = ds.filter (fun d => !onTo x d)) := ⟨by rw [e1, List.take_of_length_le (by rw [L.size]; exact Nat.le_refl _)]⟩
        clear e1 e2
        have hkn : (k : Int) ≤ (i : Int) := by omega
        have hkc : k ≤ cap := by omega
        go_wp2_with (refine wpList_clear33 rfl _ rfl k (i - k) Ln (by omega) (by omega) rfl ?_; intro w3 L3 o3)
        have O3 : Only (atL (some ⟨g, off, none⟩)) w w3 := (HD.out.only.trans o3).mono fun q _ hq => ⟨off, by rw [show q = g from hq]⟩
        have Lk : Lst w3 (some ⟨g, off, none⟩) k cap (ds.filter (fun d => !onTo x d)) := by
          have hk : es.take k ++ List.replicate (i - k) DG.z = ds.filter (fun d => !onTo x d) ++ List.replicate (i - k) DG.z := by rw [HE.out]
          rw [hk] at L3
          have hlen : (ds.filter (fun d => !onTo x d)).length = k := by have := congrArg List.length HE.out; rw [List.length_take, Ln.size] at this; omega
          have := L3.short k (by omega)
          rw [List.take_left' hlen] at this
          exact this
        go_ret
        exact ⟨k, rfl, Lk, O3⟩
  · have hno : ∀ d ∈ ds, onTo x d = false := fun d hd => by
      cases hc : onTo x d with
      | false => rfl
      | true => exact absurd ⟨d, hd, hc⟩ hany
    rw [idx_none hno] at KI
    have hf : ds.filter (fun d => !onTo x d) = ds := List.filter_eq_self.2 fun d hd => by rw [hno d hd]; rfl
    rw [hf]
    go_enter Try.func57, Try.ntmps57
    go_wp2_with (go_at_call 62; refine KI.mono ?_; rintro e w1 ⟨rfl, b1⟩; clear KI)
    go_ret
    exact ⟨n, rfl, L.of_block fun g off e => b1.block g (by rw [e] at L; exact L.lt), Only.of_below b1⟩
end Go.Proofs.Ytoppecppmjpgiaa
