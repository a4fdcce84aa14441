/-
  Package bag: the document's lose.
-/
import Derived.Test.YtoppecppmjpgiaaBhE
namespace Go.Proofs.Ytoppecppmjpgiaa
open Go.ChangeShapes Go.WideShapes Go.ChangeAt Go.RowKit Go.Maps
set_option linter.unusedVariables false
set_option linter.unusedSimpArgs false

/-- Whether a packet is lost. -/
def lostP (any both : Bool) (x y : Int) (d : DG) : Bool := ((any || d.src == x) && d.dst == y) || (both && d.src == y && d.dst == x)
def kept (p : DG → Bool) (ds : List DG) : List DG := ds.filter (fun d => !p d)
theorem kept_yes {p : DG → Bool} {ds : List DG} {i : Nat} {d : DG} (hd : ds[i]? = some d) (h : p d = false) : kept p (ds.take (i + 1)) = kept p (ds.take i) ++ [d] := by
  unfold kept
  rw [List.take_add_one, hd, List.filter_append]
  simp [h]
theorem kept_no {p : DG → Bool} {ds : List DG} {i : Nat} {d : DG} (hd : ds[i]? = some d) (h : p d = true) : kept p (ds.take (i + 1)) = kept p (ds.take i) := by
  unfold kept
  rw [List.take_add_one, hd, List.filter_append]
  simp [h]
theorem kept_len (p : DG → Bool) (ds : List DG) (i : Nat) : (kept p (ds.take i)).length ≤ i := by
  unfold kept
  exact Nat.le_trans (List.length_filter_le _ _) (by rw [List.length_take]; omega)
/-- What lose leaves. -/
def RLost (w : World) (r : Nat) (next : Int) (n : Nat) (es : List DG) (la : Option Addr) (m lc : Nat) (ls : List LK) (e : Ending) (w' : World) : Prop :=
  e = .returned (.int .i64 ((n : Int) - (es.length : Int))) ∧ ∃ a' c', RAt w' r next a' es.length c' es la m lc ls ∧ Only (at1 r) w w' ∧ ∀ g off, a' = some ⟨g, off, none⟩ → w.heap.size ≤ g
theorem Lks.only {W W' : World} {a : Option Addr} {m cap : Nat} {ls : List LK} {r : Nat} {cs : Array Value} (h : Lks W a m cap ls) (o : Only (at1 r) W W') (hr : ∀ g off, a = some ⟨g, off, none⟩ → g ≠ r) : Lks W' a m cap ls := by
  refine h.of_block o.size fun g off e => ?_
  rcases h.mem with ⟨e', _⟩ | ⟨g', off', e', hl, _⟩
  · rw [e'] at e; cases e
  · rw [e'] at e; cases e; exact o.block g hl (hr g off e')
theorem wpList_one33 {ops : Array Oper} {rest : List Oper} {o : Oper} {A : Act} {W : World} {Q : Exit → Act → World → Prop} (hgd : o.guard = none) (x : Operand) (ho : o.op = .buildSlice 22 1 #[(0, x)]) (d : DG) (hx : A.eval x = dgv d)
    (h : wpList Try.prog ops Q rest (A.put o.dst (.slice (some ⟨W.heap.size, 0, none⟩) 1 1)) (W.alloc (.cells d.cells.toArray 33))) : wpList Try.prog ops Q (o :: rest) A W :=
  wpList_plain hgd fun K hK => wp_one33 x ho d hx (hK _ _ h)
theorem wpList_append_lst {ops : Array Oper} {rest : List Oper} {o : Oper} {A : Act} {W : World} {Q : Exit → Act → World → Prop} (hgd : o.guard = none) (x y : Operand) (ho : o.op = .call { callee := .builtin .append, args := #[x, y], argTypes := #[22, 22] }) {a : Option Addr} {n cap s : Nat} {ds : List DG} {d : DG}
    (hx : A.eval x = .slice a n cap) (hy : A.eval y = .slice (some ⟨s, 0, none⟩) 1 1) (L : Lst W a n cap ds) (hs : W.rangeAt s 0 d.cells) (hn : n ≤ 65536)
    (h : ∀ a' cap' w', Lst w' a' (n + 1) cap' (ds ++ [d]) → (∀ g off, a' = some ⟨g, off, none⟩ → (∃ o, a = some ⟨g, o, none⟩) ∨ W.heap.size ≤ g) → Only (atL a) W w' → wpList Try.prog ops Q rest (A.put o.dst (.slice a' (n + 1) cap')) w') : wpList Try.prog ops Q (o :: rest) A W :=
  wpList_plain hgd fun K hK => wp_append_lst x y ho hx hy L hs hn fun a' cap' w' L' hb o' => hK _ _ (h a' cap' w' L' hb o')
theorem rlost_done {w wr : World} {r : Nat} {next : Int} {a a1 : Option Addr} {n cap k c1 : Nat} {ds es : List DG} {la : Option Addr} {m lc : Nat} {ls : List LK} (R : RAt w r next a n cap ds la m lc ls) (b : Below w.heap.size w wr) (L : Lst wr a1 k c1 es) (hw : ∀ g off, a1 = some ⟨g, off, none⟩ → w.heap.size ≤ g) (hr : r < w.heap.size) :
    RLost w r next n es la m lc ls (.returned (.int .i64 ((n : Int) - (k : Int)))) (wr.setCell ⟨r, 1, none⟩ (.slice a1 k c1)) := by
  have hk := L.size
  subst hk
  have o : Only (at1 r) w (wr.setCell ⟨r, 1, none⟩ (.slice a1 es.length c1)) := (Only.of_below b).set 1 _
  refine ⟨rfl, a1, c1, ⟨set_row ((b.block r hr).trans R.obj) 1 _, L.of_block fun g off e => set_far rfl (by have := hw g off e; omega) _ _, R.lks.only (cs := #[]) o R.ne, fun g off e => ?_⟩, o, hw⟩
  obtain ⟨cur, h⟩ := R.typ g off e
  exact ⟨cur, (o.block g (row_lt h) (R.ne g off e)).trans h⟩
set_option maxRecDepth 100000 in
set_option maxHeartbeats 8000000 in
theorem rlose_way (r : Nat) (next : Int) (a : Option Addr) (n cap : Nat) (ds : List DG) (la : Option Addr) (m lc : Nat) (ls : List LK) (x y : Int) (w : World) (R : RAt w r next a n cap ds la m lc ls) (hn : n ≤ 65536) : Calls Try.prog 49 #[.pointer (some ⟨r, 0, none⟩), .int .i64 x, .int .i64 y, .bool false, .bool true] w fun e w' => RLost w r next n (ds.filter (fun d => !lostP false true x y d)) la m lc ls e w' := by
  have hsz : Hid (ds.length = n) := ⟨R.lst.size⟩
  have L := R.lst
  have hrl := row_lt R.obj
  go_enter Try.func49, Try.ntmps49
  go_wp2
  go_loopg [11, 12, 13] n (fun gk v11 v12 v13 wr => ∃ (i k : Nat) (a1 : Option Addr) (c1 : Nat), v11 = .slice a1 k c1 ∧ v12 = .int .i64 ((i : Int) - (k : Int)) ∧ v13 = .int .i64 (i : Int) ∧ i + gk = n ∧ Hid (Lst wr a1 k c1 (kept (lostP false true x y) (ds.take i))) ∧ Hid (∀ g off, a1 = some ⟨g, off, none⟩ → w.heap.size ≤ g) ∧ Hid (Below w.heap.size w wr))
  case atStart => exact ⟨0, 0, none, 0, rfl, by first | rfl | go_num, rfl, by omega, ⟨lst_nil _⟩, ⟨fun g off e => by cases e⟩, ⟨Below.refl _ _⟩⟩
  case round =>
    obtain ⟨i, k, a1, c1, rfl, rfl, rfl, hg, HO, HW, HB⟩ := hrel
    have hcr := (HB.out.block r hrl).trans R.obj
    have c1c := row_cell hcr 1 (.slice a n cap) rfl
    have hki : k ≤ i := by rw [← HO.out.size]; exact kept_len _ _ _
    by_cases hi : i < n
    · have hiI : (i : Int) < (n : Int) := by omega
      have Lr : Lst wr a n cap ds := L.of_block fun g off e => HB.out.block g (by rw [e] at L; exact L.lt)
      obtain ⟨g, off, rfl, hd, hr⟩ := Lr.at i hi
      have HD : Hid (ds[i]? = some (ds.getD i DG.z)) := ⟨hd⟩
      clear hd
      obtain ⟨d, hdd⟩ : ∃ d, ds.getD i DG.z = d := ⟨_, rfl⟩
      rw [hdd] at HD hr
      clear hdd
      obtain ⟨num, src, dst, body⟩ := d
      have hk : k ≤ 65536 := by omega
      have bA : Below wr.heap.size wr (wr.alloc (.cells #[.int .i64 num, .int .i64 src, .int .i64 dst, .string body] 33)) := (Below.refl _ _).alloc (Nat.le_refl _) _
      have bB : Below wr.heap.size wr ((wr.alloc (.cells #[.int .i64 num, .int .i64 src, .int .i64 dst, .string body] 33)).alloc (.cells (DG.cells ⟨num, src, dst, body⟩).toArray 33)) := bA.alloc (by simp) _
      have LA := HO.out.below bB
      have X2 : (wr.alloc (.cells #[.int .i64 num, .int .i64 src, .int .i64 dst, .string body] 33)).rangeAt wr.heap.size 0 [.int .i64 num, .int .i64 src, .int .i64 dst, .string body] := range_new wr _ 33
      have XA := range_new (wr.alloc (.cells #[.int .i64 num, .int .i64 src, .int .i64 dst, .string body] 33)) (DG.cells ⟨num, src, dst, body⟩) 33
      by_cases d10 : src = x
      · have d1 : (src == x) = true := (by simp [d10]); clear d10
        by_cases d20 : dst = y
        · have d2 : (dst == y) = true := (by simp [d20]); clear d20
          have hl : lostP false true x y ⟨num, src, dst, body⟩ = true := by simp [lostP, d1, d2]
          go_wp2_with (first
            | ((with_reducible show wpList _ _ _ (Oper.mk _ (Op.load 33 (Operand.tmp 31)) _ _ _ _ :: _) _ _); refine wpList_load33x rfl _ rfl g (off + i * 4) num src dst body rfl hr ?_))
          go_roundg (gk - 1)
          case measure => omega
          case rel => exact ⟨i + 1, k, a1, c1, by first | rfl | go_num, by go_num, by go_num, by omega, ⟨by rw [kept_no HD.out hl]; exact HO.out.below bA⟩, HW, ⟨HB.out.trans (bA.mono HB.out.size)⟩⟩
        · have d2 : (dst == y) = false := (by simp [d20]); clear d20
          by_cases d30 : src = y
          · have d3 : (src == y) = true := (by simp [d30]); clear d30
            by_cases d40 : dst = x
            · have d4 : (dst == x) = true := (by simp [d40]); clear d40
              have hl : lostP false true x y ⟨num, src, dst, body⟩ = true := by simp [lostP, d1, d2, d3, d4]
              go_wp2_with (first
                | ((with_reducible show wpList _ _ _ (Oper.mk _ (Op.load 33 (Operand.tmp 31)) _ _ _ _ :: _) _ _); refine wpList_load33x rfl _ rfl g (off + i * 4) num src dst body rfl hr ?_))
              go_roundg (gk - 1)
              case measure => omega
              case rel => exact ⟨i + 1, k, a1, c1, by first | rfl | go_num, by go_num, by go_num, by omega, ⟨by rw [kept_no HD.out hl]; exact HO.out.below bA⟩, HW, ⟨HB.out.trans (bA.mono HB.out.size)⟩⟩
            · have d4 : (dst == x) = false := (by simp [d40]); clear d40
              have hl : lostP false true x y ⟨num, src, dst, body⟩ = false := by simp [lostP, d1, d2, d3, d4]
              go_wp2_with (first
                | ((with_reducible show wpList _ _ _ (Oper.mk _ (Op.load 33 (Operand.tmp 31)) _ _ _ _ :: _) _ _); refine wpList_load33x rfl _ rfl g (off + i * 4) num src dst body rfl hr ?_)
                | ((with_reducible show wpList _ _ _ (Oper.mk _ (Op.load 33 (Operand.tmp 14)) _ _ _ _ :: _) _ _); go_must (refine wpList_load33x rfl _ rfl wr.heap.size 0 num src dst body rfl X2 ?_))
                | ((with_reducible show wpList _ _ _ (Oper.mk _ (Op.buildSlice 22 1 _) _ _ _ _ :: _) _ _); go_must (refine wpList_one33 rfl _ rfl ⟨num, src, dst, body⟩ rfl ?_))
                | ((with_reducible show wpList _ _ _ (Oper.mk _ (Op.call { callee := Callee.builtin Builtin.append, args := _, argTypes := _ }) _ _ _ _ :: _) _ _); go_must (refine wpList_append_lst rfl _ _ rfl rfl rfl LA XA hk ?_; intro a5 c5 w5 L5 h5 o5)))
              go_roundg (gk - 1)
              case measure => omega
              case rel => exact ⟨i + 1, k + 1, a5, c5, by first | rfl | go_num, by go_num, by go_num, by omega, ⟨by rw [kept_yes HD.out hl]; exact L5⟩, ⟨fun g' off' e => (h5 g' off' e).elim (fun ⟨o', e'⟩ => HW.out g' o' e') (fun h => by have := bB.size; have := HB.out.size; omega)⟩, ⟨only_below (HB.out.trans (bB.mono HB.out.size)) o5 (fun q ⟨o', e'⟩ => HW.out q o' e')⟩⟩
          · have d3 : (src == y) = false := (by simp [d30]); clear d30
            have hl : lostP false true x y ⟨num, src, dst, body⟩ = false := by simp [lostP, d1, d2, d3]
            go_wp2_with (first
              | ((with_reducible show wpList _ _ _ (Oper.mk _ (Op.load 33 (Operand.tmp 31)) _ _ _ _ :: _) _ _); refine wpList_load33x rfl _ rfl g (off + i * 4) num src dst body rfl hr ?_)
              | ((with_reducible show wpList _ _ _ (Oper.mk _ (Op.load 33 (Operand.tmp 14)) _ _ _ _ :: _) _ _); go_must (refine wpList_load33x rfl _ rfl wr.heap.size 0 num src dst body rfl X2 ?_))
              | ((with_reducible show wpList _ _ _ (Oper.mk _ (Op.buildSlice 22 1 _) _ _ _ _ :: _) _ _); go_must (refine wpList_one33 rfl _ rfl ⟨num, src, dst, body⟩ rfl ?_))
              | ((with_reducible show wpList _ _ _ (Oper.mk _ (Op.call { callee := Callee.builtin Builtin.append, args := _, argTypes := _ }) _ _ _ _ :: _) _ _); go_must (refine wpList_append_lst rfl _ _ rfl rfl rfl LA XA hk ?_; intro a5 c5 w5 L5 h5 o5)))
            go_roundg (gk - 1)
            case measure => omega
            case rel => exact ⟨i + 1, k + 1, a5, c5, by first | rfl | go_num, by go_num, by go_num, by omega, ⟨by rw [kept_yes HD.out hl]; exact L5⟩, ⟨fun g' off' e => (h5 g' off' e).elim (fun ⟨o', e'⟩ => HW.out g' o' e') (fun h => by have := bB.size; have := HB.out.size; omega)⟩, ⟨only_below (HB.out.trans (bB.mono HB.out.size)) o5 (fun q ⟨o', e'⟩ => HW.out q o' e')⟩⟩
      · have d1 : (src == x) = false := (by simp [d10]); clear d10
        by_cases d30 : src = y
        · have d3 : (src == y) = true := (by simp [d30]); clear d30
          by_cases d40 : dst = x
          · have d4 : (dst == x) = true := (by simp [d40]); clear d40
            have hl : lostP false true x y ⟨num, src, dst, body⟩ = true := by simp [lostP, d1, d3, d4]
            go_wp2_with (first
              | ((with_reducible show wpList _ _ _ (Oper.mk _ (Op.load 33 (Operand.tmp 31)) _ _ _ _ :: _) _ _); refine wpList_load33x rfl _ rfl g (off + i * 4) num src dst body rfl hr ?_))
            go_roundg (gk - 1)
            case measure => omega
            case rel => exact ⟨i + 1, k, a1, c1, by first | rfl | go_num, by go_num, by go_num, by omega, ⟨by rw [kept_no HD.out hl]; exact HO.out.below bA⟩, HW, ⟨HB.out.trans (bA.mono HB.out.size)⟩⟩
          · have d4 : (dst == x) = false := (by simp [d40]); clear d40
            have hl : lostP false true x y ⟨num, src, dst, body⟩ = false := by simp [lostP, d1, d3, d4]
            go_wp2_with (first
              | ((with_reducible show wpList _ _ _ (Oper.mk _ (Op.load 33 (Operand.tmp 31)) _ _ _ _ :: _) _ _); refine wpList_load33x rfl _ rfl g (off + i * 4) num src dst body rfl hr ?_)
              | ((with_reducible show wpList _ _ _ (Oper.mk _ (Op.load 33 (Operand.tmp 14)) _ _ _ _ :: _) _ _); go_must (refine wpList_load33x rfl _ rfl wr.heap.size 0 num src dst body rfl X2 ?_))
              | ((with_reducible show wpList _ _ _ (Oper.mk _ (Op.buildSlice 22 1 _) _ _ _ _ :: _) _ _); go_must (refine wpList_one33 rfl _ rfl ⟨num, src, dst, body⟩ rfl ?_))
              | ((with_reducible show wpList _ _ _ (Oper.mk _ (Op.call { callee := Callee.builtin Builtin.append, args := _, argTypes := _ }) _ _ _ _ :: _) _ _); go_must (refine wpList_append_lst rfl _ _ rfl rfl rfl LA XA hk ?_; intro a5 c5 w5 L5 h5 o5)))
            go_roundg (gk - 1)
            case measure => omega
            case rel => exact ⟨i + 1, k + 1, a5, c5, by first | rfl | go_num, by go_num, by go_num, by omega, ⟨by rw [kept_yes HD.out hl]; exact L5⟩, ⟨fun g' off' e => (h5 g' off' e).elim (fun ⟨o', e'⟩ => HW.out g' o' e') (fun h => by have := bB.size; have := HB.out.size; omega)⟩, ⟨only_below (HB.out.trans (bB.mono HB.out.size)) o5 (fun q ⟨o', e'⟩ => HW.out q o' e')⟩⟩
        · have d3 : (src == y) = false := (by simp [d30]); clear d30
          have hl : lostP false true x y ⟨num, src, dst, body⟩ = false := by simp [lostP, d1, d3]
          go_wp2_with (first
            | ((with_reducible show wpList _ _ _ (Oper.mk _ (Op.load 33 (Operand.tmp 31)) _ _ _ _ :: _) _ _); refine wpList_load33x rfl _ rfl g (off + i * 4) num src dst body rfl hr ?_)
            | ((with_reducible show wpList _ _ _ (Oper.mk _ (Op.load 33 (Operand.tmp 14)) _ _ _ _ :: _) _ _); go_must (refine wpList_load33x rfl _ rfl wr.heap.size 0 num src dst body rfl X2 ?_))
            | ((with_reducible show wpList _ _ _ (Oper.mk _ (Op.buildSlice 22 1 _) _ _ _ _ :: _) _ _); go_must (refine wpList_one33 rfl _ rfl ⟨num, src, dst, body⟩ rfl ?_))
            | ((with_reducible show wpList _ _ _ (Oper.mk _ (Op.call { callee := Callee.builtin Builtin.append, args := _, argTypes := _ }) _ _ _ _ :: _) _ _); go_must (refine wpList_append_lst rfl _ _ rfl rfl rfl LA XA hk ?_; intro a5 c5 w5 L5 h5 o5)))
          go_roundg (gk - 1)
          case measure => omega
          case rel => exact ⟨i + 1, k + 1, a5, c5, by first | rfl | go_num, by go_num, by go_num, by omega, ⟨by rw [kept_yes HD.out hl]; exact L5⟩, ⟨fun g' off' e => (h5 g' off' e).elim (fun ⟨o', e'⟩ => HW.out g' o' e') (fun h => by have := bB.size; have := HB.out.size; omega)⟩, ⟨only_below (HB.out.trans (bB.mono HB.out.size)) o5 (fun q ⟨o', e'⟩ => HW.out q o' e')⟩⟩
    · obtain rfl : i = n := by omega
      have hO := HO.out
      rw [List.take_of_length_le (by rw [hsz.out]; exact Nat.le_refl _)] at hO
      have hf := row_free hcr 1
      go_wp2
      go_ret
      exact rlost_done R HB.out hO HW.out hrl
set_option maxRecDepth 100000 in
set_option maxHeartbeats 8000000 in
theorem rlose_to (r : Nat) (next : Int) (a : Option Addr) (n cap : Nat) (ds : List DG) (la : Option Addr) (m lc : Nat) (ls : List LK) (x y : Int) (w : World) (R : RAt w r next a n cap ds la m lc ls) (hn : n ≤ 65536) : Calls Try.prog 49 #[.pointer (some ⟨r, 0, none⟩), .int .i64 x, .int .i64 y, .bool true, .bool false] w fun e w' => RLost w r next n (ds.filter (fun d => !lostP true false x y d)) la m lc ls e w' := by
  have hsz : Hid (ds.length = n) := ⟨R.lst.size⟩
  have L := R.lst
  have hrl := row_lt R.obj
  go_enter Try.func49, Try.ntmps49
  go_wp2
  go_loopg [11, 12, 13] n (fun gk v11 v12 v13 wr => ∃ (i k : Nat) (a1 : Option Addr) (c1 : Nat), v11 = .slice a1 k c1 ∧ v12 = .int .i64 ((i : Int) - (k : Int)) ∧ v13 = .int .i64 (i : Int) ∧ i + gk = n ∧ Hid (Lst wr a1 k c1 (kept (lostP true false x y) (ds.take i))) ∧ Hid (∀ g off, a1 = some ⟨g, off, none⟩ → w.heap.size ≤ g) ∧ Hid (Below w.heap.size w wr))
  case atStart => exact ⟨0, 0, none, 0, rfl, by first | rfl | go_num, rfl, by omega, ⟨lst_nil _⟩, ⟨fun g off e => by cases e⟩, ⟨Below.refl _ _⟩⟩
  case round =>
    obtain ⟨i, k, a1, c1, rfl, rfl, rfl, hg, HO, HW, HB⟩ := hrel
    have hcr := (HB.out.block r hrl).trans R.obj
    have c1c := row_cell hcr 1 (.slice a n cap) rfl
    have hki : k ≤ i := by rw [← HO.out.size]; exact kept_len _ _ _
    by_cases hi : i < n
    · have hiI : (i : Int) < (n : Int) := by omega
      have Lr : Lst wr a n cap ds := L.of_block fun g off e => HB.out.block g (by rw [e] at L; exact L.lt)
      obtain ⟨g, off, rfl, hd, hr⟩ := Lr.at i hi
      have HD : Hid (ds[i]? = some (ds.getD i DG.z)) := ⟨hd⟩
      clear hd
      obtain ⟨d, hdd⟩ : ∃ d, ds.getD i DG.z = d := ⟨_, rfl⟩
      rw [hdd] at HD hr
      clear hdd
      obtain ⟨num, src, dst, body⟩ := d
      have hk : k ≤ 65536 := by omega
      have bA : Below wr.heap.size wr (wr.alloc (.cells #[.int .i64 num, .int .i64 src, .int .i64 dst, .string body] 33)) := (Below.refl _ _).alloc (Nat.le_refl _) _
      have bB : Below wr.heap.size wr ((wr.alloc (.cells #[.int .i64 num, .int .i64 src, .int .i64 dst, .string body] 33)).alloc (.cells (DG.cells ⟨num, src, dst, body⟩).toArray 33)) := bA.alloc (by simp) _
      have LA := HO.out.below bB
      have X2 : (wr.alloc (.cells #[.int .i64 num, .int .i64 src, .int .i64 dst, .string body] 33)).rangeAt wr.heap.size 0 [.int .i64 num, .int .i64 src, .int .i64 dst, .string body] := range_new wr _ 33
      have XA := range_new (wr.alloc (.cells #[.int .i64 num, .int .i64 src, .int .i64 dst, .string body] 33)) (DG.cells ⟨num, src, dst, body⟩) 33
      by_cases d10 : dst = y
      · have d1 : (dst == y) = true := (by simp [d10]); clear d10
        have hl : lostP true false x y ⟨num, src, dst, body⟩ = true := by simp [lostP, d1]
        go_wp2_with (first
          | ((with_reducible show wpList _ _ _ (Oper.mk _ (Op.load 33 (Operand.tmp 31)) _ _ _ _ :: _) _ _); refine wpList_load33x rfl _ rfl g (off + i * 4) num src dst body rfl hr ?_))
        go_roundg (gk - 1)
        case measure => omega
        case rel => exact ⟨i + 1, k, a1, c1, by first | rfl | go_num, by go_num, by go_num, by omega, ⟨by rw [kept_no HD.out hl]; exact HO.out.below bA⟩, HW, ⟨HB.out.trans (bA.mono HB.out.size)⟩⟩
      · have d1 : (dst == y) = false := (by simp [d10]); clear d10
        have hl : lostP true false x y ⟨num, src, dst, body⟩ = false := by simp [lostP, d1]
        go_wp2_with (first
          | ((with_reducible show wpList _ _ _ (Oper.mk _ (Op.load 33 (Operand.tmp 31)) _ _ _ _ :: _) _ _); refine wpList_load33x rfl _ rfl g (off + i * 4) num src dst body rfl hr ?_)
          | ((with_reducible show wpList _ _ _ (Oper.mk _ (Op.load 33 (Operand.tmp 14)) _ _ _ _ :: _) _ _); go_must (refine wpList_load33x rfl _ rfl wr.heap.size 0 num src dst body rfl X2 ?_))
          | ((with_reducible show wpList _ _ _ (Oper.mk _ (Op.buildSlice 22 1 _) _ _ _ _ :: _) _ _); go_must (refine wpList_one33 rfl _ rfl ⟨num, src, dst, body⟩ rfl ?_))
          | ((with_reducible show wpList _ _ _ (Oper.mk _ (Op.call { callee := Callee.builtin Builtin.append, args := _, argTypes := _ }) _ _ _ _ :: _) _ _); go_must (refine wpList_append_lst rfl _ _ rfl rfl rfl LA XA hk ?_; intro a5 c5 w5 L5 h5 o5)))
        go_roundg (gk - 1)
        case measure => omega
        case rel => exact ⟨i + 1, k + 1, a5, c5, by first | rfl | go_num, by go_num, by go_num, by omega, ⟨by rw [kept_yes HD.out hl]; exact L5⟩, ⟨fun g' off' e => (h5 g' off' e).elim (fun ⟨o', e'⟩ => HW.out g' o' e') (fun h => by have := bB.size; have := HB.out.size; omega)⟩, ⟨only_below (HB.out.trans (bB.mono HB.out.size)) o5 (fun q ⟨o', e'⟩ => HW.out q o' e')⟩⟩
    · obtain rfl : i = n := by omega
      have hO := HO.out
      rw [List.take_of_length_le (by rw [hsz.out]; exact Nat.le_refl _)] at hO
      have hf := row_free hcr 1
      go_wp2
      go_ret
      exact rlost_done R HB.out hO HW.out hrl
end Go.Proofs.Ytoppecppmjpgiaa
