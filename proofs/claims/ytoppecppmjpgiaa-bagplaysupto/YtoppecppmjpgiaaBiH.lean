/-
  Package bag: the document's Take.
-/
import Derived.Test.YtoppecppmjpgiaaBhK
namespace Go.Proofs.Ytoppecppmjpgiaa
open Go.ChangeShapes Go.WideShapes Go.ChangeAt Go.RowKit Go.Maps
set_option linter.unusedVariables false
set_option linter.unusedSimpArgs false

/-- The document's bag, with another list. -/
def RList (w : World) (r : Nat) (next : Int) (es : List DG) (la : Option Addr) (m lc : Nat) (ls : List LK) (w' : World) : Prop :=
  ∃ a' c', RAt w' r next a' es.length c' es la m lc ls ∧ Only (at1 r) w w' ∧ ∀ g off, a' = some ⟨g, off, none⟩ → w.heap.size ≤ g
theorem res33 {w : World} {g : Nat} {d : DG} (h : w.heap[g]? = some (.cells d.cells.toArray 33 (0, 0))) : (loadVar 33 ⟨g, 0, none⟩).run Try.prog w = .ok (dgv d) w :=
  run_loadVar_row (P := Try.prog) w g 33 33 _ (0, 0) _ h Try.underlying33 rfl (by show _ = some 4; kernel_rfl)
theorem results_ct {P : Program} {fn : Func} {p q : Tmp} {t : TypeId} (h : fn.results = #[.cell p t, .tmp q]) (tmps : Array Value) (w : World) (g : Nat) (v : Value)
    (hp : tmps.getD p undef = .pointer (some ⟨g, 0, none⟩)) (h1 : (loadVar t ⟨g, 0, none⟩).run P w = .ok v w) :
    (results fn tmps).run P w = .ok (.tuple #[v, tmps.getD q undef]) w := by
  have hp' : tmps[p]?.getD undef = .pointer (some ⟨g, 0, none⟩) := by simpa using hp
  simp [results, h, hp', asAddr, h1]
theorem rlist_done {w W : World} {r : Nat} {next : Int} {a a1 : Option Addr} {n cap k c1 : Nat} {ds es : List DG} {la : Option Addr} {m lc : Nat} {ls : List LK} (R : RAt w r next a n cap ds la m lc ls) (b : Below w.heap.size w W) (hs : w.heap.size < W.heap.size) (L : Lst W a1 k c1 es) (hw : ∀ g off, a1 = some ⟨g, off, none⟩ → w.heap.size + 1 ≤ g) (v0 v1 v2 v3 : Value) :
    RList w r next es la m lc ls (((((W.setCell ⟨r, 1, none⟩ (.slice a1 k c1)).setCell ⟨w.heap.size, 0, none⟩ v0).setCell ⟨w.heap.size, 1, none⟩ v1).setCell ⟨w.heap.size, 2, none⟩ v2).setCell ⟨w.heap.size, 3, none⟩ v3) := by
  have hk := L.size
  subst hk
  have hr := row_lt R.obj
  have o : Only (at1 r) w (W.setCell ⟨r, 1, none⟩ (.slice a1 es.length c1)) := (Only.of_below b).set 1 _
  have R1 : RAt (W.setCell ⟨r, 1, none⟩ (.slice a1 es.length c1)) r next a1 es.length c1 es la m lc ls := by
    refine ⟨set_row ((b.block r hr).trans R.obj) 1 _, L.of_block fun g off e => set_far rfl (by have := hw g off e; omega) _ _, R.lks.only (cs := #[]) o R.ne, fun g off e => ?_⟩
    obtain ⟨cur, h⟩ := R.typ g off e
    exact ⟨cur, (o.block g (row_lt h) (R.ne g off e)).trans h⟩
  have far : ∀ q, q ≠ w.heap.size → (((((W.setCell ⟨r, 1, none⟩ (.slice a1 es.length c1)).setCell ⟨w.heap.size, 0, none⟩ v0).setCell ⟨w.heap.size, 1, none⟩ v1).setCell ⟨w.heap.size, 2, none⟩ v2).setCell ⟨w.heap.size, 3, none⟩ v3).heap[q]? = (W.setCell ⟨r, 1, none⟩ (.slice a1 es.length c1)).heap[q]? := fun q hq => set_far (set_far (set_far (set_far rfl hq _ _) hq _ _) hq _ _) hq _ _
  refine ⟨a1, c1, R1.of_blocks (by simp [World.setCell]) (far r (by omega)) ?_ ?_, ?_, fun g off e => by have := hw g off e; omega⟩
  · rintro q ⟨off, e⟩
    exact far q (by have := hw q off e; omega)
  · intro g off e
    have := R.lkLt g off e
    exact far g (by omega)
  · have hn : w.heap.size < w.heap.size → at1 r w.heap.size := fun h => absurd h (by omega)
    exact (((o.setCell hn 0 v0).setCell hn 1 v1).setCell hn 2 v2).setCell hn 3 v3
set_option maxHeartbeats 2000000 in
theorem rtake_none (r : Nat) (next : Int) (a : Option Addr) (n cap : Nat) (ds : List DG) (la : Option Addr) (m lc : Nat) (ls : List LK) (x : Int) (w : World) (R : RAt w r next a n cap ds la m lc ls) (hc : idx (fun d => d.num == x) ds = -1) :
    Calls Try.prog 28 #[.pointer (some ⟨r, 0, none⟩), .int .i64 x] w fun e w' => e = .returned (.tuple #[dgv DG.z, .int .i64 31]) ∧ Below w.heap.size w w' := by
  have K := fun W (b : Below w.heap.size w W) => place_any r next a n cap ds la m lc ls x W (R.below b)
  rw [hc] at K
  go_enter Try.func28, Try.ntmps28
  go_wp2_with (go_at_call 47; go_must (refine (K _ (by go_grown)).mono ?_; rintro e w1 ⟨rfl, hw⟩; rw [hw]; clear hw))
  exact bodyPost_ret (v := .tuple #[dgv DG.z, .int .i64 31]) (by simp [results, Try.results28, go_sem]; rfl) rfl ⟨rfl, by go_grown⟩
set_option maxRecDepth 100000 in
set_option maxHeartbeats 4000000 in
theorem rtake_some (r : Nat) (next : Int) (g off n cap : Nat) (ds : List DG) (la : Option Addr) (m lc : Nat) (ls : List LK) (x : Int) (w : World) (R : RAt w r next (some ⟨g, off, none⟩) n cap ds la m lc ls) (i : Nat) (num src dst : Int) (body : ByteArray) (hd : ds[i]? = some ⟨num, src, dst, body⟩) (hc : idx (fun d => d.num == x) ds = (i : Int)) (hn : n ≤ 65536) :
    Calls Try.prog 28 #[.pointer (some ⟨r, 0, none⟩), .int .i64 x] w fun e w' => e = .returned (.tuple #[dgv ⟨num, src, dst, body⟩, .int .i64 0]) ∧ RList w r next (ds.take i ++ ds.drop (i + 1)) la m lc ls w' := by
  have K := fun W (b : Below w.heap.size w W) => place_any r next _ n cap ds la m lc ls x W (R.below b)
  rw [hc] at K
  have L := R.lst
  have hs := L.size
  have hle := L.le
  have hi : i < n := by have := (List.getElem?_eq_some_iff.1 hd).1; omega
  have hiI : (i : Int) < (n : Int) := by omega
  have hi0 : ¬ (i : Int) < 0 := by omega
  have hil : (i : Int) ≤ (cap : Int) := by omega
  have hil2 : (i : Int) + 1 ≤ (n : Int) := by omega
  have HN : Hid (n ≤ 65536) := ⟨hn⟩
  have hlt := L.lt
  have hAt : ∀ W, Below w.heap.size w W → ∀ j u, (dcs ds)[j]? = some u → W.cell? ⟨g, off + j, none⟩ = some u := fun W b j u hj => (World.cell?_of_block (a := ⟨g, off + j, none⟩) (b.block g hlt)).trans (L.cells_at j u hj)
  have HA : Hid (∀ W, Below w.heap.size w W → ∀ j u, (dcs (ds.take i))[j]? = some u → W.cell? ⟨g, off + j, none⟩ = some u) := ⟨fun W b j u hj => hAt W b j u (dcs_take_at hj)⟩
  have HR : Hid (∀ W, Below w.heap.size w W → W.rangeAt g (off + i * 4) (DG.cells ⟨num, src, dst, body⟩)) := ⟨fun W b j u hj => by
    have hj4 : j < 4 := (List.getElem?_eq_some_iff.1 hj).1
    have e := dcs_get ds i j _ hd hj4
    rw [hj] at e
    have := hAt W b _ u e
    rwa [show off + (4 * i + j) = off + i * 4 + j by omega] at this⟩
  obtain ⟨p, HP, HZ⟩ : ∃ p, Hid ((if cap = i + 1 then some (⟨g, off, none⟩ : Addr) else some ⟨g, off + (i + 1) * 4, none⟩) = some ⟨g, p, none⟩) ∧ Hid (∀ W, Below w.heap.size w W → ∀ j u, (dcs (ds.drop (i + 1)))[j]? = some u → W.cell? ⟨g, p + j, none⟩ = some u) := by
    by_cases hlc : cap = i + 1
    · refine ⟨off, ⟨by rw [if_pos hlc]⟩, ⟨fun W b j u hj => ?_⟩⟩
      rw [List.drop_of_length_le (by omega)] at hj
      cases hj
    · refine ⟨off + (i + 1) * 4, ⟨by rw [if_neg hlc]⟩, ⟨fun W b j u hj => ?_⟩⟩
      rw [dcs_drop_at] at hj
      have := hAt W b _ u hj
      rwa [show off + (4 * (i + 1) + j) = off + (i + 1) * 4 + j by omega] at this
  have l1 : (ds.take i).length = i := by rw [List.length_take]; omega
  have l2 : (ds.drop (i + 1)).length = n - (i + 1) := by rw [List.length_drop]; omega
  have l3 : (ds.take i ++ ds.drop (i + 1)).length = i + (n - (i + 1)) := by rw [List.length_append, l1, l2]
  have hwr : IntKind.i64.wrap ((i : Int) + 1) = (i : Int) + 1 := by rw [IntKind.wrap_i64]; omega
  have ra := fun W (b : Below w.heap.size w W) => row_cell (R.below b).obj 1 (.slice (some ⟨g, off, none⟩) n cap) rfl
  clear hAt hc hd hn
  obtain ⟨w0, hw0⟩ : ∃ w0, w.alloc (.cells #[.int .i64 0, .int .i64 0, .int .i64 0, .string { data := #[] }] 33) = w0 := ⟨_, rfl⟩
  have b0 : Below w.heap.size w w0 := by rw [← hw0]; exact (Below.refl _ _).alloc (Nat.le_refl _) _
  have Z0 : w0.heap[w.heap.size]? = some (.cells #[.int .i64 0, .int .i64 0, .int .i64 0, .string { data := #[] }] 33 (0, 0)) := by rw [← hw0]; exact World.alloc_heap_new _ _
  have s0 : w0.heap.size = w.heap.size + 1 := by rw [← hw0]; simp
  obtain ⟨w1, hw1⟩ : ∃ w1, w0.alloc (.cells #[.int .i64 num, .int .i64 src, .int .i64 dst, .string body] 33) = w1 := ⟨_, rfl⟩
  have b01 : Below w0.heap.size w0 w1 := by rw [← hw1]; exact (Below.refl _ _).alloc (Nat.le_refl _) _
  have b1 : Below w.heap.size w w1 := b0.trans (b01.mono b0.size)
  have Z1 : w1.heap[w.heap.size]? = some (.cells #[.int .i64 0, .int .i64 0, .int .i64 0, .string { data := #[] }] 33 (0, 0)) := (b01.block _ (by omega)).trans Z0
  have Y1 : w1.heap[w0.heap.size]? = some (.cells #[.int .i64 num, .int .i64 src, .int .i64 dst, .string body] 33 (0, 0)) := by rw [← hw1]; exact World.alloc_heap_new _ _
  have s1 : w1.heap.size = w.heap.size + 2 := by rw [← hw1, World.size_alloc, s0]
  have c0 := ra _ b0
  have c1 := ra _ b1
  have HS : Hid (w0.heap.size = w.heap.size + 1 ∧ w1.heap.size = w.heap.size + 2) := ⟨s0, s1⟩
  clear s0 s1 Z0 b01
  go_enter Try.func28, Try.ntmps28
  go_wp2_with (first
    | (go_at_call 47; go_must (refine (K _ b0).mono ?_; rintro e wx ⟨rfl, hw⟩; rw [hw]; clear hw wx))
    | ((with_reducible show wpList _ _ _ (Oper.mk _ (Op.load 33 (Operand.tmp 21)) _ _ _ _ :: _) _ _); go_must (refine wpList_load33x rfl _ rfl g (off + i * 4) num src dst body rfl (HR.out _ b0) ?_))
    | ((with_reducible show wpList _ _ _ (Oper.mk _ (Op.call { callee := Callee.builtin Builtin.append, args := #[Operand.tmp 23, Operand.tmp 30], argTypes := _ }) _ _ _ _ :: _) _ _); go_must (refine wpList_more_lst rfl _ _ rfl (base := w1.heap.size) (k := 0) (es := []) (ds := ds.take i) rfl rfl (World.ownsRow_nil _ _ 33 4) l1 (HA.out _ b1) (by have := HN.out; omega) (Nat.le_refl _) ?_; intro v1 w2 O2 b2; have b12 := b1.trans (b2.mono b1.size); have d1 := ra _ b12))
    | ((with_reducible show wpList _ _ _ (Oper.mk _ (Op.call { callee := Callee.builtin Builtin.append, args := #[Operand.tmp 33, Operand.tmp 41], argTypes := _ }) _ _ _ _ :: _) _ _); go_must (refine wpList_more_lst rfl _ _ rfl (base := w1.heap.size) (k := 0 + i) (es := [] ++ ds.take i) (ds := ds.drop (i + 1)) (off := p) rfl (by show Value.slice (if cap = i + 1 then some (⟨g, off, none⟩ : Addr) else some ⟨g, off + (i + 1) * 4, none⟩) _ _ = _; rw [HP.out]) O2 l2 (HZ.out _ b12) (by have := HN.out; omega) b2.size ?_; intro v2 w3 O3 b3; have b23 := b2.trans b3; have b13 := b1.trans (b23.mono b1.size); have R3 := R.below b13; rw [List.nil_append, Nat.zero_add] at O3; obtain ⟨la', lc', rfl, K3, hnew⟩ := own_lst O3 l3; have e2 := row_cell R3.obj 1 (.slice (some ⟨g, off, none⟩) n cap) rfl; have f2 := row_free R3.obj 1; have hrl := row_lt R.obj; have Y3 : (w3.setCell ⟨r, 1, none⟩ (.slice la' (i + (n - (i + 1))) lc')).heap[w0.heap.size]? = _ := (set_far ((b23.block _ (by have := HS.out; omega)).trans Y1) (by have := HS.out; omega) _ _); have Z3 : (w3.setCell ⟨r, 1, none⟩ (.slice la' (i + (n - (i + 1))) lc')).heap[w.heap.size]? = _ := (set_far ((b23.block _ (by have := HS.out; omega)).trans Z1) (by omega) _ _); have y0 := row_cell Y3 0 _ rfl; have y1 := row_cell Y3 1 _ rfl; have y2 := row_cell Y3 2 _ rfl; have y3 := row_cell Y3 3 _ rfl; have z0 := row_cell Z3 0 _ rfl; have z1 := row_cell Z3 1 _ rfl; have z2 := row_cell Z3 2 _ rfl; have z3 := row_cell Z3 3 _ rfl; have x0 := row_free Z3 0; have x1 := row_free Z3 1; have x2 := row_free Z3 2; have x3 := row_free Z3 3)))
  all_goals
    have hs3 := b23.size
    have T : (((((w3.setCell ⟨r, 1, none⟩ (.slice la' (i + (n - (i + 1))) lc')).setCell ⟨w.heap.size, 0, none⟩ (.int .i64 num)).setCell ⟨w.heap.size, 1, none⟩ (.int .i64 src)).setCell ⟨w.heap.size, 2, none⟩ (.int .i64 dst)).setCell ⟨w.heap.size, 3, none⟩ (.string body)).heap[w.heap.size]? = some (.cells (DG.cells ⟨num, src, dst, body⟩).toArray 33 (0, 0)) := set_row (set_row (set_row (set_row Z3 0 _) 1 _) 2 _) 3 _
    refine bodyPost_ret (results_ct rfl _ _ w.heap.size _ rfl (res33 T)) rfl ⟨rfl, ?_⟩
    exact rlist_done R b13 (by have := HS.out; omega) K3 (fun g off e => by have := hnew g off e; have := HS.out; omega) _ _ _ _
end Go.Proofs.Ytoppecppmjpgiaa
