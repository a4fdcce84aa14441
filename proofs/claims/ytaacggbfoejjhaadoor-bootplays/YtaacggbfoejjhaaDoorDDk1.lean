/-
  Package disk: bytes; Read.
-/
import Derived.Test.YtaacggbfoejjhaaDoorDDk0
import Derived.Test.YtaacggbfoejjhaaDoorDHeld
import Derived.Laws.CopyOwn
import Derived.RangeFuncRecord
import Derived.Deep.WholeRow
namespace Go.Proofs.YtaacggbfoejjhaaDoor.D
open Go.ChangeShapes Go.WideShapes Go.ChangeAt Go.RowKit
set_option linter.unusedVariables false
set_option linter.unusedSimpArgs false

/-- The list of numbers that a slice value leads to in a world. -/
structure Row (kd : IntKind) (w : World) (a : Option Addr) (len cap : Nat) (zs : List Int) : Prop where
  size : zs.length = len
  le : len ≤ cap
  nil : a = none → len = 0 ∧ cap = 0
  wf : ∀ z ∈ zs, (Lit.int kd z).wf = true
  mem : len = 0 ∨ ∃ b off, a = some ⟨b, off, none⟩ ∧ b < w.heap.size ∧ ∀ k, k < len → w.cell? ⟨b, off + k, none⟩ = some (.int kd (zs.getD k 0))
theorem wf_u8 {z : Int} (h : (Lit.int .u8 z).wf = true) : 0 ≤ z ∧ z < 256 := by
  have h1 : IntKind.u8.min = 0 := rfl
  have h2 : IntKind.u8.max = 255 := rfl
  simp only [Lit.wf, Bool.and_eq_true, decide_eq_true_eq] at h
  omega
theorem u8_wf {z : Int} (h0 : 0 ≤ z) (h1 : z < 256) : (Lit.int .u8 z).wf = true := WalkArith.wf_u8 (by omega)
theorem Row.byte {w : World} {a : Option Addr} {len cap : Nat} {zs : List Int} (R : Row .u8 w a len cap zs) : Byt zs := fun c hc => wf_u8 (R.wf c hc)
theorem Row.of_block {kd : IntKind} {w w' : World} {a : Option Addr} {len cap : Nat} {zs : List Int} (R : Row kd w a len cap zs) (hs : w.heap.size ≤ w'.heap.size) (hb : ∀ b o, a = some ⟨b, o, none⟩ → b < w.heap.size → w'.heap[b]? = w.heap[b]?) : Row kd w' a len cap zs where
  size := R.size
  le := R.le
  nil := R.nil
  wf := R.wf
  mem := R.mem.imp id fun ⟨b, off, e, h, c⟩ => ⟨b, off, e, Nat.lt_of_lt_of_le h hs, fun k hk => (World.cell?_of_block (a := ⟨b, off + k, none⟩) (hb b off e h)).trans (c k hk)⟩
theorem Row.below {kd : IntKind} {w w' : World} {a : Option Addr} {len cap : Nat} {zs : List Int} (R : Row kd w a len cap zs) (hb : Below w.heap.size w w') : Row kd w' a len cap zs := R.of_block hb.size fun b _ _ h => hb.block b h
theorem Row.drew {kd : IntKind} {w : World} {a : Option Addr} {len cap : Nat} {zs : List Int} (R : Row kd w a len cap zs) : Row kd w.drew a len cap zs := ⟨R.size, R.le, R.nil, R.wf, R.mem⟩
theorem Row.alloc {kd : IntKind} {w : World} {a : Option Addr} {len cap : Nat} {zs : List Int} (R : Row kd w a len cap zs) (o : Obj) : Row kd (w.alloc o) a len cap zs := R.below ((Below.refl _ _).alloc (Nat.le_refl _) o)
theorem row_nil (kd : IntKind) (w : World) : Row kd w none 0 0 [] := ⟨rfl, Nat.le_refl _, fun _ => ⟨rfl, rfl⟩, fun z hz => by simp at hz, .inl rfl⟩
theorem bv_at (zs : List Int) (k : Nat) (h : k < zs.length) : (zs.map bv).toArray[k]? = some (.int .u8 (zs.getD k 0)) := by
  simp [List.getD, List.getElem?_eq_getElem h]
/-- Bytes that are a block's own. -/
theorem row_of {w : World} {g : Nat} {zs : List Int} {t : TypeId} (h : w.heap[g]? = some (.cells (zs.map bv).toArray t (0, 0))) (hb : Byt zs) (n c : Nat) (hn : n = zs.length) (hc : n ≤ c) : Row .u8 w (some ⟨g, 0, none⟩) n c zs where
  size := hn.symm
  le := hc
  nil := fun e => by cases e
  wf := fun z hz => u8_wf (hb z hz).1 (hb z hz).2
  mem := .inr ⟨g, 0, rfl, row_lt h, fun k hk => by rw [Nat.zero_add]; exact row_cell h k _ (bv_at zs k (by omega))⟩
theorem conv_row {w : World} {a : Option Addr} {len cap : Nat} {zs : List Int} (R : Row .u8 w a len cap zs) : (convert 22 9 (.slice a len cap)).run Tryd.prog w = .ok (.string (strOfNums zs)) w := by
  rcases R.mem with h | ⟨b, off, rfl, hb, hc⟩
  · have e : zs = [] := List.eq_nil_of_length_eq_zero (R.size.trans h)
    subst e
    cases a with
    | none => exact run_convert_bytes_nil w 22 5 Tryd.underlying22 Tryd.underlying5 len cap 9 Tryd.underlying9
    | some ad =>
      subst h
      rw [run_convert_bytes_string w 22 9 5 _ 0 cap Tryd.underlying22 Tryd.underlying5 Tryd.underlying9]
      have hl : (loadCells ad 0).run Tryd.prog w = .ok (([] : List Int).map (Value.int .u8)).toArray w := by
        simpa using run_loadCells_list (P := Tryd.prog) w ad [] (fun j v hj => by simp at hj)
      rw [run_bytesToString w ad 0 cap [] hl]
      rfl
  · exact run_convert_bytes_arg w 22 5 Tryd.underlying22 Tryd.underlying5 b off len cap zs R.size hc 9 Tryd.underlying9
theorem Row.cells {w : World} {ad : Addr} {len cap : Nat} {zs : List Int} (R : Row .u8 w (some ad) len cap zs) : ∀ (j : Nat) (u : Value), (zs.map bv)[j]? = some u → w.cell? (ad.add j) = some u := by
  intro j u hj
  have hjl : j < zs.length := by
    rcases Nat.lt_or_ge j zs.length with h | h
    · exact h
    · simp [List.getElem?_eq_none h] at hj
  rcases R.mem with h | ⟨b, off, e, hb, hc⟩
  · have := R.size; omega
  · cases e
    rw [add_plain, hc j (by have := R.size; omega)]
    simp [List.getElem?_eq_getElem hjl] at hj
    subst hj
    simp [List.getD, List.getElem?_eq_getElem hjl]
theorem bv_one (zs : List Int) : ∀ u ∈ zs.map bv, u.oneCell' = true := by
  intro u hu
  obtain ⟨z, _, rfl⟩ := List.mem_map.1 hu
  rfl
/-- A sector's bytes. -/
def sec (bs : List Int) (i : Nat) : List Int := (bs.drop (16 * i)).take 16
theorem sec_len {S : DS} (h : S.Ok) {i : Nat} (hi : i < S.n) : (sec S.bs i).length = 16 := by have := h.len; unfold sec; rw [List.length_take, List.length_drop]; omega
theorem sec_byt {S : DS} (h : S.Ok) (i : Nat) : Byt (sec S.bs i) := fun c hc => h.byt c (List.mem_of_mem_drop (List.mem_of_mem_take hc))
theorem sec_at {S : DS} (h : S.Ok) {i : Nat} (hi : i < S.n) {w : World} {l : Nat} {t : TypeId} (hl : w.heap[l]? = some (.cells (S.bs.map bv).toArray t (0, 0))) : w.rangeAt l (i * 16) ((sec S.bs i).map bv) := by
  intro j v hv
  have hj : j < 16 := by have := (List.getElem?_eq_some_iff.1 hv).1; rw [List.length_map, sec_len h hi] at this; exact this
  refine row_cell hl _ _ ?_
  rw [List.getElem?_toArray, List.getElem?_map] at *
  unfold sec at hv
  rw [List.getElem?_take, if_pos hj, List.getElem?_drop] at hv
  rw [show i * 16 + j = 16 * i + j by omega]
  exact hv
theorem zero58 : (Tryd.prog.info? 77).map (fun i => (i.zero, i.size, i.bytes)) = some (some (.agg (List.replicate 16 (Value.int .u8 0)).toArray), 16, 16) := by kernel_rfl
set_option maxHeartbeats 1000000 in
theorem offread_any (x : Int) (w : World) : Calls Tryd.prog 70 #[.agg #[], .int .i64 x] w fun e w' => e = .returned (.tuple #[.slice none 0 0, .int .i64 32]) ∧ Below w.heap.size w w' := by
  go_enter Tryd.func70, Tryd.ntmps70
  go_wp2
  go_ret2
  exact ⟨rfl, (Below.refl _ _).alloc (Nat.le_refl _) _⟩
set_option maxHeartbeats 1000000 in
theorem offwrite_any (x : Int) (v : Value) (w : World) : Calls Tryd.prog 71 #[.agg #[], .int .i64 x, v] w fun e w' => e = .returned (.int .i64 32) ∧ Below w.heap.size w w' := by
  go_enter Tryd.func71, Tryd.ntmps71
  go_wp2
  go_ret
  exact ⟨rfl, (Below.refl _ _).alloc (Nat.le_refl _) _⟩
def inS (S : DS) (x : Int) : Bool := decide (0 ≤ x) && decide (x < (S.n : Int))
set_option maxHeartbeats 1000000 in
theorem has_any (d l : Nat) (S : DS) (x : Int) (w : World) (D : DkP w d l S) : Calls Tryd.prog 74 #[.agg #[.pointer (some ⟨d, 0, none⟩)], .int .i64 x] w fun e w' => e = .returned (.bool (inS S x)) ∧ Below w.heap.size w w' := by
  have B1 : Below w.heap.size w (w.alloc (.cells #[.pointer (some ⟨d, 0, none⟩)] 98)) := (Below.refl _ _).alloc (Nat.le_refl _) _
  have c3 := (D.below B1).cel.c3
  unfold inS
  by_cases h0 : 0 ≤ x
  · by_cases h1 : x < (S.n : Int)
    · rw [decide_eq_true h0, decide_eq_true h1]
      go_enter Tryd.func74, Tryd.ntmps74
      go_wp2
      go_ret
      exact ⟨rfl, B1⟩
    · rw [decide_eq_true h0, decide_eq_false h1]
      go_enter Tryd.func74, Tryd.ntmps74
      go_wp2
      go_ret
      exact ⟨rfl, B1⟩
  · rw [decide_eq_false h0]
    go_enter Tryd.func74, Tryd.ntmps74
    go_wp2
    go_ret
    exact ⟨rfl, B1⟩
set_option maxHeartbeats 1000000 in
theorem liveread_no (d l : Nat) (S : DS) (x : Int) (w : World) (D : DkP w d l S) (h : inS S x = false) : Calls Tryd.prog 72 #[.agg #[.pointer (some ⟨d, 0, none⟩)], .int .i64 x] w fun e w' => e = .returned (.tuple #[.slice none 0 0, .int .i64 31]) ∧ Below w.heap.size w w' := by
  have B1 : Below w.heap.size w (w.alloc (.cells #[.pointer (some ⟨d, 0, none⟩)] 98)) := (Below.refl _ _).alloc (Nat.le_refl _) _
  have K := has_any d l S x _ (D.below B1)
  rw [h] at K
  go_enter Tryd.func72, Tryd.ntmps72
  go_wp2_with (go_at_call 74; refine K.mono ?_; rintro e w1 ⟨rfl, b1⟩)
  go_ret2
  exact ⟨rfl, B1.trans (b1.mono B1.size)⟩
theorem size16 {zs : List Int} (h : zs.length = 16) : (zs.map bv).toArray.size = 16 := by simp [h]
theorem info58 {zs : List Int} (h : zs.length = 16) : (Tryd.prog.info? 77).map (·.size) = some (zs.map bv).toArray.size := by rw [size16 h]; kernel_rfl
theorem wpList_store58 {ops : Array Oper} {rest : List Oper} {o : Oper} {a : Act} {w : World} {Q : Exit → Act → World → Prop} (hgd : o.guard = none) (x y : Operand) (ho : o.op = .store 77 x y)
    (zs : List Int) (hz : zs.length = 16) (c : Array Value) (hc : c.size = 16) (hx : a.eval x = .pointer (some ⟨w.heap.size, 0, none⟩)) (hy : a.eval y = .agg (zs.map bv).toArray)
    (h : wpList Tryd.prog ops Q rest (a.put o.dst undef) (w.alloc (.cells (zs.map bv).toArray 77))) : wpList Tryd.prog ops Q (o :: rest) a (w.alloc (.cells c 77)) :=
  wpList_plain hgd fun K hK => by
    unfold Oper.wp execOp
    simp only [ho, hx, hy, Sem.run_bind]
    rw [run_storeAt_new w 77 c _ (info58 hz) (by rw [hc, size16 hz]) (all_oneCell_toArray (bv_one _))]
    simp only [Result.andThen_ok, Sem.run_pure]
    exact hK _ _ h
set_option maxHeartbeats 1000000 in
theorem liveread_ok (d l : Nat) (S : DS) (i : Nat) (w : World) (D : DkP w d l S) (hi : i < S.n) : Calls Tryd.prog 72 #[.agg #[.pointer (some ⟨d, 0, none⟩)], .int .i64 (i : Int)] w fun e w' => ∃ g, e = .returned (.tuple #[.slice (some ⟨g, 0, none⟩) 16 16, .int .i64 0]) ∧ w.heap.size ≤ g ∧ w'.heap[g]? = some (.cells ((sec S.bs i).map bv).toArray 77 (0, 0)) ∧ Below w.heap.size w w' := by
  have B1 : Below w.heap.size w (w.alloc (.cells #[.pointer (some ⟨d, 0, none⟩)] 98)) := (Below.refl _ _).alloc (Nat.le_refl _) _
  have K := has_any d l S i _ (D.below B1)
  have h : inS S (i : Int) = true := by unfold inS; simp; omega
  rw [h] at K
  have hiI : (i : Int) < (S.n : Int) := by omega
  have X0 : (w.alloc (.cells #[.pointer (some ⟨d, 0, none⟩)] 98)).heap[w.heap.size]? = _ := World.alloc_heap_new _ _
  have hsl := sec_len D.ok hi
  go_enter Tryd.func72, Tryd.ntmps72
  go_wp2_with (first
    | (go_at_call 74; refine K.mono ?_; rintro e w1 ⟨rfl, b1⟩; have D1 := (D.below B1).below b1; have c3 := D1.cel.c3; have x0 := row_cell ((b1.block _ (row_lt X0)).trans X0) 0 (.pointer (some ⟨d, 0, none⟩)) rfl; have b2 := B1.trans (b1.mono B1.size))
    | ((with_reducible show wpList _ _ _ (Oper.mk _ (Op.load 77 _) _ _ _ _ :: _) _ _); refine wpList_load_mid rfl 77 _ rfl l (i * 16) rfl ((sec S.bs i).map bv) _ (sec_at D1.ok hi D1.lst) Tryd.underlying77 rfl (by rw [List.length_map, hsl]; kernel_rfl) ?_)
    | ((with_reducible show wpList _ _ _ (Oper.mk _ (Op.store 77 _ _) _ _ _ _ :: _) _ _); refine wpList_store58 rfl _ _ rfl (sec S.bs i) hsl _ rfl rfl rfl ?_))
  go_ret2
  exact ⟨w1.heap.size, rfl, b2.size, World.alloc_heap_new _ _, b2.alloc b2.size _⟩
set_option maxHeartbeats 1000000 in
theorem read_dead (d l : Nat) (S : DS) (x : Int) (w : World) (D : DkP w d l S) (hg : S.gone = true) : Calls Tryd.prog 41 #[.pointer (some ⟨d, 0, none⟩), .int .i64 x] w fun e w' => e = .returned (.tuple #[.slice none 0 0, .int .i64 32]) ∧ Below w.heap.size w w' := by
  have K := who_any d l S w D
  rw [hg] at K
  simp only [if_true] at K
  go_enter Tryd.func41, Tryd.ntmps41
  go_wp2_with (first
    | (go_at_call 50; refine K.mono ?_; rintro e w1 ⟨rfl, b1⟩)
    | (go_at_call 70; refine (offread_any x _).mono ?_; rintro e w2 ⟨rfl, b2⟩))
  go_ret2
  exact ⟨rfl, b1.trans (b2.mono b1.size)⟩
set_option maxHeartbeats 1000000 in
theorem read_no (d l : Nat) (S : DS) (x : Int) (w : World) (D : DkP w d l S) (hg : S.gone = false) (h : inS S x = false) : Calls Tryd.prog 41 #[.pointer (some ⟨d, 0, none⟩), .int .i64 x] w fun e w' => e = .returned (.tuple #[.slice none 0 0, .int .i64 31]) ∧ Below w.heap.size w w' := by
  have K := who_any d l S w D
  rw [hg] at K
  simp only [Bool.false_eq_true, if_false] at K
  go_enter Tryd.func41, Tryd.ntmps41
  go_wp2_with (first
    | (go_at_call 50; refine K.mono ?_; rintro e w1 ⟨rfl, b1⟩)
    | (go_at_call 72; refine (liveread_no d l S x _ (D.below b1) h).mono ?_; rintro e w2 ⟨rfl, b2⟩))
  go_ret2
  exact ⟨rfl, b1.trans (b2.mono b1.size)⟩
set_option maxHeartbeats 1000000 in
theorem read_ok (d l : Nat) (S : DS) (i : Nat) (w : World) (D : DkP w d l S) (hg : S.gone = false) (hi : i < S.n) : Calls Tryd.prog 41 #[.pointer (some ⟨d, 0, none⟩), .int .i64 (i : Int)] w fun e w' => ∃ g, e = .returned (.tuple #[.slice (some ⟨g, 0, none⟩) 16 16, .int .i64 0]) ∧ w.heap.size ≤ g ∧ w'.heap[g]? = some (.cells ((sec S.bs i).map bv).toArray 77 (0, 0)) ∧ Below w.heap.size w w' := by
  have K := who_any d l S w D
  rw [hg] at K
  simp only [Bool.false_eq_true, if_false] at K
  go_enter Tryd.func41, Tryd.ntmps41
  go_wp2_with (first
    | (go_at_call 50; refine K.mono ?_; rintro e w1 ⟨rfl, b1⟩)
    | (go_at_call 72; refine (liveread_ok d l S i _ (D.below b1) hi).mono ?_; rintro e w2 ⟨g, rfl, hg2, hh2, b2⟩))
  go_ret2
  exact ⟨g, rfl, Nat.le_trans b1.size hg2, hh2, b1.trans (b2.mono b1.size)⟩
end Go.Proofs.YtaacggbfoejjhaaDoor.D
