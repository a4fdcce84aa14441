/-
  Package bag: the document's Put.
-/
import Derived.Test.YtoppecppmjpgiaaBhG
import Derived.Deep.Cut
namespace Go.Proofs.Ytoppecppmjpgiaa
open Go.ChangeShapes Go.WideShapes Go.ChangeAt Go.RowKit Go.Maps
set_option linter.unusedVariables false
set_option linter.unusedSimpArgs false

def refC (r : Nat) (a : Option Addr) : Nat → Prop := fun q => q = r ∨ atL a q
section
variable {W W1 : World} {r : Nat} {next : Int} {a a' : Option Addr} {n c n' c' : Nat} {ds ds' : List DG} {la : Option Addr} {m lc : Nat} {ls : List LK}
theorem RAt.gr (R : RAt W r next a n c ds la m lc ls) : ∀ g off, a = some ⟨g, off, none⟩ → g ≠ r := fun g off e => by
  have L := R.lst
  rw [e] at L
  exact L.ne_cells R.obj (by decide)
theorem RAt.gl (R : RAt W r next a n c ds la m lc ls) : ∀ g off, la = some ⟨g, off, none⟩ → ¬ atL a g := by
  rintro g off e ⟨o, e'⟩
  obtain ⟨cur, h⟩ := R.typ g off e
  have L := R.lst
  rw [e'] at L
  exact L.ne_cells h (by decide) rfl
theorem RAt.lkLt (R : RAt W r next a n c ds la m lc ls) : ∀ g off, la = some ⟨g, off, none⟩ → g < W.heap.size := fun g off e => by
  obtain ⟨cur, h⟩ := R.typ g off e
  exact row_lt h
theorem RAt.of_blocks (R : RAt W r next a n c ds la m lc ls) (hs : W.heap.size ≤ W1.heap.size) (h1 : W1.heap[r]? = W.heap[r]?) (h2 : ∀ q, atL a q → W1.heap[q]? = W.heap[q]?) (h3 : ∀ g off, la = some ⟨g, off, none⟩ → W1.heap[g]? = W.heap[g]?) : RAt W1 r next a n c ds la m lc ls :=
  ⟨h1.trans R.obj, R.lst.of_block fun g off e => h2 g ⟨off, e⟩, R.lks.of_block hs h3, fun g off e => (R.typ g off e).imp fun cur h => (h3 g off e).trans h⟩
theorem RAt.drew (R : RAt W r next a n c ds la m lc ls) : RAt W.drew r next a n c ds la m lc ls := R.of_blocks (Nat.le_refl _) rfl (fun _ _ => rfl) (fun _ _ _ => rfl)
theorem RAt.setNext (R : RAt W r next a n c ds la m lc ls) (z : Int) : RAt (W.setCell ⟨r, 0, none⟩ (.int .i64 z)) r z a n c ds la m lc ls :=
  ⟨set_row R.obj 0 _, R.lst.of_block fun g off e => set_far rfl (R.gr g off e) _ _, R.lks.of_block (by simp [World.setCell]) fun g off e => set_far rfl (R.ne g off e) _ _, fun g off e => (R.typ g off e).imp fun cur h => (set_far rfl (R.ne g off e) _ _).trans h⟩
theorem RAt.setList (R : RAt W r next a n c ds la m lc ls) (o : Only (atL a) W W1) (L : Lst W1 a' n' c' ds') (hg : ∀ g off, a' = some ⟨g, off, none⟩ → g ≠ r) : RAt (W1.setCell ⟨r, 1, none⟩ (.slice a' n' c')) r next a' n' c' ds' la m lc ls := by
  have hb : W1.heap[r]? = W.heap[r]? := o.block r (row_lt R.obj) (fun ⟨off, e⟩ => R.gr r off e rfl)
  have hl : ∀ g off, la = some ⟨g, off, none⟩ → (W1.setCell ⟨r, 1, none⟩ (.slice a' n' c')).heap[g]? = W.heap[g]? := fun g off e => (set_far rfl (R.ne g off e) _ _).trans (o.block g (R.lkLt g off e) (R.gl g off e))
  exact ⟨set_row (hb.trans R.obj) 1 _, L.of_block fun g off e => set_far rfl (hg g off e) _ _, R.lks.of_block (by simpa [World.setCell] using o.size) hl, fun g off e => (R.typ g off e).imp fun cur h => (hl g off e).trans h⟩
end
theorem wpList_wanted {P : Program} {ops : Array Oper} {rest : List Oper} {o : Oper} {A : Act} {W : World} {Q : Exit → Act → World → Prop} (hw : Region.wanted o (yielded ops A.tmps) = true) (v : Value) (hr : (execOp A.eval o).run P W = .ok (.value v) W) (h : wpList P ops Q rest (A.put o.dst v) W) : wpList P ops Q (o :: rest) A W := by
  unfold wpList
  rw [if_pos hw]
  left
  unfold Oper.wp
  rw [hr]
  exact h
theorem exec_eq2 {o : Oper} {ρ : Operand → Value} {x y : Operand} {p q : Int} {X : World} {b : Bool} (ho : o.op = .binOp .eql 2 x y 2) (hx : ρ x = .int .i64 p) (hy : ρ y = .int .i64 q) (h : (p == q) = b) : (execOp ρ o).run Try.prog X = .ok (.value (.bool b)) X := by
  unfold execOp
  rw [ho]
  subst h
  go_simp
set_option maxHeartbeats 4000000 in
set_option maxRecDepth 100000 in
theorem rput_ok (r : Nat) (next : Int) (a : Option Addr) (n cap : Nat) (ds : List DG) (la : Option Addr) (m lc : Nat) (ls : List LK) (x y : Int) (s : ByteArray) (w : World) (R : RAt w r next a n cap ds la m lc ls) (hc : idxK (eqK ⟨min x y, max x y⟩) ls = -1) (hn : n < 65536) (hs0 : 0 ≤ next) (hs : next < 4611686018427387904) :
    Calls Try.prog 27 #[.pointer (some ⟨r, 0, none⟩), .int .i64 x, .int .i64 y, .string s] w fun e w' => e = .returned (.tuple #[.int .i64 (next + 1), .int .i64 0]) ∧ Only (refC r a) w w' ∧ ∃ a' cap', RAt w' r (next + 1) a' (n + 1) cap' (ds ++ [⟨next + 1, x, y, s⟩]) la m lc ls ∧ (∀ g off, a' = some ⟨g, off, none⟩ → (∃ o, a = some ⟨g, o, none⟩) ∨ w.heap.size ≤ g) := by
  have K := severed_any r next a n cap ds la m lc ls x y w R
  rw [hc] at K
  have hn1 : ¬ (65536 : Int) ≤ (n : Int) := by omega
  have hn2 : decide ((65536 : Int) ≤ (n : Int)) = false := by simp only [decide_eq_false_iff_not]; exact hn1
  have hs1 : Hid ((next == 4611686018427387904) = false) := ⟨beq_eq_false_iff_ne.2 (by omega)⟩
  have hwr : IntKind.i64.wrap (next + 1) = next + 1 := by rw [IntKind.wrap_i64]; omega
  clear hs hs0
  go_enter Try.func27, Try.ntmps27
  go_wp2_with (first | ((with_reducible show wpList _ _ _ (Oper.mk _ (Op.binOp BinOp.eql 2 (Operand.tmp 27) _ 2) _ _ _ _ :: _) _ _); go_must (refine wpList_wanted (by first | rfl | (simp [Region.wanted, yielded, hn1, hn2]; done) | go_simp) (.bool false) (exec_eq2 rfl rfl rfl hs1.out) ?_)) | go_at_call 46; go_must (refine K.mono ?_; rintro e w1 ⟨rfl, b1⟩; clear K; have B4 := R.below b1; have c1 := row_cell B4.obj 1 (.slice a n cap) rfl; have c0 := row_cell B4.obj 0 (.int .i64 next) rfl; have f0 := row_free B4.obj 0))
  have B5 := B4.setNext (next + 1)
  have O5 : Only (refC r a) w _ := ((Only.of_below b1).setCell (fun _ => .inl rfl) 0 (.int .i64 (next + 1)) : Only (refC r a) w (w1.setCell ⟨r, 0, none⟩ (.int .i64 (next + 1))))
  refine wp_region_any (by kernel_rfl) ?_
  change wpAny _ _ _ _ _ _ _ (World.drew _)
  obtain ⟨W5, hW5⟩ : ∃ X, World.drew (w1.setCell ⟨r, 0, none⟩ (.int .i64 (next + 1))) = X := ⟨_, rfl⟩
  have B5 := B5.drew
  have O5 := O5.drew
  rw [hW5] at B5 O5 ⊢
  clear hW5 c0 c1 f0 B4
  have c0 := row_cell B5.obj 0 _ rfl
  have c1 := row_cell B5.obj 1 _ rfl
  refine any_take 0 39 (.pointer (some ⟨r, 0, none⟩)) rfl rfl (by kernel_rfl) (by kernel_rfl) (by kernel_rfl) (fun _ _ _ h => h) (Or.inl ⟨by rfl, by intro w; go_simp⟩) ?_
  try simp only [Act.put, List.setIfInBounds_toArray, List.set_cons_zero, List.set_cons_succ]
  refine any_take 1 40 (.pointer (some ⟨r, 0, none⟩)) rfl rfl (by kernel_rfl) (by kernel_rfl) (by kernel_rfl) (fun _ _ _ h => h) (Or.inl ⟨by rfl, by intro w; go_simp⟩) ?_
  try simp only [Act.put, List.setIfInBounds_toArray, List.set_cons_zero, List.set_cons_succ]
  refine any_take 2 41 (.pointer (some ⟨r, 0, none⟩)) rfl rfl (by kernel_rfl) (by kernel_rfl) (by kernel_rfl) (fun _ _ _ h => h) (Or.inl ⟨by rfl, by intro w; go_simp⟩) ?_
  try simp only [Act.put, List.setIfInBounds_toArray, List.set_cons_zero, List.set_cons_succ]
  refine any_take 3 42 (.pointer (some ⟨r, 0, none⟩)) rfl rfl (by kernel_rfl) (by kernel_rfl) (by kernel_rfl) (fun _ _ _ h => h) (Or.inl ⟨by rfl, by intro w; go_simp⟩) ?_
  try simp only [Act.put, List.setIfInBounds_toArray, List.set_cons_zero, List.set_cons_succ]
  refine any_take 4 43 (.pointer (some ⟨r, 1, none⟩)) rfl rfl (by kernel_rfl) (by kernel_rfl) (by kernel_rfl) (fun _ _ _ h => h) (Or.inl ⟨by rfl, by intro w; go_simp⟩) ?_
  try simp only [Act.put, List.setIfInBounds_toArray, List.set_cons_zero, List.set_cons_succ]
  refine any_take 6 45 (.pointer (some ⟨r, 0, none⟩)) rfl rfl (by kernel_rfl) (by kernel_rfl) (by kernel_rfl) (fun _ _ _ h => h) (Or.inl ⟨by rfl, by intro w; go_simp⟩) ?_
  try simp only [Act.put, List.setIfInBounds_toArray, List.set_cons_zero, List.set_cons_succ]
  refine any_take 7 46 (.pointer (some ⟨r, 0, none⟩)) rfl rfl (by kernel_rfl) (by kernel_rfl) (by kernel_rfl) (fun _ _ _ h => h) (Or.inl ⟨by rfl, by intro w; go_simp⟩) ?_
  try simp only [Act.put, List.setIfInBounds_toArray, List.set_cons_zero, List.set_cons_succ]
  refine any_take 8 47 (.pointer (some ⟨r, 0, none⟩)) rfl rfl (by kernel_rfl) (by kernel_rfl) (by kernel_rfl) (fun _ _ _ h => h) (Or.inl ⟨by rfl, by intro w; go_simp⟩) ?_
  try simp only [Act.put, List.setIfInBounds_toArray, List.set_cons_zero, List.set_cons_succ]
  refine any_take 9 48 (.pointer (some ⟨r, 0, none⟩)) rfl rfl (by kernel_rfl) (by kernel_rfl) (by kernel_rfl) (fun _ _ _ h => h) (Or.inl ⟨by rfl, by intro w; go_simp⟩) ?_
  try simp only [Act.put, List.setIfInBounds_toArray, List.set_cons_zero, List.set_cons_succ]
  refine any_take 11 50 (.int .i64 x) rfl rfl (by kernel_rfl) (by kernel_rfl) (by kernel_rfl) (fun _ _ _ h => h) (Or.inl ⟨by rfl, by intro w; go_simp⟩) ?_
  try simp only [Act.put, List.setIfInBounds_toArray, List.set_cons_zero, List.set_cons_succ]
  refine any_take 12 51 (.int .i64 y) rfl rfl (by kernel_rfl) (by kernel_rfl) (by kernel_rfl) (fun _ _ _ h => h) (Or.inl ⟨by rfl, by intro w; go_simp⟩) ?_
  try simp only [Act.put, List.setIfInBounds_toArray, List.set_cons_zero, List.set_cons_succ]
  refine any_take 13 52 (.string s) rfl rfl (by kernel_rfl) (by kernel_rfl) (by kernel_rfl) (fun _ _ _ h => h) (Or.inl ⟨by rfl, by intro w; go_simp⟩) ?_
  try simp only [Act.put, List.setIfInBounds_toArray, List.set_cons_zero, List.set_cons_succ]
  refine wpAny_ready (rs := [5, 10]) (by kernel_rfl) (by simp) ?_
  refine AllReady.cons rfl (fun K hK => ?_) (AllReady.cons rfl (fun K hK => ?_) AllReady.nil)
  · replace hK : Shut _ := hK
    go_simp
    go_wp2
    refine hK.out _ _ ?_
    clear hK
    try simp only [Act.put, List.setIfInBounds_toArray, List.set_cons_zero, List.set_cons_succ]
    refine wpAny_ready (rs := [10]) (by kernel_rfl) (by simp) ?_
    refine AllReady.cons rfl (fun K hK => ?_) AllReady.nil
    replace hK : Shut _ := hK
    go_simp
    go_wp2
    refine hK.out _ _ ?_
    clear hK
    try simp only [Act.put, List.setIfInBounds_toArray, List.set_cons_zero, List.set_cons_succ]
    refine any_take 14 53 (dgv ⟨next + 1, x, y, s⟩) rfl rfl (by kernel_rfl) (by kernel_rfl) (by kernel_rfl) (fun _ _ _ h => h) (Or.inl ⟨by rfl, by intro w; go_simp; rfl⟩) ?_
    try simp only [Act.put, List.setIfInBounds_toArray, List.set_cons_zero, List.set_cons_succ]
    refine wpAny_ready (rs := [15]) (by kernel_rfl) (by simp) ?_
    refine AllReady.cons rfl (fun K hK => ?_) AllReady.nil
    refine wp_one33 _ rfl ⟨next + 1, x, y, s⟩ rfl ?_
    refine hK _ _ ?_
    clear hK
    try simp only [Act.put, List.setIfInBounds_toArray, List.set_cons_zero, List.set_cons_succ]
    have r6 := range_new W5 (DG.cells ⟨next + 1, x, y, s⟩) 33
    have B6 := B5.below ((Below.refl _ _).alloc (Nat.le_refl _) (.cells (DG.cells ⟨next + 1, x, y, s⟩).toArray 33))
    have O6 := O5.alloc (.cells (DG.cells ⟨next + 1, x, y, s⟩).toArray 33)
    have L6 := B6.lst
    obtain ⟨w6, hw6⟩ : ∃ X, W5.alloc (.cells (DG.cells ⟨next + 1, x, y, s⟩).toArray 33) = X := ⟨_, rfl⟩
    rw [hw6] at r6 B6 O6 L6 ⊢
    clear hw6
    refine wpAny_ready (rs := [16]) (by kernel_rfl) (by simp) ?_
    refine AllReady.cons rfl (fun K hK => ?_) AllReady.nil
    refine wp_append_lst _ _ rfl rfl rfl L6 r6 (by omega) ?_
    intro a' cap' w7 L7 hg7 o7
    refine hK _ _ ?_
    clear hK
    try simp only [Act.put, List.setIfInBounds_toArray, List.set_cons_zero, List.set_cons_succ]
    have hgb : ∀ g off, a' = some ⟨g, off, none⟩ → g ≠ r := fun g off e => by rcases hg7 g off e with ⟨o, e'⟩ | h'; (· exact B6.gr g o e'); (· have := row_lt B6.obj; omega)
    have B8 := B6.setList o7 L7 hgb
    have hb7 : w7.heap[r]? = w6.heap[r]? := o7.block r (row_lt B6.obj) (fun ⟨off, e⟩ => B6.gr r off e rfl)
    have c7 := row_cell (hb7.trans B6.obj) 1 _ rfl
    have f7 := row_free (hb7.trans B6.obj) 1
    have c8 := row_cell B8.obj 0 _ rfl
    refine any_take 17 56 (.pointer (some ⟨r, 0, none⟩)) rfl rfl (by kernel_rfl) (by kernel_rfl) (by kernel_rfl) (fun _ _ _ h => h) (Or.inl ⟨by rfl, by intro w; go_simp⟩) ?_
    try simp only [Act.put, List.setIfInBounds_toArray, List.set_cons_zero, List.set_cons_succ]
    refine any_take 18 57 (.pointer (some ⟨r, 0, none⟩)) rfl rfl (by kernel_rfl) (by kernel_rfl) (by kernel_rfl) (fun _ _ _ h => h) (Or.inl ⟨by rfl, by intro w; go_simp⟩) ?_
    try simp only [Act.put, List.setIfInBounds_toArray, List.set_cons_zero, List.set_cons_succ]
    refine any_take 19 58 (.pointer (some ⟨r, 1, none⟩)) rfl rfl (by kernel_rfl) (by kernel_rfl) (by kernel_rfl) (fun _ _ _ h => h) (Or.inl ⟨by rfl, by intro w; go_simp⟩) ?_
    try simp only [Act.put, List.setIfInBounds_toArray, List.set_cons_zero, List.set_cons_succ]
    refine wpAny_ready (rs := [20]) (by kernel_rfl) (by simp) ?_
    refine AllReady.cons rfl (fun K hK => ?_) AllReady.nil
    replace hK : Shut _ := hK
    go_simp
    go_wp2
    refine hK.out _ _ ?_
    clear hK
    try simp only [Act.put, List.setIfInBounds_toArray, List.set_cons_zero, List.set_cons_succ]
    refine wpAny_done (by kernel_rfl) ?_ _
    go_wp2
    go_ret2
    refine ⟨rfl, ((O6.trans (o7.mono fun q _ hq => .inr hq)).setCell (fun _ => .inl rfl) _ _), a', cap', B8, fun g off e => (hg7 g off e).imp id fun h' => Nat.le_trans O6.size h'⟩
  · replace hK : Shut _ := hK
    go_simp
    go_wp2
    refine hK.out _ _ ?_
    clear hK
    try simp only [Act.put, List.setIfInBounds_toArray, List.set_cons_zero, List.set_cons_succ]
    refine any_take 14 53 (dgv ⟨next + 1, x, y, s⟩) rfl rfl (by kernel_rfl) (by kernel_rfl) (by kernel_rfl) (fun _ _ _ h => h) (Or.inl ⟨by rfl, by intro w; go_simp; rfl⟩) ?_
    try simp only [Act.put, List.setIfInBounds_toArray, List.set_cons_zero, List.set_cons_succ]
    refine wpAny_ready (rs := [5, 15]) (by kernel_rfl) (by simp) ?_
    refine AllReady.cons rfl (fun K hK => ?_) (AllReady.cons rfl (fun K hK => ?_) AllReady.nil)
    · replace hK : Shut _ := hK
      go_simp
      go_wp2
      refine hK.out _ _ ?_
      clear hK
      try simp only [Act.put, List.setIfInBounds_toArray, List.set_cons_zero, List.set_cons_succ]
      refine wpAny_ready (rs := [15]) (by kernel_rfl) (by simp) ?_
      refine AllReady.cons rfl (fun K hK => ?_) AllReady.nil
      refine wp_one33 _ rfl ⟨next + 1, x, y, s⟩ rfl ?_
      refine hK _ _ ?_
      clear hK
      try simp only [Act.put, List.setIfInBounds_toArray, List.set_cons_zero, List.set_cons_succ]
      have r6 := range_new W5 (DG.cells ⟨next + 1, x, y, s⟩) 33
      have B6 := B5.below ((Below.refl _ _).alloc (Nat.le_refl _) (.cells (DG.cells ⟨next + 1, x, y, s⟩).toArray 33))
      have O6 := O5.alloc (.cells (DG.cells ⟨next + 1, x, y, s⟩).toArray 33)
      have L6 := B6.lst
      obtain ⟨w6, hw6⟩ : ∃ X, W5.alloc (.cells (DG.cells ⟨next + 1, x, y, s⟩).toArray 33) = X := ⟨_, rfl⟩
      rw [hw6] at r6 B6 O6 L6 ⊢
      clear hw6
      refine wpAny_ready (rs := [16]) (by kernel_rfl) (by simp) ?_
      refine AllReady.cons rfl (fun K hK => ?_) AllReady.nil
      refine wp_append_lst _ _ rfl rfl rfl L6 r6 (by omega) ?_
      intro a' cap' w7 L7 hg7 o7
      refine hK _ _ ?_
      clear hK
      try simp only [Act.put, List.setIfInBounds_toArray, List.set_cons_zero, List.set_cons_succ]
      have hgb : ∀ g off, a' = some ⟨g, off, none⟩ → g ≠ r := fun g off e => by rcases hg7 g off e with ⟨o, e'⟩ | h'; (· exact B6.gr g o e'); (· have := row_lt B6.obj; omega)
      have B8 := B6.setList o7 L7 hgb
      have hb7 : w7.heap[r]? = w6.heap[r]? := o7.block r (row_lt B6.obj) (fun ⟨off, e⟩ => B6.gr r off e rfl)
      have c7 := row_cell (hb7.trans B6.obj) 1 _ rfl
      have f7 := row_free (hb7.trans B6.obj) 1
      have c8 := row_cell B8.obj 0 _ rfl
      refine any_take 17 56 (.pointer (some ⟨r, 0, none⟩)) rfl rfl (by kernel_rfl) (by kernel_rfl) (by kernel_rfl) (fun _ _ _ h => h) (Or.inl ⟨by rfl, by intro w; go_simp⟩) ?_
      try simp only [Act.put, List.setIfInBounds_toArray, List.set_cons_zero, List.set_cons_succ]
      refine any_take 18 57 (.pointer (some ⟨r, 0, none⟩)) rfl rfl (by kernel_rfl) (by kernel_rfl) (by kernel_rfl) (fun _ _ _ h => h) (Or.inl ⟨by rfl, by intro w; go_simp⟩) ?_
      try simp only [Act.put, List.setIfInBounds_toArray, List.set_cons_zero, List.set_cons_succ]
      refine any_take 19 58 (.pointer (some ⟨r, 1, none⟩)) rfl rfl (by kernel_rfl) (by kernel_rfl) (by kernel_rfl) (fun _ _ _ h => h) (Or.inl ⟨by rfl, by intro w; go_simp⟩) ?_
      try simp only [Act.put, List.setIfInBounds_toArray, List.set_cons_zero, List.set_cons_succ]
      refine wpAny_ready (rs := [20]) (by kernel_rfl) (by simp) ?_
      refine AllReady.cons rfl (fun K hK => ?_) AllReady.nil
      replace hK : Shut _ := hK
      go_simp
      go_wp2
      refine hK.out _ _ ?_
      clear hK
      try simp only [Act.put, List.setIfInBounds_toArray, List.set_cons_zero, List.set_cons_succ]
      refine wpAny_done (by kernel_rfl) ?_ _
      go_wp2
      go_ret2
      refine ⟨rfl, ((O6.trans (o7.mono fun q _ hq => .inr hq)).setCell (fun _ => .inl rfl) _ _), a', cap', B8, fun g off e => (hg7 g off e).imp id fun h' => Nat.le_trans O6.size h'⟩
    · refine wp_one33 _ rfl ⟨next + 1, x, y, s⟩ rfl ?_
      refine hK _ _ ?_
      clear hK
      try simp only [Act.put, List.setIfInBounds_toArray, List.set_cons_zero, List.set_cons_succ]
      have r6 := range_new W5 (DG.cells ⟨next + 1, x, y, s⟩) 33
      have B6 := B5.below ((Below.refl _ _).alloc (Nat.le_refl _) (.cells (DG.cells ⟨next + 1, x, y, s⟩).toArray 33))
      have O6 := O5.alloc (.cells (DG.cells ⟨next + 1, x, y, s⟩).toArray 33)
      have L6 := B6.lst
      obtain ⟨w6, hw6⟩ : ∃ X, W5.alloc (.cells (DG.cells ⟨next + 1, x, y, s⟩).toArray 33) = X := ⟨_, rfl⟩
      rw [hw6] at r6 B6 O6 L6 ⊢
      clear hw6
      have c1 := row_cell B6.obj 1 _ rfl
      refine wpAny_ready (rs := [5]) (by kernel_rfl) (by simp) ?_
      refine AllReady.cons rfl (fun K hK => ?_) AllReady.nil
      replace hK : Shut _ := hK
      go_simp
      go_wp2
      refine hK.out _ _ ?_
      clear hK
      try simp only [Act.put, List.setIfInBounds_toArray, List.set_cons_zero, List.set_cons_succ]
      refine wpAny_ready (rs := [16]) (by kernel_rfl) (by simp) ?_
      refine AllReady.cons rfl (fun K hK => ?_) AllReady.nil
      refine wp_append_lst _ _ rfl rfl rfl L6 r6 (by omega) ?_
      intro a' cap' w7 L7 hg7 o7
      refine hK _ _ ?_
      clear hK
      try simp only [Act.put, List.setIfInBounds_toArray, List.set_cons_zero, List.set_cons_succ]
      have hgb : ∀ g off, a' = some ⟨g, off, none⟩ → g ≠ r := fun g off e => by rcases hg7 g off e with ⟨o, e'⟩ | h'; (· exact B6.gr g o e'); (· have := row_lt B6.obj; omega)
      have B8 := B6.setList o7 L7 hgb
      have hb7 : w7.heap[r]? = w6.heap[r]? := o7.block r (row_lt B6.obj) (fun ⟨off, e⟩ => B6.gr r off e rfl)
      have c7 := row_cell (hb7.trans B6.obj) 1 _ rfl
      have f7 := row_free (hb7.trans B6.obj) 1
      have c8 := row_cell B8.obj 0 _ rfl
      refine any_take 17 56 (.pointer (some ⟨r, 0, none⟩)) rfl rfl (by kernel_rfl) (by kernel_rfl) (by kernel_rfl) (fun _ _ _ h => h) (Or.inl ⟨by rfl, by intro w; go_simp⟩) ?_
      try simp only [Act.put, List.setIfInBounds_toArray, List.set_cons_zero, List.set_cons_succ]
      refine any_take 18 57 (.pointer (some ⟨r, 0, none⟩)) rfl rfl (by kernel_rfl) (by kernel_rfl) (by kernel_rfl) (fun _ _ _ h => h) (Or.inl ⟨by rfl, by intro w; go_simp⟩) ?_
      try simp only [Act.put, List.setIfInBounds_toArray, List.set_cons_zero, List.set_cons_succ]
      refine any_take 19 58 (.pointer (some ⟨r, 1, none⟩)) rfl rfl (by kernel_rfl) (by kernel_rfl) (by kernel_rfl) (fun _ _ _ h => h) (Or.inl ⟨by rfl, by intro w; go_simp⟩) ?_
      try simp only [Act.put, List.setIfInBounds_toArray, List.set_cons_zero, List.set_cons_succ]
      refine wpAny_ready (rs := [20]) (by kernel_rfl) (by simp) ?_
      refine AllReady.cons rfl (fun K hK => ?_) AllReady.nil
      replace hK : Shut _ := hK
      go_simp
      go_wp2
      refine hK.out _ _ ?_
      clear hK
      try simp only [Act.put, List.setIfInBounds_toArray, List.set_cons_zero, List.set_cons_succ]
      refine wpAny_done (by kernel_rfl) ?_ _
      go_wp2
      go_ret2
      refine ⟨rfl, ((O6.trans (o7.mono fun q _ hq => .inr hq)).setCell (fun _ => .inl rfl) _ _), a', cap', B8, fun g off e => (hg7 g off e).imp id fun h' => Nat.le_trans O6.size h'⟩
end Go.Proofs.Ytoppecppmjpgiaa
