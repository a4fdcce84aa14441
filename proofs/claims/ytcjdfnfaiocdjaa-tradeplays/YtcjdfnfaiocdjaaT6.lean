/-
  Package trade: what Play keeps from one ask to the next.
-/
import Derived.Test.YtcjdfnfaiocdjaaT4
import Derived.Test.YtcjdfnfaiocdjaaT5
namespace Go.Proofs.Ytcjdfnfaiocdjaa
open Go.ChangeShapes Go.WideShapes Go.ChangeAt Go.RowKit
set_option linter.unusedVariables false
set_option linter.unusedSimpArgs false

theorem Tri.of_block {W W' : World} {c : Nat} {v0 v1 v2 : Value} (h : Tri W c v0 v1 v2) (e : W'.heap[c]? = W.heap[c]?) (hs : W.heap.size ≤ W'.heap.size) : Tri W' c v0 v1 v2 :=
  ⟨(World.cell?_of_block (w := W) (a := ⟨c, 0, none⟩) e).trans h.c0, (World.cell?_of_block (w := W) (a := ⟨c, 1, none⟩) e).trans h.c1, (World.cell?_of_block (w := W) (a := ⟨c, 2, none⟩) e).trans h.c2,
   (World.frozen?_of_block (w := W) (a := ⟨c, 0, none⟩) e).trans h.f0, (World.frozen?_of_block (w := W) (a := ⟨c, 1, none⟩) e).trans h.f1, (World.frozen?_of_block (w := W) (a := ⟨c, 2, none⟩) e).trans h.f2, Nat.lt_of_lt_of_le h.lt hs⟩
theorem Tri.turn {W W' : World} {n c : Nat} {C C' : Nat → Prop} {v0 v1 v2 : Value} (h : Tri W c v0 v1 v2) (t : Turn n C C' W W') (hn : n ≤ c) (hC : ¬ C c) : Tri W' c v0 v1 v2 := h.of_block (t.keep c hn h.lt hC) t.size
theorem Tri.same {W W' : World} {n c : Nat} {C : Nat → Prop} {v0 v1 v2 : Value} (h : Tri W c v0 v1 v2) (s : Same n C W W') (hc : c < n) : Tri W' c v0 v1 v2 := h.of_block (s.block c h.lt (.inl hc)) s.size
theorem Tri.putObj {W : World} {c l : Nat} {v0 v1 v2 : Value} (h : Tri W c v0 v1 v2) (hn : c ≠ l) (o : Obj) : Tri (W.putObj l o) c v0 v1 v2 := h.of_block (World.putObj_heap_other hn) (by simp)
/-- A register stored into block k. -/
abbrev put3 (W : World) (k : Nat) (x y z : Value) : World := ((W.setCell ⟨k, 0, none⟩ x).setCell ⟨k, 1, none⟩ y).setCell ⟨k, 2, none⟩ z
theorem Tri.store {W : World} {k : Nat} {v0 v1 v2 : Value} (h : Tri W k v0 v1 v2) (x y z : Value) : Tri (put3 W k x y z) k x y z := by
  refine ⟨?_, ?_, ?_, by simpa using h.f0, by simpa using h.f1, by simpa using h.f2, by simpa using h.lt⟩
  · rw [World.cell?_setCell_other _ _ _ _ (by simp), World.cell?_setCell_other _ _ _ _ (by simp)]; exact World.cell?_setCell_same _ _ _ h.c0
  · rw [World.cell?_setCell_other _ _ _ _ (by simp)]; exact World.cell?_setCell_same _ _ _ ((World.cell?_setCell_other _ _ _ _ (by simp)).trans h.c1)
  · exact World.cell?_setCell_same _ _ _ (((World.cell?_setCell_other _ _ _ _ (by simp)).trans (World.cell?_setCell_other _ _ _ _ (by simp))).trans h.c2)
theorem put3_far {W : World} {k c : Nat} (h : c ≠ k) (x y z : Value) : (put3 W k x y z).heap[c]? = W.heap[c]? :=
  ((Below.heap_setCell _ _ _ _ h).trans (Below.heap_setCell _ _ _ _ h)).trans (Below.heap_setCell _ _ _ _ h)
theorem put3_size (W : World) (k : Nat) (x y z : Value) : (put3 W k x y z).heap.size = W.heap.size := by simp [put3, World.setCell]
theorem Tri.far {W : World} {k c : Nat} {v0 v1 v2 : Value} (h : Tri W c v0 v1 v2) (hk : c ≠ k) (x y z : Value) : Tri (put3 W k x y z) c v0 v1 v2 := h.of_block (put3_far hk x y z) (by rw [put3_size]; exact Nat.le_refl _)
theorem Same.put3 {n : Nat} {C : Nat → Prop} {A B : World} (h : Same n C A B) {k : Nat} (hp : n ≤ k) (hc : ¬ C k) (x y z : Value) : Same n C A (put3 B k x y z) :=
  ((h.setCell (p := ⟨k, 0, none⟩) hp hc x).setCell (p := ⟨k, 1, none⟩) hp hc y).setCell (p := ⟨k, 2, none⟩) hp hc z
theorem Below.put3 {n : Nat} {A B : World} (h : Below n A B) {k : Nat} (hp : n ≤ k) (x y z : Value) : Below n A (put3 B k x y z) :=
  ((h.setCell (p := ⟨k, 0, none⟩) hp x).setCell (p := ⟨k, 1, none⟩) hp y).setCell (p := ⟨k, 2, none⟩) hp z


/-- The register, what went each time, and the error. -/
structure PV where
  v : Int
  p : Int
  f : Int
  l : List Int
  e : Int
def play (v p f a b ra rb n : Int) : PV :=
  if (ends v p f a b ra rb).e ≠ 0 then ⟨0, 0, 0, [], (ends v p f a b ra rb).e⟩
  else if asks n = 0 then ⟨v, p, f, [], 0⟩
  else if (bal v p f b a rb ra).e ≠ 0 then ⟨0, 0, 0, [], (bal v p f b a rb ra).e⟩
  else ⟨(bal v p f b a rb ra).v, (bal v p f b a rb ra).p, (bal v p f b a rb ra).f, (bal v p f b a rb ra).n :: List.replicate (asks n - 1) 0, 0⟩
/-- Behind k asks, none of which had an error. -/
def pst (v p f a b ra rb : Int) (k : Nat) : PV :=
  if k = 0 then ⟨v, p, f, [], 0⟩ else ⟨(bal v p f b a rb ra).v, (bal v p f b a rb ra).p, (bal v p f b a rb ra).f, (bal v p f b a rb ra).n :: List.replicate (k - 1) 0, 0⟩
theorem pst_e (v p f a b ra rb : Int) (k : Nat) : (pst v p f a b ra rb k).e = 0 := by unfold pst; split <;> rfl
theorem pst_len (v p f a b ra rb : Int) (k : Nat) : (pst v p f a b ra rb k).l.length = k := by
  unfold pst
  split
  · simp_all
  · simp; omega
theorem play_end {v p f a b ra rb n : Int} (he : (ends v p f a b ra rb).e = 0) (h : asks n = 0 ∨ (bal v p f b a rb ra).e = 0) : play v p f a b ra rb n = pst v p f a b ra rb (asks n) := by
  unfold play pst
  rw [if_neg (by simp [he])]
  by_cases h0 : asks n = 0
  · rw [if_pos h0, if_pos h0]
  · rw [if_neg h0, if_neg h0, if_neg (by simp [h.resolve_left h0])]
theorem play_bad {v p f a b ra rb n : Int} (he : (ends v p f a b ra rb).e = 0) (hn : asks n ≠ 0) (h : (bal v p f b a rb ra).e ≠ 0) : play v p f a b ra rb n = ⟨0, 0, 0, [], (bal v p f b a rb ra).e⟩ := by
  unfold play
  rw [if_neg (by simp [he]), if_neg hn, if_pos h]
/-- The balance that is done at the ask number k. -/
def balK (v p f a b ra rb : Int) (k : Nat) : BV := bal (pst v p f a b ra rb k).v (pst v p f a b ra rb k).p (pst v p f a b ra rb k).f (trn (a, ra) (b, rb) k).1.1 (trn (a, ra) (b, rb) k).2.1 (trn (a, ra) (b, rb) k).1.2 (trn (a, ra) (b, rb) k).2.2
theorem balK_zero (v p f a b ra rb : Int) : balK v p f a b ra rb 0 = bal v p f b a rb ra := rfl
theorem balK_succ {v p f a b ra rb : Int} (h : (bal v p f b a rb ra).e = 0) (k : Nat) : balK v p f a b ra rb (k + 1) = ⟨(bal v p f b a rb ra).v, (bal v p f b a rb ra).p, (bal v p f b a rb ra).f, 0, 0⟩ := by
  obtain ⟨h1, h2⟩ := bal_twice h
  unfold balK
  rw [show pst v p f a b ra rb (k + 1) = ⟨(bal v p f b a rb ra).v, (bal v p f b a rb ra).p, (bal v p f b a rb ra).f, (bal v p f b a rb ra).n :: List.replicate k 0, 0⟩ from by unfold pst; rw [if_neg (by omega)]; simp]
  dsimp only
  unfold trn
  split
  · exact h1
  · exact h2
theorem balK_bad {v p f a b ra rb : Int} {k : Nat} (hk : k = 0 ∨ (bal v p f b a rb ra).e = 0) (h : (balK v p f a b ra rb k).e ≠ 0) : k = 0 ∧ (bal v p f b a rb ra).e = (balK v p f a b ra rb k).e := by
  cases k with
  | zero => exact ⟨rfl, rfl⟩
  | succ k => rw [balK_succ (hk.resolve_left (by omega))] at h; exact absurd rfl h
theorem balK_ok {v p f a b ra rb : Int} {k : Nat} (hk : k = 0 ∨ (bal v p f b a rb ra).e = 0) (h : (balK v p f a b ra rb k).e = 0) :
    (bal v p f b a rb ra).e = 0 ∧ pst v p f a b ra rb (k + 1) = ⟨(balK v p f a b ra rb k).v, (balK v p f a b ra rb k).p, (balK v p f a b ra rb k).f, (pst v p f a b ra rb k).l ++ [(balK v p f a b ra rb k).n], 0⟩ := by
  cases k with
  | zero =>
    rw [balK_zero] at h ⊢
    refine ⟨h, ?_⟩
    unfold pst
    simp
  | succ k =>
    have hb := hk.resolve_left (by omega)
    refine ⟨hb, ?_⟩
    rw [balK_succ hb]
    unfold pst
    rw [if_neg (by omega), if_neg (by omega)]
    simp only [Nat.add_sub_cancel, List.cons_append]
    rw [← List.replicate_succ']
theorem bal_n (v p f me pe rest told : Int) : -2147483647 ≤ (bal v p f me pe rest told).n ∧ (bal v p f me pe rest told).n ≤ 2147483647 := by
  rcases bal_cases v p f me pe rest told with h | h | h
  · rw [h]; simp
  · rw [h]; simp
  · obtain ⟨h1, h2, _⟩ := bal_ok h
    obtain ⟨r1, r2⟩ := ends_rng v p f me pe rest told
    have := tdiv2 ((ends v p f me pe rest told).b - (ends v p f me pe rest told).a)
    omega
theorem pst_bd (v p f a b ra rb : Int) (k i : Nat) : -9223372036854775808 ≤ (pst v p f a b ra rb k).l.getD i 0 ∧ (pst v p f a b ra rb k).l.getD i 0 ≤ 9223372036854775807 := by
  have hb := bal_n v p f b a rb ra
  unfold pst
  split
  · simp
  · cases i with
    | zero => simp; omega
    | succ i =>
      have : (List.replicate (k - 1) (0 : Int)).getD i 0 = 0 := by
        rw [List.getD_eq_getElem?_getD, List.getElem?_replicate]; split <;> rfl
      rw [List.getD_cons_succ, this]
      omega
structure PS (w : World) (k7 : Nat) (S : PV) (C : Nat → Prop) (W : World) : Prop where
  r : Tri W w.heap.size (.int .i64 S.v) (.int .i64 S.p) (.int .i64 S.f)
  o : Tri W (w.heap.size + 1) (.int .i64 0) (.int .i64 0) (.int .i64 0)
  e : One W k7 (.int .i64 S.e)
  l : Holds 2 1 W (k7 + 1) w.heap.size C S.l.length (S.l.map iv)
  b : Below w.heap.size w W
theorem PS.same {w W W' : World} {k7 M : Nat} {S : PV} {C : Nat → Prop} (h : PS w k7 S C W) (s : Same M C W W') (h7 : w.heap.size + 2 ≤ k7) (hM : k7 + 2 ≤ M) : PS w k7 S C W' :=
  ⟨h.r.same s (by omega), h.o.same s (by omega), h.e.same s (by omega), h.l.same s (by omega), Below.same h.b s (by omega) (Nat.le_refl _)⟩
theorem PS.grow {w W Wm W1 : World} {k7 M : Nat} {S : PV} {C : Nat → Prop} {v : Value} {g cap : Nat} {y u q f : Int} (h : PS w k7 S C W) (h7 : w.heap.size + 2 ≤ k7) (hM : k7 + 2 ≤ M) (hC : ∀ b, C b → M ≤ b ∧ b < W.heap.size) (hn : M ≤ W.heap.size)
    (h1 : One W (k7 + 1) v) (h3 : ∀ g, C g ↔ v.ownBlock = some g) (bm : Below W.heap.size W Wm)
    (r1 : W1.ownsRow w.heap.size 2 1 (.slice (some ⟨g, 0, none⟩) (S.l.length + 1) cap) (S.l.length + 1) (S.l.map iv ++ [iv y])) (r2 : Wm.grownBy W1 v.ownBlock) (r3 : v.ownBlock = some g ∨ g = Wm.heap.size) :
    Tri W1 w.heap.size (.int .i64 S.v) (.int .i64 S.p) (.int .i64 S.f) ∧ One (put3 W1 w.heap.size (.int .i64 u) (.int .i64 q) (.int .i64 f)) (k7 + 1) v ∧
    PS w k7 ⟨u, q, f, S.l ++ [y], S.e⟩ (fun b => b = g) ((put3 W1 w.heap.size (.int .i64 u) (.int .i64 q) (.int .i64 f)).setCell ⟨k7 + 1, 0, none⟩ (.slice (some ⟨g, 0, none⟩) (S.l.length + 1) cap)) ∧
    Turn M C (fun b => b = g) W ((put3 W1 w.heap.size (.int .i64 u) (.int .i64 q) (.int .i64 f)).setCell ⟨k7 + 1, 0, none⟩ (.slice (some ⟨g, 0, none⟩) (S.l.length + 1) cap)) ∧
    (∀ b, W.heap.size ≤ b → b < Wm.heap.size → W1.heap[b]? = Wm.heap[b]?) ∧ W.heap.size ≤ W1.heap.size := by
  have hz := bm.size
  have hz1 := r2.size
  have hown : ∀ b, some b = v.ownBlock → M ≤ b ∧ b < W.heap.size := fun b e => hC b ((h3 b).2 e.symm)
  have hg : M ≤ g := by
    rcases r3 with e | e
    · exact (hown g e.symm).1
    · omega
  have hgs : g < W1.heap.size := (r1.lt g rfl).2
  have hlo : ∀ b, b < M → W1.heap[b]? = W.heap[b]? := fun b hb => (r2.block b (by omega) (fun e => by have := (hown b e).1; omega)).trans (bm.block b (by omega))
  have hsz : W.heap.size ≤ W1.heap.size := by omega
  have T0 : Tri W1 w.heap.size (.int .i64 S.v) (.int .i64 S.p) (.int .i64 S.f) := h.r.of_block (hlo _ (by omega)) hsz
  have O1 : One (put3 W1 w.heap.size (.int .i64 u) (.int .i64 q) (.int .i64 f)) (k7 + 1) v := h1.of_block ((put3_far (by omega) _ _ _).trans (hlo _ (by omega))) (by rw [put3_size]; exact hsz)
  obtain ⟨X, hX⟩ : ∃ X, (put3 W1 w.heap.size (.int .i64 u) (.int .i64 q) (.int .i64 f)).setCell ⟨k7 + 1, 0, none⟩ (.slice (some ⟨g, 0, none⟩) (S.l.length + 1) cap) = X := ⟨_, rfl⟩
  have xs : X.heap.size = W1.heap.size := by rw [← hX]; simp [World.setCell]
  have far : ∀ b, b ≠ w.heap.size → b ≠ k7 + 1 → X.heap[b]? = W1.heap[b]? := fun b e1 e2 => by rw [← hX]; exact (Below.heap_setCell _ _ _ _ e2).trans (put3_far e1 _ _ _)
  have TX : Tri X w.heap.size (.int .i64 u) (.int .i64 q) (.int .i64 f) := by rw [← hX]; exact (T0.store _ _ _).of_block (Below.heap_setCell _ _ _ _ (by show w.heap.size ≠ k7 + 1; omega)) (by simp [World.setCell])
  have OX : One X (k7 + 1) (.slice (some ⟨g, 0, none⟩) (S.l.length + 1) cap) := by rw [← hX]; exact O1.set _
  have BX : Below w.heap.size w X := by
    rw [← hX]
    refine Below.setCell (Below.put3 ((h.b.trans (bm.mono h.b.size)).grown r2 (by have := h.b.size; omega) (fun j e => ?_)) (Nat.le_refl _) _ _ _) (p := ⟨k7 + 1, 0, none⟩) (by show w.heap.size ≤ k7 + 1; omega) _
    have := (hown j e.symm).1
    omega
  rw [hX]
  refine ⟨T0, O1, ⟨TX, h.o.of_block ((far _ (by omega) (by omega)).trans (hlo _ (by omega))) (by omega), h.e.of_block ((far _ (by omega) (by omega)).trans (hlo _ (by omega))) (by omega), ?_, BX⟩, ⟨by omega, ?_, ?_⟩, ?_, hsz⟩
  · refine ⟨_, OX, ?_, fun b => ⟨fun e => by rw [e]; rfl, fun e => (show g = b by simpa [Value.ownBlock] using e).symm⟩⟩
    simp only [List.length_append, List.map_append, List.length_cons, List.length_nil]
    exact owns_of_block r1 (fun b e => by have e1 : g = b := (by simpa [Value.ownBlock] using e); subst e1; exact far _ (by omega) (by omega))
  · intro b e1 e2 e3
    exact (far b (by omega) (by omega)).trans ((r2.block b (by omega) (fun e => e3 ((h3 b).2 e.symm))).trans (bm.block b e2))
  · rintro b rfl
    refine ⟨hg, by omega, ?_⟩
    rcases r3 with e | e
    · exact .inl ((h3 b).2 e)
    · right; omega
  · intro b e1 e2
    exact r2.block b e2 (fun e => by have := (hown b e).2; omega)
/-- What is handed out: a list that lies where nobody else writes. -/
theorem owns_row {W : World} {base : Nat} {v : Value} {l : List Int} (R : W.ownsRow base 2 1 v l.length (l.map iv)) (hm : l.length ≤ 100) (hb : ∀ k : Nat, -9223372036854775808 ≤ l.getD k 0 ∧ l.getD k 0 ≤ 9223372036854775807) :
    ∃ a cap, v = .slice a l.length cap ∧ Row W a l.length l := by
  rcases R.2 with ⟨rfl, h0⟩ | ⟨g, cap, cur, rfl, hg, hh, hn, hc, hs, ht⟩
  · refine ⟨none, 0, by rw [h0], rfl, by unfold maxLen; omega, hb, .inl h0⟩
  · refine ⟨_, cap, rfl, rfl, by unfold maxLen; omega, hb, .inr ⟨g, 0, rfl, row_lt hh, fun k hk => ?_⟩⟩
    have hcell := R.cells (g := g) rfl k (iv (l.getD k 0)) (by simp [List.getD_eq_getElem?_getD, hk])
    by_cases hk0 : k = 0
    · subst hk0; simpa [Addr.add] using hcell
    · simpa [Addr.add, hk0] using hcell
end Go.Proofs.Ytcjdfnfaiocdjaa
