/-
  Package dir: what learn keeps from round to round.
-/
import Derived.Test.YtoeebofappbneaaGreatP4m
import Derived.Test.YtoeebofappbneaaGreatXI
namespace Go.Proofs.YtoeebofappbneaaGreat
open Go.ChangeShapes Go.WideShapes Go.ChangeAt Go.RowKit Go.Maps Go.Shelf
set_option linter.unusedVariables false
set_option linter.unusedSimpArgs false
attribute [local go_sem] Oper.semAt_some

section
variable {N : Nat} {C : Nat → Prop}
theorem MemG.weak {w W : World} {l : List Blk} (M : MemG N C w W l) {C' : Nat → Prop} (h : ∀ b, C' b → C b) : MemG N C' w W l :=
  ⟨⟨M.same.os, M.same.tape, M.same.output, M.same.size, fun b hb hc => M.same.block b hb (hc.imp _root_.id (h b))⟩, M.ns, fun b hb => M.cb b (h b hb), fun p hp => ⟨(M.at_ p hp).1, (M.at_ p hp).2.1, fun hc => (M.at_ p hp).2.2 (h _ hc)⟩, M.nd⟩
/-- What the iterator leaves alone stays. -/
theorem MemG.sameG {w A B : World} {l : List Blk} {n : Nat} {C' : Nat → Prop} (M : MemG N (fun _ => False) w A l) (s : Same n C' A B) (hN : N ≤ n) (hk : ∀ p, p ∈ l → p.1 < n) : MemG N (fun _ => False) w B l :=
  ⟨M.same.trans ⟨s.os, s.tape, s.output, s.size, fun b hb hc => s.block b hb (.inl (by rcases hc with h | h; omega; exact h.elim))⟩, M.ns, fun b h => h.elim,
    fun p hp => ⟨(s.block p.1 (row_lt (M.at_ p hp).1) (.inl (hk p hp))).trans (M.at_ p hp).1, (M.at_ p hp).2⟩, M.nd⟩
/-- One block, that is nobody's, grows. -/
theorem MemG.grown {w W W' : World} {l : List Blk} (M : MemG N C w W l) {x : Option Nat} (g : W.grownBy W' x) (hx : ∀ b, x = some b → N ≤ b ∧ ¬ C b ∧ ∀ p, p ∈ l → p.1 ≠ b) : MemG N C w W' l :=
  ⟨M.same.trans ⟨g.os, g.tape, g.output, g.size, fun b hb hc => g.block b hb (fun e => by have := hx b e.symm; rcases hc with h | h; omega; exact this.2.1 h)⟩, M.ns, M.cb,
    fun p hp => ⟨(g.block p.1 (row_lt (M.at_ p hp).1) (fun e => (hx p.1 e.symm).2.2 p hp rfl)).trans (M.at_ p hp).1, (M.at_ p hp).2⟩, M.nd⟩
end
theorem one_at {W : World} {k : Nat} {v : Value} {t : TypeId} (h : At W k #[v] t) : One W k v := ⟨row_cell h 0 v rfl, row_free h 0, row_lt h⟩
theorem owns_at {W : World} {base n : Nat} {v : Value} {xs : List Value} (h : W.ownsRow base 47 6 v n xs) {g k : Nat} {c : Array Value} {t : TypeId} (hg : v.ownBlock = some g) (hk : At W k c t) (ht : t ≠ 47) : g ≠ k := by
  rcases h.2 with ⟨e, _⟩ | ⟨g', cap, cur, e, _, hh, _⟩
  · rw [e] at hg; cases hg
  · rw [e] at hg
    have : g' = g := by simpa [Value.ownBlock] using hg
    subst this
    rintro rfl
    unfold At at hk
    rw [hh] at hk
    cases hk
    exact ht rfl
/-- What learn keeps: its variables, the list so far in a block of its own. -/
def LI (w : World) (f1 f2 k6 k7 k8 : Nat) (v1 v2 : Value) (r0 : Int) (xs : List (FO × FO)) (k : Nat) (C : Nat → Prop) (W : World) : Prop :=
  k ≤ xs.length ∧ ∃ v, Mem w W [(k8, #[.int .i64 (GW r0 0 (xs.take k))], 3), (k7, #[.int .i64 (rmK r0 (xs.take k))], 3), (k6, #[v], 44), (f2, #[v2], 44), (f1, #[v1], 44)] ∧
    W.ownsRow w.heap.size 47 6 v (GL r0 (xs.take k)).length (csC (GL r0 (xs.take k))) ∧ (∀ g, C g ↔ v.ownBlock = some g)
theorem LI.same {w : World} {f1 f2 k6 k7 k8 : Nat} {v1 v2 : Value} {r0 : Int} {xs : List (FO × FO)} {k : Nat} {C : Nat → Prop} {A B : World} {n : Nat} (h : LI w f1 f2 k6 k7 k8 v1 v2 r0 xs k C A) (s : Same n C A B) (hn : w.heap.size ≤ n) (h1 : f1 < n) (h2 : f2 < n) (h6 : k6 < n) (h7 : k7 < n) (h8 : k8 < n) : LI w f1 f2 k6 k7 k8 v1 v2 r0 xs k C B := by
  obtain ⟨hk, v, M, O, hc⟩ := h
  refine ⟨hk, v, M.sameG s hn (fun p hp => ?_), owns_of_block O (fun g hg => s.block g (O.lt g hg).2 (.inr ((hc g).2 hg))), hc⟩
  simp only [List.mem_cons, List.not_mem_nil, or_false] at hp
  rcases hp with rfl | rfl | rfl | rfl | rfl <;> assumption
theorem LI.keep {w : World} {f1 f2 k6 k7 k8 : Nat} {v1 v2 : Value} {r0 : Int} {xs : List (FO × FO)} {k : Nat} {C : Nat → Prop} {W : World} (h : LI w f1 f2 k6 k7 k8 v1 v2 r0 xs k C W) : KeepB w f1 f2 v1 v2 W := by
  obtain ⟨hk, v, M, O, hc⟩ := h
  exact ⟨M.below, one_at (M.get (.tail _ (.tail _ (.tail _ (.tail _ (.head _)))))), one_at (M.get (.tail _ (.tail _ (.tail _ (.head _)))))⟩
/-- What a round leaves alone. -/
def rndC (W : World) (k6 k7 k8 k9 k10 : Nat) (b : Nat) : Prop := b < W.heap.size ∧ b ≠ k6 ∧ b ≠ k7 ∧ b ≠ k8 ∧ b ≠ k9 ∧ b ≠ k10
/-- A round begins. -/
theorem LI.open {w : World} {f1 f2 k6 k7 k8 k9 k10 : Nat} {v1 v2 : Value} {r0 : Int} {xs : List (FO × FO)} {k : Nat} {C : Nat → Prop} {W : World} {n : Nat} {c9 c10 : Array Value} (h : LI w f1 f2 k6 k7 k8 v1 v2 r0 xs k C W) (h6 : k6 < n) (h7 : k7 < n) (h8 : k8 < n) (h9 : At W k9 c9 125) (h10 : At W k10 c10 125) (n9 : n ≤ k9) (n10 : n ≤ k10) (ne : k9 ≠ k10) :
    ∃ v, MemG 0 (rndC W k6 k7 k8 k9 k10) W W [(k10, c10, 125), (k9, c9, 125), (k8, #[.int .i64 (GW r0 0 (xs.take k))], 3), (k7, #[.int .i64 (rmK r0 (xs.take k))], 3), (k6, #[v], 44)] ∧
      W.ownsRow w.heap.size 47 6 v (GL r0 (xs.take k)).length (csC (GL r0 (xs.take k))) ∧ (∀ g, C g ↔ v.ownBlock = some g) := by
  obtain ⟨hk, v, M, O, hc⟩ := h
  have nd := M.nd
  simp only [List.map_cons, List.map_nil, List.nodup_cons, List.mem_cons, List.not_mem_nil, or_false, not_or] at nd
  obtain ⟨⟨e1, e2, e3, e4⟩, ⟨e5, e6, e7⟩, ⟨e8, e9⟩, _⟩ := nd
  refine ⟨v, ⟨Same.refl _ _ _, Nat.zero_le _, fun b hb => hb.1, fun p hp => ?_, ?_⟩, O, hc⟩
  · simp only [List.mem_cons, List.not_mem_nil, or_false] at hp
    rcases hp with rfl | rfl | rfl | rfl | rfl
    · exact ⟨h10, Nat.zero_le _, fun h => h.2.2.2.2.2 rfl⟩
    · exact ⟨h9, Nat.zero_le _, fun h => h.2.2.2.2.1 rfl⟩
    · exact ⟨M.get (.head _), Nat.zero_le _, fun h => h.2.2.2.1 rfl⟩
    · exact ⟨M.get (.tail _ (.head _)), Nat.zero_le _, fun h => h.2.2.1 rfl⟩
    · exact ⟨M.get (.tail _ (.tail _ (.head _))), Nat.zero_le _, fun h => h.2.1 rfl⟩
  · simp only [List.map_cons, List.map_nil, List.nodup_cons, List.mem_cons, List.not_mem_nil, or_false, not_or, List.nodup_nil, and_true, not_false_eq_true]
    refine ⟨⟨Ne.symm ne, ?_, ?_, ?_⟩, ⟨?_, ?_, ?_⟩, ⟨e1, e2⟩, e5⟩ <;> omega
/-- A round ends. -/
theorem LI.fin {w : World} {f1 f2 k6 k7 k8 k9 k10 : Nat} {v1 v2 : Value} {r0 : Int} {xs : List (FO × FO)} {k : Nat} {C : Nat → Prop} {W W' : World} {n : Nat} {c9 c10 : Array Value} {v' : Value} {wh r : Int} {ds : List CH} {x : FO × FO}
    (h : LI w f1 f2 k6 k7 k8 v1 v2 r0 xs k C W) (hw : w.heap.size ≤ n) (hf1 : f1 < n) (hf2 : f2 < n) (h6 : k6 < n) (h7 : k7 < n) (h8 : k8 < n) (h9 : At W k9 c9 125) (h10 : At W k10 c10 125) (n9 : n ≤ k9) (n10 : n ≤ k10)
    (hC : ∀ b, C b → n ≤ b ∧ b < W.heap.size) (hx : xs[k]? = some x) (M : MemG 0 (fun b => rndC W k6 k7 k8 k9 k10 b ∧ ¬ C b) W W' [(k10, c10, 125), (k9, c9, 125), (k8, #[.int .i64 wh], 3), (k7, #[.int .i64 r], 3), (k6, #[v'], 44)])
    (O : W'.ownsRow w.heap.size 47 6 v' ds.length (csC ds)) (hwh : wh = whx x (rmK r0 (xs.take k)) (GW r0 0 (xs.take k))) (hr : r = rm x.1 x.2 (rmK r0 (xs.take k))) (hds : ds = GL r0 (xs.take k) ++ (std x (rmK r0 (xs.take k))).toList) (hv : ∀ g, v'.ownBlock = some g → C g ∨ W.heap.size ≤ g) :
    ∃ C', LI w f1 f2 k6 k7 k8 v1 v2 r0 xs (k + 1) C' W' ∧ Turn n C C' W W' := by
  have hk1 : k < xs.length := (List.getElem?_eq_some_iff.1 hx).1
  obtain ⟨hk, v, M0, O0, hc⟩ := h
  have nd := M0.nd
  simp only [List.map_cons, List.map_nil, List.nodup_cons, List.mem_cons, List.not_mem_nil, or_false, not_or] at nd
  obtain ⟨⟨e1, e2, e3, e4⟩, ⟨e5, e6, e7⟩, ⟨e8, e9⟩, e10, _⟩ := nd
  have b6 := (M0.at_ _ (.tail _ (.tail _ (.head _)))).2.1
  have b7 := (M0.at_ _ (.tail _ (.head _))).2.1
  have b8 := (M0.at_ _ (.head _)).2.1
  have bf2 := (M0.at_ _ (.tail _ (.tail _ (.tail _ (.head _))))).2.1
  have bf1 := (M0.at_ _ (.tail _ (.tail _ (.tail _ (.tail _ (.head _)))))).2.1
  dsimp only at b6 b7 b8 bf1 bf2
  have low : ∀ b, b < n → b < W.heap.size → b ≠ k6 → b ≠ k7 → b ≠ k8 → W'.heap[b]? = W.heap[b]? := fun b hb hs q6 q7 q8 => M.same.block b hs (.inr ⟨⟨hs, q6, q7, q8, by omega, by omega⟩, fun hcb => by have := (hC b hcb).1; omega⟩)
  have a1 := M0.get (.tail _ (.tail _ (.tail _ (.tail _ (.head _)))))
  have a2 := M0.get (.tail _ (.tail _ (.tail _ (.head _))))
  have g1 := low f1 hf1 (row_lt a1) (Ne.symm e9) (Ne.symm e7) (Ne.symm e4)
  have g2 := low f2 hf2 (row_lt a2) (Ne.symm e8) (Ne.symm e6) (Ne.symm e3)
  refine ⟨fun g => v'.ownBlock = some g, ⟨hk1, v', ?_, ?_, fun g => Iff.rfl⟩, ⟨M.same.size, fun b hb hs hn => ?_, fun b hb => ?_⟩⟩
  · rw [GW_take _ _ _ _ _ hx, rmK_take _ _ _ _ hx, ← hwh, ← hr]
    refine ⟨M0.same.trans ⟨M.same.os, M.same.tape, M.same.output, M.same.size, fun b hb hc' => ?_⟩, Nat.le_refl _, fun b h => h.elim, fun p hp => ?_, M0.nd⟩
    · rcases hc' with hc' | hc'
      · exact low b (by omega) hb (by omega) (by omega) (by omega)
      · exact hc'.elim
    · simp only [List.mem_cons, List.not_mem_nil, or_false] at hp
      rcases hp with rfl | rfl | rfl | rfl | rfl
      · exact ⟨M.get (.tail _ (.tail _ (.head _))), b8, fun h => h⟩
      · exact ⟨M.get (.tail _ (.tail _ (.tail _ (.head _)))), b7, fun h => h⟩
      · exact ⟨M.get (.tail _ (.tail _ (.tail _ (.tail _ (.head _))))), b6, fun h => h⟩
      · exact ⟨g2.trans a2, bf2, fun h => h⟩
      · exact ⟨g1.trans a1, bf1, fun h => h⟩
  · have e : GL r0 (xs.take (k + 1)) = ds := by rw [GL_take, hx, hds]
    rw [e]
    exact O
  · by_cases q9 : b = k9
    · subst q9
      exact (M.get (.tail _ (.head _))).trans h9.symm
    by_cases q10 : b = k10
    · subst q10
      exact (M.get (.head _)).trans h10.symm
    exact M.same.block b hs (.inr ⟨⟨hs, by omega, by omega, by omega, q9, q10⟩, hn⟩)
  · have hlt := (O.lt b hb).2
    rcases hv b hb with h | h
    · exact ⟨(hC b h).1, hlt, .inl h⟩
    · exact ⟨by have := row_lt a1; have := row_lt h9; omega, hlt, .inr h⟩
section
variable {F : Fence} {n : Nat} {ops : Array Oper} {rest : List Oper} {o : Oper} {A : Act} {w W : World} {l : List Blk} {Q : Exit → Act → World → Prop} {t : TypeId} {z : Array Value} {N : Nat} {C : Nat → Prop} {K : Act → World → Prop}
theorem wpIn_cell24 (M : MemG N C w W l) (x : Operand) (ho : o.op = .load 44 x) {k i : Nat} {c : Array Value} {T : TypeId} (a : Option Addr) (p q : Nat) (hx : A.eval x = .pointer (some ⟨k, i, none⟩)) (hk : (k, c, T) ∈ l) (hv : c[i]? = some (.slice a p q))
    (H : K (A.put o.dst (.slice a p q)) W) : o.wpIn F n Tryz.prog A W K Q := by
  have hc := row_cell (M.get hk) i _ hv
  have hr : (execOp A.eval o).run Tryz.prog W = .ok (.value (.slice a p q)) W := by
    unfold execOp
    simp only [ho, hx]
    go_simp
  exact wpIn_plain (by simp [Oper.about, ho]) (by rw [ho]; intro c h; cases h) hr H
theorem wpIn_set24 (M : MemG N C w W l) (x y : Operand) (ho : o.op = .store 44 x y) (j : Nat) {k : Nat} {c : Array Value} {T : TypeId} (a : Option Addr) (p q : Nat) (v0 : Value) (hi : l[j]? = some (k, c, T)) (hx : A.eval x = .pointer (some ⟨k, 0, none⟩)) (hy : A.eval y = .slice a p q) (hv : c[0]? = some v0)
    (H : ∀ W', MemG N C w W' (l.set j (k, c.setIfInBounds 0 (.slice a p q), T)) → (∀ b, b ≠ k → W'.heap[b]? = W.heap[b]?) → K (A.put o.dst undef) W') : o.wpIn F n Tryz.prog A W K Q := by
  have ha : W.heap[k]? = some (.cells c T (0, 0)) := M.get (List.mem_of_getElem? hi)
  have hc := row_cell ha 0 _ hv
  have hf := row_free ha 0
  unfold Oper.wpIn
  refine ⟨by simp [Oper.about, ho], ?_⟩
  rw [Oper.semAt_plain F _ _ (by rw [ho]; intro c hc'; cases hc')]
  unfold execOp
  simp only [ho, hx, hy]
  go_simp
  refine H _ (M.put j _ hi rfl rfl rfl (by simp [World.setCell]) ?_ (fun q hq => Below.heap_setCell _ _ _ _ hq)) (fun b hb => Below.heap_setCell _ _ _ _ hb)
  exact set_row ha 0 _
theorem wpListIn_cell24 (M : MemG N C w W l) (hgd : o.guard = none) (x : Operand) (ho : o.op = .load 44 x) {k i : Nat} {c : Array Value} {T : TypeId} (a : Option Addr) (p q : Nat) (hx : A.eval x = .pointer (some ⟨k, i, none⟩)) (hk : (k, c, T) ∈ l) (hv : c[i]? = some (.slice a p q))
    (H : wpListIn F n Tryz.prog ops Q rest (A.put o.dst (.slice a p q)) W) : wpListIn F n Tryz.prog ops Q (o :: rest) A W :=
  wpListIn_plain hgd fun K hK => wpIn_cell24 M x ho a p q hx hk hv (hK _ _ H)
theorem wpListIn_new (M : MemG N C w W l) (hgd : o.guard = none) (v : Value) (ho : o.op = .alloc t) (hz : ∀ (ρ : Operand → Value) (X : World), (execOp ρ o).run Tryz.prog X = .ok (.value (.pointer (some ⟨X.heap.size, 0, none⟩))) (X.alloc (.cells #[v] t)))
    (H : ∀ k W', MemG N C w W' ((k, #[v], t) :: l) → wpListIn F n Tryz.prog ops Q rest (A.put o.dst (.pointer (some ⟨k, 0, none⟩))) W') : wpListIn F n Tryz.prog ops Q (o :: rest) A W :=
  wpListIn_plain hgd fun K hK => wpIn_plain (by simp [Oper.about, ho]) (by rw [ho]; intro c h; cases h) (hz _ _) (hK _ _ (H _ _ (M.add #[v] t)))
end
theorem bynameM_any {N : Nat} {C : Nat → Prop} {w W : World} {L : List Blk} (M : MemG N C w W L) (a a' : Option Addr) (n n' cap cap' : Nat) : Calls Tryz.prog 105 #[.slice a n cap, .slice a' n' cap'] W fun e W' => ∃ f1 f2, e = .returned (.func (.func 113) #[] #[.pointer (some ⟨f1, 0, none⟩), .pointer (some ⟨f2, 0, none⟩)]) ∧ MemG N C w W' ((f2, #[.slice a' n' cap'], 44) :: (f1, #[.slice a n cap], 44) :: L) := by
  have M2 := (M.add #[.slice a n cap] 44).add #[.slice a' n' cap'] 44
  rw [World.size_alloc] at M2
  refine (byname_any a a' n n' cap cap' W).mono ?_
  rintro e W' ⟨rfl, rfl⟩
  exact ⟨_, _, rfl, M2⟩
end Go.Proofs.YtoeebofappbneaaGreat
