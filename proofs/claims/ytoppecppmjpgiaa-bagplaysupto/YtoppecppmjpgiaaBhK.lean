/-
  Package bag: the document's Mend.
-/
import Derived.Test.YtoppecppmjpgiaaBhJ
namespace Go.Proofs.Ytoppecppmjpgiaa
open Go.ChangeShapes Go.WideShapes Go.ChangeAt Go.RowKit Go.Maps
set_option linter.unusedVariables false
set_option linter.unusedSimpArgs false

/-- The document's bag, with other links. -/
def RLinks (w : World) (r : Nat) (next : Int) (a : Option Addr) (n cap : Nat) (ds : List DG) (es : List LK) (w' : World) : Prop :=
  Only (at1 r) w w' ∧ ∃ la' lc', RAt w' r next a n cap ds la' es.length lc' es ∧ ∀ g off, la' = some ⟨g, off, none⟩ → w.heap.size ≤ g
theorem rlinks_done {w W : World} {r : Nat} {next : Int} {a : Option Addr} {n cap : Nat} {ds : List DG} {la la' : Option Addr} {m lc q lc' : Nat} {ls es : List LK} (R : RAt w r next a n cap ds la m lc ls) (b : Below w.heap.size w W) (hq : es.length = q) (O : W.ownsRow w.heap.size 65 2 (.slice la' q lc') q (lcs es)) :
    RLinks w r next a n cap ds es (W.setCell ⟨r, 2, none⟩ (.slice la' q lc')) := by
  subst hq
  have hr := row_lt R.obj
  have R1 := R.below b
  obtain ⟨a2, c2, e, K, hnew⟩ := own_lks O rfl
  cases e
  have typ : ∀ g off, la' = some ⟨g, off, none⟩ → ∃ cur, W.heap[g]? = some (.cells cur 65 (0, 0)) := fun g off e => by
    rcases O.2 with ⟨h, _⟩ | ⟨g', cap', cur, h, hg, hh, _⟩
    · subst e; cases h
    · subst e; cases h; exact ⟨cur, hh⟩
  have far : ∀ g off, la' = some ⟨g, off, none⟩ → g ≠ r := fun g off e => by have := hnew g off e; omega
  exact ⟨(Only.of_below b).set 2 _, la', lc', ⟨set_row R1.obj 2 _, R1.lst.of_block fun g off e => set_far rfl (R1.gr g off e) _ _, K.of_block (by simp [World.setCell]) fun g off e => set_far rfl (far g off e) _ _, fun g off e => (typ g off e).imp fun cur h => (set_far rfl (far g off e) _ _).trans h⟩, hnew⟩
set_option maxHeartbeats 2000000 in
theorem rmend_none (r : Nat) (next : Int) (a : Option Addr) (n cap : Nat) (ds : List DG) (la : Option Addr) (m lc : Nat) (ls : List LK) (x y : Int) (w : World) (R : RAt w r next a n cap ds la m lc ls) (hc : idxK (eqK ⟨min x y, max x y⟩) ls = -1) :
    Calls Try.prog 32 #[.pointer (some ⟨r, 0, none⟩), .int .i64 x, .int .i64 y] w fun e w' => e = .returned (.bool false) ∧ Below w.heap.size w w' := by
  have K := severed_any r next a n cap ds la m lc ls x y w R
  rw [hc] at K
  go_enter Try.func32, Try.ntmps32
  go_wp2_with (go_at_call 46; go_must (refine K.mono ?_; rintro e w1 ⟨rfl, b1⟩; clear K))
  go_ret
  exact ⟨rfl, b1⟩
set_option maxHeartbeats 2000000 in
theorem rmend_some (r : Nat) (next : Int) (a : Option Addr) (n cap : Nat) (ds : List DG) (g off m lc : Nat) (ls : List LK) (x y : Int) (w : World) (R : RAt w r next a n cap ds (some ⟨g, off, none⟩) m lc ls) (i : Nat) (hi : i < m) (hc : idxK (eqK ⟨min x y, max x y⟩) ls = (i : Int)) (hm : m * 16 ≤ 140737488355328) :
    Calls Try.prog 32 #[.pointer (some ⟨r, 0, none⟩), .int .i64 x, .int .i64 y] w fun e w' => e = .returned (.bool true) ∧ RLinks w r next a n cap ds (ls.take i ++ ls.drop (i + 1)) w' := by
  have K := severed_any r next a n cap ds _ m lc ls x y w R
  rw [hc] at K
  have hle := R.lks.le
  have hmx : i + 1 < 8796093022209 := by omega
  have hiI : (i : Int) < (m : Int) := by omega
  have hi0 : ¬ (i : Int) < 0 := by omega
  have hil : (i : Int) ≤ (lc : Int) := by omega
  have hil2 : (i : Int) + 1 ≤ (m : Int) := by omega
  have HM : Hid (m * 16 ≤ 140737488355328) := ⟨hm⟩
  clear hc hm
  have hs := R.lks.size
  obtain ⟨hlt, hr⟩ : g < w.heap.size ∧ ∀ i, i < m → w.rangeAt g (off + i * 2) (ls.getD i LK.z).cells := by
    rcases R.lks.mem with ⟨e, _⟩ | ⟨g', off', e, hl, h⟩
    · cases e
    · cases e; exact ⟨hl, h⟩
  have hca := Lks.cells_at (cap := lc) hs hr
  have hAt : ∀ W, Below w.heap.size w W → ∀ j u, (lcs ls)[j]? = some u → W.cell? ⟨g, off + j, none⟩ = some u := fun W b j u hj => (World.cell?_of_block (a := ⟨g, off + j, none⟩) (b.block g hlt)).trans (hca j u hj)
  have HA : Hid (∀ W, Below w.heap.size w W → ∀ j u, (lcs (ls.take i))[j]? = some u → W.cell? ⟨g, off + j, none⟩ = some u) := ⟨fun W b j u hj => hAt W b j u (lcs_take_at hj)⟩
  obtain ⟨p, HP, HZ⟩ : ∃ p, Hid ((if lc = i + 1 then some (⟨g, off, none⟩ : Addr) else some ⟨g, off + (i + 1) * 2, none⟩) = some ⟨g, p, none⟩) ∧ Hid (∀ W, Below w.heap.size w W → ∀ j u, (lcs (ls.drop (i + 1)))[j]? = some u → W.cell? ⟨g, p + j, none⟩ = some u) := by
    by_cases hlc : lc = i + 1
    · refine ⟨off, ⟨by rw [if_pos hlc]⟩, ⟨fun W b j u hj => ?_⟩⟩
      rw [List.drop_of_length_le (by omega)] at hj
      cases hj
    · refine ⟨off + (i + 1) * 2, ⟨by rw [if_neg hlc]⟩, ⟨fun W b j u hj => ?_⟩⟩
      rw [lcs_drop_at] at hj
      have := hAt W b _ u hj
      rwa [show off + (2 * (i + 1) + j) = off + (i + 1) * 2 + j by omega] at this
  have l1 : (ls.take i).length = i := by rw [List.length_take]; omega
  have l2 : (ls.drop (i + 1)).length = m - (i + 1) := by rw [List.length_drop]; omega
  have l3 : (ls.take i ++ ls.drop (i + 1)).length = i + (m - (i + 1)) := by rw [List.length_append, l1, l2]
  have hwr : IntKind.i64.wrap ((i : Int) + 1) = (i : Int) + 1 := by rw [IntKind.wrap_i64]; omega
  clear hr hca hAt
  go_enter Try.func32, Try.ntmps32
  go_wp2_with (first
    | ((with_reducible show wpList _ _ _ (Oper.mk _ (Op.call { callee := Callee.builtin Builtin.append, args := #[Operand.tmp 15, Operand.tmp 22], argTypes := _ }) _ _ _ _ :: _) _ _); go_must (refine wpList_more_lks rfl _ _ rfl (base := w.heap.size) (k := 0) (es := []) (ls := ls.take i) rfl rfl (World.ownsRow_nil _ _ 65 2) l1 (HA.out _ b1) (by have := HM.out; omega) b1.size ?_; intro v1 w2 O2 b2; have b12 := b1.trans b2; have R2 := R.below b12; have d2 := row_cell R2.obj 2 (.slice (some ⟨g, off, none⟩) m lc) rfl))
    | ((with_reducible show wpList _ _ _ (Oper.mk _ (Op.call { callee := Callee.builtin Builtin.append, args := #[Operand.tmp 25, Operand.tmp 33], argTypes := _ }) _ _ _ _ :: _) _ _); go_must (refine wpList_more_lks rfl _ _ rfl (base := w.heap.size) (k := 0 + i) (es := [] ++ ls.take i) (ls := ls.drop (i + 1)) (off := p) rfl (by show Value.slice (if lc = i + 1 then some (⟨g, off, none⟩ : Addr) else some ⟨g, off + (i + 1) * 2, none⟩) _ _ = _; rw [HP.out]) O2 l2 (HZ.out _ b12) (by have := HM.out; omega) b12.size ?_; intro v2 w3 O3 b3; have b13 := b12.trans b3; have R3 := R.below b13; rw [List.nil_append, Nat.zero_add] at O3; obtain ⟨la', lc', rfl, K3, hnew⟩ := own_lks O3 l3; have e2 := row_cell R3.obj 2 (.slice (some ⟨g, off, none⟩) m lc) rfl; have f2 := row_free R3.obj 2))
    | (go_at_call 46; go_must (refine K.mono ?_; rintro e w1 ⟨rfl, b1⟩; clear K; have R1 := R.below b1; have c2 := row_cell R1.obj 2 (.slice (some ⟨g, off, none⟩) m lc) rfl)))
  all_goals go_ret
  all_goals exact ⟨rfl, rlinks_done R b13 l3 O3⟩
end Go.Proofs.Ytoppecppmjpgiaa
