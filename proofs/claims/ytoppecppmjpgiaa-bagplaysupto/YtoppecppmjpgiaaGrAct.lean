/-
  Package bag: one call, done to both bags, by kind.
-/
import Derived.Test.YtoppecppmjpgiaaBiK
import Derived.Test.YtoppecppmjpgiaaBiL
import Derived.Test.YtoppecppmjpgiaaBiG
import Derived.Test.YtoppecppmjpgiaaBgK
import Derived.Laws.OwnMore
namespace Go.Proofs.Ytoppecppmjpgiaa
open Go.ChangeShapes Go.WideShapes Go.ChangeAt Go.RowKit Go.Maps
set_option linter.unusedVariables false
set_option linter.unusedSimpArgs false

/-- The document's bag's blocks. -/
def ragC (r : Nat) (ra la : Option Addr) : Nat → Prop := fun q => q = r ∨ (∃ off, ra = some ⟨q, off, none⟩) ∨ (∃ off, la = some ⟨q, off, none⟩)
theorem RAt.ltC {W : World} {r : Nat} {next : Int} {a : Option Addr} {n c : Nat} {ds : List DG} {la : Option Addr} {m lc : Nat} {ls : List LK} (R : RAt W r next a n c ds la m lc ls) : ∀ q, ragC r a la q → q < W.heap.size := by
  rintro q (rfl | ⟨off, e⟩ | ⟨off, e⟩)
  · exact row_lt R.obj
  · have L := R.lst; rw [e] at L; exact L.lt
  · exact R.lkLt q off e
/-- Both bags, in memory that is C0's or new since W0. -/
structure Bt (W0 : World) (C0 : Nat → Prop) (b M r k : Nat) (next : Int) (ds : List DG) (D : DataW Unit) (rn : Int) (rds : List DG) (ls : List LK) (W : World) : Prop where
  out : ∃ a cap ra rc la lc, BagAt W b M a ds.length cap k next ds D ∧ RAt W r rn ra rds.length rc rds la ls.length lc ls ∧ (∀ q, bagC b M a q → ¬ ragC r ra la q) ∧ (∀ q, bagC b M a q ∨ ragC r ra la q → C0 q ∨ W0.heap.size ≤ q)
  only : Only C0 W0 W
section
variable {W0 W W' : World} {C0 : Nat → Prop} {b M r k : Nat} {next : Int} {ds : List DG} {D : DataW Unit} {rn : Int} {rds : List DG} {ls : List LK}
theorem Bt.later (h : Bt W0 C0 b M r k next ds D rn rds ls W) (hb : Below W.heap.size W W') : Bt W0 C0 b M r k next ds D rn rds ls W' := by
  obtain ⟨a, cap, ra, rc, la, lc, B, R, h1, h2⟩ := h.out
  exact ⟨⟨a, cap, ra, rc, la, lc, B.below hb, R.below hb, h1, h2⟩, h.only.trans (Only.of_below hb)⟩
theorem bt_prog {a : Option Addr} {cap : Nat} {ra : Option Addr} {rc : Nat} {la : Option Addr} {lc : Nat} (B : BagAt W b M a ds.length cap k next ds D) (R : RAt W r rn ra rds.length rc rds la ls.length lc ls) (h1 : ∀ q, bagC b M a q → ¬ ragC r ra la q) (h2 : ∀ q, bagC b M a q ∨ ragC r ra la q → C0 q ∨ W0.heap.size ≤ q) (ho : Only C0 W0 W) (o : Only (bagC b M a) W W')
    {a' : Option Addr} {cap' k' : Nat} {next' : Int} {ds' : List DG} {D' : DataW Unit} (B' : BagAt W' b M a' ds'.length cap' k' next' ds' D') (ha : ∀ g off, a' = some ⟨g, off, none⟩ → (∃ o, a = some ⟨g, o, none⟩) ∨ W.heap.size ≤ g) : Bt W0 C0 b M r k' next' ds' D' rn rds ls W' := by
  have hl := R.ltC
  have keep : ∀ q, ragC r ra la q → W'.heap[q]? = W.heap[q]? := fun q hq => o.block q (hl q hq) (fun hb => h1 q hb hq)
  have new : ∀ q, bagC b M a' q → bagC b M a q ∨ W.heap.size ≤ q := by
    rintro q (e | e | ⟨off, e⟩)
    · exact .inl (.inl e)
    · exact .inl (.inr (.inl e))
    · rcases ha q off e with ⟨o', e'⟩ | h
      · exact .inl (.inr (.inr ⟨o', e'⟩))
      · exact .inr h
  refine ⟨⟨a', cap', ra, rc, la, lc, B', R.of_blocks o.size (keep r (.inl rfl)) (fun q ⟨off, e⟩ => keep q (.inr (.inl ⟨off, e⟩))) (fun g off e => keep g (.inr (.inr ⟨off, e⟩))), fun q hq hr => ?_, fun q hq => ?_⟩, ?_⟩
  · rcases new q hq with h | h
    · exact h1 q h hr
    · have := hl q hr; omega
  · rcases hq with hq | hq
    · rcases new q hq with h | h
      · exact h2 q (.inl h)
      · exact .inr (Nat.le_trans ho.size h)
    · exact h2 q (.inr hq)
  · refine ⟨o.os.trans ho.os, o.tape.trans ho.tape, o.output.trans ho.output, Nat.le_trans ho.size o.size, fun q hq hn => (o.block q (Nat.lt_of_lt_of_le hq ho.size) (fun hb => ?_)).trans (ho.block q hq hn)⟩
    rcases h2 q (.inl hb) with h | h
    · exact hn h
    · omega
theorem bt_ref {a : Option Addr} {cap : Nat} {ra : Option Addr} {rc : Nat} {la : Option Addr} {lc : Nat} (B : BagAt W b M a ds.length cap k next ds D) (R : RAt W r rn ra rds.length rc rds la ls.length lc ls) (h1 : ∀ q, bagC b M a q → ¬ ragC r ra la q) (h2 : ∀ q, bagC b M a q ∨ ragC r ra la q → C0 q ∨ W0.heap.size ≤ q) (ho : Only C0 W0 W) (o : Only (ragC r ra la) W W')
    {ra' : Option Addr} {rc' : Nat} {la' : Option Addr} {lc' : Nat} {rn' : Int} {rds' : List DG} {ls' : List LK} (R' : RAt W' r rn' ra' rds'.length rc' rds' la' ls'.length lc' ls') (hr : ∀ q, ragC r ra' la' q → ragC r ra la q ∨ W.heap.size ≤ q) : Bt W0 C0 b M r k next ds D rn' rds' ls' W' := by
  have hl := B.ltC
  have keep : ∀ q, bagC b M a q → W'.heap[q]? = W.heap[q]? := fun q hq => o.block q (hl q hq) (fun hb => h1 q hq hb)
  refine ⟨⟨a, cap, ra', rc', la', lc', B.of_blocks keep, R', fun q hq hr' => ?_, fun q hq => ?_⟩, ?_⟩
  · rcases hr q hr' with h | h
    · exact h1 q hq h
    · have := hl q hq; omega
  · rcases hq with hq | hq
    · exact h2 q (.inl hq)
    · rcases hr q hq with h | h
      · exact h2 q (.inr h)
      · exact .inr (Nat.le_trans ho.size h)
  · refine ⟨o.os.trans ho.os, o.tape.trans ho.tape, o.output.trans ho.output, Nat.le_trans ho.size o.size, fun q hq hn => (o.block q (Nat.lt_of_lt_of_le hq ho.size) (fun hb => ?_)).trans (ho.block q hq hn)⟩
    rcases h2 q (.inr hb) with h | h
    · exact hn h
    · omega
theorem at1_rag {ra la : Option Addr} (o : Only (at1 r) W W') : Only (ragC r ra la) W W' := o.mono fun q _ h => .inl h
/-! ### the program's calls -/
theorem Bt.put (h : Bt W0 C0 b M r k next ds D rn rds ls W) (hs0 : 0 ≤ next) (x y : Int) (s : ByteArray) (hx : I64 x) (hy : I64 y) {P : PutS} (hP : putS D next ds x y s = P) :
    Calls Try.prog 16 #[.pointer (some ⟨b, 0, none⟩), .int .i64 x, .int .i64 y, .string s] W fun e W' => e = .returned (.tuple #[.int .i64 P.r0, .int .i64 P.r1]) ∧ Bt W0 C0 b M r k P.next P.ds D rn rds ls W' := by
  obtain ⟨a, cap, ra, rc, la, lc, B, R, h1, h2⟩ := h.out
  subst hP
  refine (put_any b M a _ cap k next ds D x y s W B hx hy hs0).mono ?_
  rintro e W' ⟨rfl, o, a', cap', B', ha'⟩
  exact ⟨rfl, bt_prog B R h1 h2 h.only o B' ha'⟩
theorem Bt.between (h : Bt W0 C0 b M r k next ds D rn rds ls W) (hn : ds.length ≤ 65536) (x y : Int) :
    Calls Try.prog 20 #[.pointer (some ⟨b, 0, none⟩), .int .i64 x, .int .i64 y] W fun e W' => ∃ v, e = .returned v ∧ OwnN W.heap.size W' v (nums x y ds) ∧ Below W.heap.size W W' := by
  obtain ⟨a, cap, ra, rc, la, lc, B, R, h1, h2⟩ := h.out
  exact between_any b M a _ cap k next ds D x y W B hn
theorem Bt.sever (h : Bt W0 C0 b M r k next ds D rn rds ls W) (x y : Int) (hx : I64 x) (hy : I64 y) (hxy : x ≠ y) (hk : k < maxLen) {es : List DG} (he : ds.filter (fun d => !onWay (min x y) (max x y) d) = es) :
    Calls Try.prog 19 #[.pointer (some ⟨b, 0, none⟩), .int .i64 x, .int .i64 y] W fun e W' => e = .returned (.int .i64 ((ds.length : Int) - (es.length : Int))) ∧ Bt W0 C0 b M r (k + 1) next es (D.put (klOf (min x y) (max x y)) (.agg [])) rn rds ls W' := by
  obtain ⟨a, cap, ra, rc, la, lc, B, R, h1, h2⟩ := h.out
  subst he
  refine (sever_any b M a _ cap k next ds D x y W B hx hy hxy hk).mono ?_
  rintro e W' ⟨m, rfl, B', o⟩
  have hm := B'.lst.size
  exact ⟨by rw [hm], bt_prog B R h1 h2 h.only o (by rw [hm]; exact B') (fun g off e => .inl ⟨off, e⟩)⟩
theorem Bt.mend (h : Bt W0 C0 b M r k next ds D rn rds ls W) (x y : Int) (hx : I64 x) (hy : I64 y) :
    Calls Try.prog 21 #[.pointer (some ⟨b, 0, none⟩), .int .i64 x, .int .i64 y] W fun e W' => e = .returned (.bool (cut D x y)) ∧ Bt W0 C0 b M r k next ds (D.del (klOf (min x y) (max x y))) rn rds ls W' := by
  obtain ⟨a, cap, ra, rc, la, lc, B, R, h1, h2⟩ := h.out
  refine (mend_any b M a _ cap k next ds D x y W B hx hy).mono ?_
  rintro e W' ⟨rfl, B', o⟩
  exact ⟨rfl, bt_prog B R h1 h2 h.only (o.mono fun q _ hq => .inr (.inl hq)) B' (fun g off e => .inl ⟨off, e⟩)⟩
theorem Bt.forget (h : Bt W0 C0 b M r k next ds D rn rds ls W) (x : Int) {es : List DG} (he : ds.filter (fun d => !onTo x d) = es) :
    Calls Try.prog 22 #[.pointer (some ⟨b, 0, none⟩), .int .i64 x] W fun e W' => e = .returned (.int .i64 ((ds.length : Int) - (es.length : Int))) ∧ Bt W0 C0 b M r k next es D rn rds ls W' := by
  obtain ⟨a, cap, ra, rc, la, lc, B, R, h1, h2⟩ := h.out
  subst he
  refine (forget_any b M a _ cap k next ds D x W B).mono ?_
  rintro e W' ⟨m, rfl, B', o⟩
  have hm := B'.lst.size
  exact ⟨by rw [hm], bt_prog B R h1 h2 h.only o (by rw [hm]; exact B') (fun g off e => .inl ⟨off, e⟩)⟩
/-! ### the document's calls -/
theorem Bt.rput (h : Bt W0 C0 b M r k next ds D rn rds ls W) (hs0 : 0 ≤ rn) (hs : rn ≤ 4611686018427387904) (x y : Int) (s : ByteArray) {P : PutS} (hP : rputS rn rds ls x y s = P) :
    Calls Try.prog 27 #[.pointer (some ⟨r, 0, none⟩), .int .i64 x, .int .i64 y, .string s] W fun e W' => e = .returned (.tuple #[.int .i64 P.r0, .int .i64 P.r1]) ∧ Bt W0 C0 b M r k next ds D P.next P.ds ls W' := by
  obtain ⟨a, cap, ra, rc, la, lc, B, R, h1, h2⟩ := h.out
  subst hP
  refine (rput_any r rn ra _ rc rds la _ lc ls x y s W R hs0 hs).mono ?_
  rintro e W' ⟨rfl, o, a', cap', R', ha'⟩
  refine ⟨rfl, bt_ref B R h1 h2 h.only (o.mono fun q _ hq => ?_) R' ?_⟩
  · rcases hq with e | ⟨off, e⟩
    · exact .inl e
    · exact .inr (.inl ⟨off, e⟩)
  · rintro q (e | ⟨off, e⟩ | h)
    · exact .inl (.inl e)
    · rcases ha' q off e with ⟨o', e'⟩ | h
      · exact .inl (.inr (.inl ⟨o', e'⟩))
      · exact .inr h
    · exact .inl (.inr (.inr h))
theorem Bt.rbetween (h : Bt W0 C0 b M r k next ds D rn rds ls W) (hn : rds.length ≤ 65536) (x y : Int) :
    Calls Try.prog 30 #[.pointer (some ⟨r, 0, none⟩), .int .i64 x, .int .i64 y] W fun e W' => ∃ v, e = .returned v ∧ OwnN W.heap.size W' v (nums x y rds) ∧ Below W.heap.size W W' := by
  obtain ⟨a, cap, ra, rc, la, lc, B, R, h1, h2⟩ := h.out
  exact rbetween_any r rn ra _ rc rds la _ lc ls x y W R hn
theorem bt_lost {a : Option Addr} {cap : Nat} {ra : Option Addr} {rc : Nat} {la : Option Addr} {lc : Nat} {n : Nat} {es : List DG} {e : Ending} (B : BagAt W b M a ds.length cap k next ds D) (R : RAt W r rn ra rds.length rc rds la ls.length lc ls) (h1 : ∀ q, bagC b M a q → ¬ ragC r ra la q) (h2 : ∀ q, bagC b M a q ∨ ragC r ra la q → C0 q ∨ W0.heap.size ≤ q) (ho : Only C0 W0 W) (hL : RLost W r rn n es la ls.length lc ls e W') :
    e = .returned (.int .i64 ((n : Int) - (es.length : Int))) ∧ Bt W0 C0 b M r k next ds D rn es ls W' := by
  obtain ⟨rfl, a', c', R', o, hf⟩ := hL
  refine ⟨rfl, bt_ref B R h1 h2 ho (at1_rag o) R' ?_⟩
  rintro q (e | ⟨off, e⟩ | h)
  · exact .inl (.inl e)
  · exact .inr (hf q off e)
  · exact .inl (.inr (.inr h))
theorem Bt.rforget (h : Bt W0 C0 b M r k next ds D rn rds ls W) (hn : rds.length ≤ 65536) (x : Int) {es : List DG} (he : rds.filter (fun d => !onTo x d) = es) :
    Calls Try.prog 33 #[.pointer (some ⟨r, 0, none⟩), .int .i64 x] W fun e W' => e = .returned (.int .i64 ((rds.length : Int) - (es.length : Int))) ∧ Bt W0 C0 b M r k next ds D rn es ls W' := by
  obtain ⟨a, cap, ra, rc, la, lc, B, R, h1, h2⟩ := h.out
  subst he
  exact (rforget_any r rn ra _ rc rds la _ lc ls x W R hn).mono fun e W' hL => bt_lost B R h1 h2 h.only hL
theorem bt_links {a : Option Addr} {cap : Nat} {ra : Option Addr} {rc : Nat} {la : Option Addr} {lc : Nat} {es : List LK} (B : BagAt W b M a ds.length cap k next ds D) (R : RAt W r rn ra rds.length rc rds la ls.length lc ls) (h1 : ∀ q, bagC b M a q → ¬ ragC r ra la q) (h2 : ∀ q, bagC b M a q ∨ ragC r ra la q → C0 q ∨ W0.heap.size ≤ q) (ho : Only C0 W0 W) (hL : RLinks W r rn ra rds.length rc rds es W') :
    Bt W0 C0 b M r k next ds D rn rds es W' := by
  obtain ⟨o, la', lc', R', hf⟩ := hL
  refine bt_ref B R h1 h2 ho (at1_rag o) R' ?_
  rintro q (e | h | ⟨off, e⟩)
  · exact .inl (.inl e)
  · exact .inl (.inr (.inl h))
  · exact .inr (hf q off e)
theorem Bt.rmend (h : Bt W0 C0 b M r k next ds D rn rds ls W) (x y : Int) (hm : ls.length * 16 ≤ 140737488355328) :
    Calls Try.prog 32 #[.pointer (some ⟨r, 0, none⟩), .int .i64 x, .int .i64 y] W fun e W' => e = .returned (.bool (decide (0 ≤ idxK (eqK ⟨min x y, max x y⟩) ls))) ∧ Bt W0 C0 b M r k next ds D rn rds (menL ⟨min x y, max x y⟩ ls) W' := by
  obtain ⟨a, cap, ra, rc, la, lc, B, R, h1, h2⟩ := h.out
  cases hf : ls.findIdx? (eqK ⟨min x y, max x y⟩) with
  | none =>
    have hi : idxK (eqK ⟨min x y, max x y⟩) ls = -1 := by unfold idxK; rw [hf]
    have hmn : menL ⟨min x y, max x y⟩ ls = ls := by unfold menL; rw [hf]
    rw [hi, hmn]
    exact (rmend_none r rn ra _ rc rds la _ lc ls x y W R hi).mono fun e W' ⟨he, hb⟩ => ⟨he, h.later hb⟩
  | some i =>
    have hi : idxK (eqK ⟨min x y, max x y⟩) ls = (i : Int) := by unfold idxK; rw [hf]
    have hmn : menL ⟨min x y, max x y⟩ ls = ls.take i ++ ls.drop (i + 1) := by unfold menL; rw [hf]
    have hil : i < ls.length := by rw [List.findIdx?_eq_some_iff_getElem] at hf; exact hf.1
    rw [hi, hmn]
    rcases R.lks.mem with ⟨rfl, h0⟩ | ⟨g, off, rfl, _⟩
    · have := R.lks.le; omega
    · refine (rmend_some r rn ra _ rc rds g off _ lc ls x y W R i hil hi hm).mono fun e W' ⟨he, hL⟩ => ⟨?_, bt_links B R h1 h2 h.only hL⟩
      rw [he, decide_eq_true (by omega)]
theorem Bt.rsever (h : Bt W0 C0 b M r k next ds D rn rds ls W) (hn : rds.length ≤ 65536) (x y : Int) (hxy : x ≠ y) (hm : (ls.length + 1) * 16 ≤ 140737488355328) {es : List DG} (he : rds.filter (fun d => !lostP false true x y d) = es) :
    Calls Try.prog 31 #[.pointer (some ⟨r, 0, none⟩), .int .i64 x, .int .i64 y] W fun e W' => e = .returned (.int .i64 ((rds.length : Int) - (es.length : Int))) ∧ Bt W0 C0 b M r k next ds D rn es (sevL ⟨min x y, max x y⟩ ls) W' := by
  obtain ⟨a, cap, ra, rc, la, lc, B, R, h1, h2⟩ := h.out
  subst he
  by_cases hc : 0 ≤ idxK (eqK ⟨min x y, max x y⟩) ls
  · have hs : sevL ⟨min x y, max x y⟩ ls = ls := by unfold sevL; rw [if_pos hc]
    rw [hs]
    refine (rsever_in r rn ra _ rc rds la _ lc ls x y W R hxy hc hn).mono ?_
    rintro e W' ⟨w1, b1, hL⟩
    exact bt_lost (B.below b1) (R.below b1) h1 h2 (h.only.trans (Only.of_below b1)) hL
  · have hs : sevL ⟨min x y, max x y⟩ ls = ls.take (ahd ⟨min x y, max x y⟩ ls) ++ [⟨min x y, max x y⟩] ++ ls.drop (ahd ⟨min x y, max x y⟩ ls) := by unfold sevL; rw [if_neg hc]
    have hc' : idxK (eqK ⟨min x y, max x y⟩) ls = -1 := by
      rcases idxK_cases (eqK ⟨min x y, max x y⟩) ls with h | h
      · exact h
      · exact absurd h hc
    have fin : ∀ (es : List LK) (e : Ending) (W' : World), RSev W r rn ra rds.length rc rds es (rds.filter (fun d => !lostP false true x y d)) e W' → e = .returned (.int .i64 ((rds.length : Int) - ((rds.filter (fun d => !lostP false true x y d)).length : Int))) ∧ Bt W0 C0 b M r k next ds D rn (rds.filter (fun d => !lostP false true x y d)) es W' := by
      rintro es e W' ⟨w1, la', lc', o1, R1, f1, rfl, a', c', R', o, hf⟩
      refine ⟨rfl, bt_ref B R h1 h2 h.only (at1_rag (o1.trans o)) R' ?_⟩
      rintro q (e | ⟨off, e⟩ | ⟨off, e⟩)
      · exact .inl (.inl e)
      · exact .inr (Nat.le_trans o1.size (hf q off e))
      · exact .inr (f1 q off e)
    rw [hs]
    rcases R.lks.mem with ⟨rfl, h0⟩ | ⟨g, off, rfl, _⟩
    · have hl0 : ls.length = 0 := by have := R.lks.le; omega
      have hln := List.eq_nil_of_length_eq_zero hl0
      subst hln
      subst h0
      exact (rsever_nil r rn ra _ rc rds x y W R hxy hn).mono fun e W' hS => fin _ e W' hS
    · refine (rsever_some r rn ra _ rc rds g off _ lc ls x y W R hxy hc' hm hn).mono ?_
      rintro e W' ⟨es, rfl, hS⟩
      exact fin _ e W' hS
end
end Go.Proofs.Ytoppecppmjpgiaa

namespace Go.Proofs.Ytoppecppmjpgiaa
open Go.ChangeShapes Go.WideShapes Go.ChangeAt Go.RowKit Go.Maps
set_option linter.unusedVariables false
set_option linter.unusedSimpArgs false

section
variable {W0 W W' : World} {C0 : Nat → Prop} {b M r k : Nat} {next : Int} {ds : List DG} {D : DataW Unit} {rn : Int} {rds : List DG} {ls : List LK}
theorem find_some {z : Int} {ds : List DG} {i : Nat} (h : ds.findIdx? (fun d => d.num == z) = some i) : ∃ d, ds[i]? = some d ∧ d.num = z := by
  rw [List.findIdx?_eq_some_iff_getElem] at h
  obtain ⟨hl, h1, _⟩ := h
  exact ⟨ds[i], by simp [hl], by simpa using h1⟩
theorem find_none {z : Int} {ds : List DG} (h : ds.findIdx? (fun d => d.num == z) = none) : ∀ d ∈ ds, d.num ≠ z := by
  rw [List.findIdx?_eq_none_iff] at h
  intro d hd
  simpa using h d hd
theorem Bt.take (h : Bt W0 C0 b M r k next ds D rn rds ls W) (G : Good next ds) (z : Int) {i : Nat} {d : DG} (hd : ds[i]? = some d) (hz : d.num = z) :
    Calls Try.prog 18 #[.pointer (some ⟨b, 0, none⟩), .int .i64 z] W fun e W' => e = .returned (.tuple #[dgv d, .int .i64 0]) ∧ Bt W0 C0 b M r k next (ds.eraseIdx i) D rn rds ls W' := by
  obtain ⟨a, cap, ra, rc, la, lc, B, R, h1, h2⟩ := h.out
  refine (take_any b M a _ cap k next ds D z W B G.len G.asc).mono ?_
  rintro e W' (⟨j, d', a', cap', e1, e2, rfl, B', o, ha'⟩ | ⟨hno, _⟩)
  · obtain rfl : i = j := G.one hd e1 (by rw [hz, e2])
    obtain rfl : d' = d := by rw [hd] at e1; cases e1; rfl
    have hl : (ds.eraseIdx i).length = ds.length - 1 := List.length_eraseIdx_of_lt (List.getElem?_eq_some_iff.1 hd).1
    exact ⟨rfl, bt_prog B R h1 h2 h.only o (by rw [hl]; exact B') (fun g off e => .inl (ha' g off e))⟩
  · exact absurd hz (hno d (List.mem_of_getElem? hd))
theorem Bt.take_none (h : Bt W0 C0 b M r k next ds D rn rds ls W) (G : Good next ds) (z : Int) (hno : ∀ d ∈ ds, d.num ≠ z) :
    Calls Try.prog 18 #[.pointer (some ⟨b, 0, none⟩), .int .i64 z] W fun e W' => e = .returned (.tuple #[dgv DG.z, .int .i64 31]) ∧ Bt W0 C0 b M r k next ds D rn rds ls W' := by
  obtain ⟨a, cap, ra, rc, la, lc, B, R, h1, h2⟩ := h.out
  refine (take_any b M a _ cap k next ds D z W B G.len G.asc).mono ?_
  rintro e W' (⟨j, d', a', cap', e1, e2, _⟩ | ⟨_, rfl, hb⟩)
  · exact absurd e2 (hno d' (List.mem_of_getElem? e1))
  · exact ⟨rfl, h.later hb⟩
theorem Bt.double (h : Bt W0 C0 b M r k next ds D rn rds ls W) (G : Good next ds) (z : Int) {i : Nat} {d : DG} (hd : ds[i]? = some d) (hz : d.num = z) {P : PutS} (hP : putS D next ds d.src d.dst d.body = P) :
    Calls Try.prog 17 #[.pointer (some ⟨b, 0, none⟩), .int .i64 z] W fun e W' => e = .returned (.tuple #[.int .i64 P.r0, .int .i64 P.r1]) ∧ Bt W0 C0 b M r k P.next P.ds D rn rds ls W' := by
  obtain ⟨a, cap, ra, rc, la, lc, B, R, h1, h2⟩ := h.out
  subst hP
  refine (double_any b M a _ cap k next ds D z W B G.len G.asc G.i64 G.n0).mono ?_
  rintro e W' (⟨j, d', e1, e2, rfl, ⟨a', cap', B', ha'⟩, o⟩ | ⟨hno, _⟩)
  · obtain rfl : i = j := G.one hd e1 (by rw [hz, e2])
    obtain rfl : d' = d := by rw [hd] at e1; cases e1; rfl
    exact ⟨rfl, bt_prog B R h1 h2 h.only o B' ha'⟩
  · exact absurd hz (hno d (List.mem_of_getElem? hd))
theorem Bt.double_none (h : Bt W0 C0 b M r k next ds D rn rds ls W) (G : Good next ds) (z : Int) (hno : ∀ d ∈ ds, d.num ≠ z) :
    Calls Try.prog 17 #[.pointer (some ⟨b, 0, none⟩), .int .i64 z] W fun e W' => e = .returned (.tuple #[.int .i64 0, .int .i64 31]) ∧ Bt W0 C0 b M r k next ds D rn rds ls W' := by
  obtain ⟨a, cap, ra, rc, la, lc, B, R, h1, h2⟩ := h.out
  refine (double_any b M a _ cap k next ds D z W B G.len G.asc G.i64 G.n0).mono ?_
  rintro e W' (⟨j, d', e1, e2, _⟩ | ⟨_, rfl, hb⟩)
  · exact absurd e2 (hno d' (List.mem_of_getElem? e1))
  · exact ⟨rfl, h.later hb⟩
theorem idx_of {z : Int} {ds : List DG} {i : Nat} (h : ds.findIdx? (fun d => d.num == z) = some i) : idx (fun d => d.num == z) ds = (i : Int) := by unfold idx; rw [h]
theorem idx_no {z : Int} {ds : List DG} (h : ds.findIdx? (fun d => d.num == z) = none) : idx (fun d => d.num == z) ds = -1 := by unfold idx; rw [h]
theorem Bt.rtake (h : Bt W0 C0 b M r k next ds D rn rds ls W) (hn : rds.length ≤ 65536) (z : Int) {i : Nat} {d : DG} (hd : rds[i]? = some d) (hf : rds.findIdx? (fun d => d.num == z) = some i) :
    Calls Try.prog 28 #[.pointer (some ⟨r, 0, none⟩), .int .i64 z] W fun e W' => e = .returned (.tuple #[dgv d, .int .i64 0]) ∧ Bt W0 C0 b M r k next ds D rn (rds.eraseIdx i) ls W' := by
  obtain ⟨a, cap, ra, rc, la, lc, B, R, h1, h2⟩ := h.out
  have hil := (List.getElem?_eq_some_iff.1 hd).1
  rcases R.lst.mem with ⟨rfl, h0⟩ | ⟨g, off, cur, rfl, _⟩
  · have := R.lst.le; omega
  · obtain ⟨num, src, dst, body⟩ := d
    refine (rtake_some r rn g off _ rc rds la _ lc ls z W R i num src dst body hd (idx_of hf) hn).mono ?_
    rintro e W' ⟨rfl, a', c', R', o, ff⟩
    rw [List.eraseIdx_eq_take_drop_succ]
    refine ⟨rfl, bt_ref B R h1 h2 h.only (at1_rag o) R' ?_⟩
    rintro q (e | ⟨off, e⟩ | h)
    · exact .inl (.inl e)
    · exact .inr (ff q off e)
    · exact .inl (.inr (.inr h))
theorem Bt.rtake_none (h : Bt W0 C0 b M r k next ds D rn rds ls W) (z : Int) (hf : rds.findIdx? (fun d => d.num == z) = none) :
    Calls Try.prog 28 #[.pointer (some ⟨r, 0, none⟩), .int .i64 z] W fun e W' => e = .returned (.tuple #[dgv DG.z, .int .i64 31]) ∧ Bt W0 C0 b M r k next ds D rn rds ls W' := by
  obtain ⟨a, cap, ra, rc, la, lc, B, R, h1, h2⟩ := h.out
  exact (Go.Proofs.Ytoppecppmjpgiaa.rtake_none r rn ra _ rc rds la _ lc ls z W R (idx_no hf)).mono fun e W' ⟨he, hb⟩ => ⟨he, h.later hb⟩
theorem Bt.rdouble (h : Bt W0 C0 b M r k next ds D rn rds ls W) (hs0 : 0 ≤ rn) (hs : rn ≤ 4611686018427387904) (z : Int) {i : Nat} {d : DG} (hd : rds[i]? = some d) (hf : rds.findIdx? (fun d => d.num == z) = some i) {P : PutS} (hP : rputS rn rds ls d.src d.dst d.body = P) :
    Calls Try.prog 29 #[.pointer (some ⟨r, 0, none⟩), .int .i64 z] W fun e W' => e = .returned (.tuple #[.int .i64 P.r0, .int .i64 P.r1]) ∧ Bt W0 C0 b M r k next ds D P.next P.ds ls W' := by
  obtain ⟨a, cap, ra, rc, la, lc, B, R, h1, h2⟩ := h.out
  obtain ⟨num, src, dst, body⟩ := d
  subst hP
  refine (rdouble_some r rn ra _ rc rds la _ lc ls z W R hs0 hs i num src dst body hd (idx_of hf)).mono ?_
  rintro e W' ⟨rfl, o, a', cap', R', ha'⟩
  refine ⟨rfl, bt_ref B R h1 h2 h.only (o.mono fun q _ hq => ?_) R' ?_⟩
  · rcases hq with e | ⟨off, e⟩
    · exact .inl e
    · exact .inr (.inl ⟨off, e⟩)
  · rintro q (e | ⟨off, e⟩ | h)
    · exact .inl (.inl e)
    · rcases ha' q off e with ⟨o', e'⟩ | h
      · exact .inl (.inr (.inl ⟨o', e'⟩))
      · exact .inr h
    · exact .inl (.inr (.inr h))
theorem Bt.rdouble_none (h : Bt W0 C0 b M r k next ds D rn rds ls W) (z : Int) (hf : rds.findIdx? (fun d => d.num == z) = none) :
    Calls Try.prog 29 #[.pointer (some ⟨r, 0, none⟩), .int .i64 z] W fun e W' => e = .returned (.tuple #[.int .i64 0, .int .i64 31]) ∧ Bt W0 C0 b M r k next ds D rn rds ls W' := by
  obtain ⟨a, cap, ra, rc, la, lc, B, R, h1, h2⟩ := h.out
  exact (Go.Proofs.Ytoppecppmjpgiaa.rdouble_none r rn ra _ rc rds la _ lc ls z W R (idx_no hf)).mono fun e W' ⟨he, hw⟩ => ⟨he, by rw [hw]; exact h⟩
end
theorem lost_way' (x y : Int) (hxy : x ≠ y) (d : DG) : lostP false true x y d = onWay (min x y) (max x y) d := by
  obtain ⟨n, s, t, _⟩ := d
  simp only [lostP, onWay, Bool.false_or, Bool.true_and]
  rw [Bool.eq_iff_iff]
  simp
  omega
theorem same_zeros (a a' : Option Addr) (c c' : Nat) (w : World) : Calls Try.prog 26 #[.slice a 0 c, .slice a' 0 c'] w fun e w' => e = .returned (.bool true) ∧ Below w.heap.size w w' := by
  go_enter Try.func26, Try.ntmps26
  go_wp2
  refine wp_loop_rounds 1 ?_
  rw [rounds_succ]
  go_wp2
  go_ret
  exact ⟨rfl, Below.refl _ _⟩
/-- Two lists of numbers, of one's own, that are alike. -/
theorem same_own {w : World} {b1 b2 : Nat} {v u : Value} {zs : List Int} (h1 : OwnN b1 w v zs) (h2 : OwnN b2 w u zs) (hn : zs.length ≤ 65536) : Calls Try.prog 26 #[v, u] w fun e w' => e = .returned (.bool true) ∧ Below w.heap.size w w' := by
  by_cases hz : zs.length = 0
  · have hv : ∃ a c, v = .slice a 0 c := by
      rcases h1.2 with ⟨e, _⟩ | ⟨g, cap, cur, e, _⟩
      · exact ⟨none, 0, e⟩
      · exact ⟨_, cap, by rw [e, hz]⟩
    have hu : ∃ a c, u = .slice a 0 c := by
      rcases h2.2 with ⟨e, _⟩ | ⟨g, cap, cur, e, _⟩
      · exact ⟨none, 0, e⟩
      · exact ⟨_, cap, by rw [e, hz]⟩
    obtain ⟨a, c, rfl⟩ := hv
    obtain ⟨a', c', rfl⟩ := hu
    exact same_zeros a a' c c' w
  · rcases id h1.2 with ⟨_, e⟩ | ⟨g, cap, cur, rfl, _⟩
    · exact absurd e hz
    · rcases id h2.2 with ⟨_, e⟩ | ⟨g', cap', cur', rfl, _⟩
      · exact absurd e hz
      · have c1 : ∀ i, i < zs.length → w.cell? ⟨g, i, none⟩ = some (.int .i64 (zs.getD i 0)) := fun i hi => by
          have e := h1.cellAt i (by omega)
          rw [e]
          simp [List.getD, hi, nv]
        have c2 : ∀ i, i < zs.length → w.cell? ⟨g', i, none⟩ = some (.int .i64 (zs.getD i 0)) := fun i hi => by
          have e := h2.cellAt i (by omega)
          rw [e]
          simp [List.getD, hi, nv]
        exact same_nums g g' zs.length cap cap' zs w rfl c1 c2 hn
/-- A state. -/
structure St where
  next : Int
  ds : List DG
  ls : List LK
/-- What one call makes of a state. -/
def stp (q : ActS) (s : St) : St :=
  if q.kd = 1 then ⟨(rputS s.next s.ds s.ls q.x q.y q.s).next, (rputS s.next s.ds s.ls q.x q.y q.s).ds, s.ls⟩
  else if q.kd = 2 then (match s.ds.findIdx? (fun d => d.num == q.nn) with | some i => ⟨s.next, s.ds.eraseIdx i, s.ls⟩ | none => s)
  else if q.kd = 3 then (match s.ds.findIdx? (fun d => d.num == q.nn) with | some i => ⟨(rputS s.next s.ds s.ls (s.ds.getD i DG.z).src (s.ds.getD i DG.z).dst (s.ds.getD i DG.z).body).next, (rputS s.next s.ds s.ls (s.ds.getD i DG.z).src (s.ds.getD i DG.z).dst (s.ds.getD i DG.z).body).ds, s.ls⟩ | none => s)
  else if q.kd = 5 then (if q.x = q.y then s else ⟨s.next, s.ds.filter (fun d => !lostP false true q.x q.y d), sevL ⟨min q.x q.y, max q.x q.y⟩ s.ls⟩)
  else if q.kd = 6 then ⟨s.next, s.ds, menL ⟨min q.x q.y, max q.x q.y⟩ s.ls⟩
  else if q.kd = 7 then ⟨s.next, s.ds.filter (fun d => !onTo q.y d), s.ls⟩
  else s
/-- What holds of a state, and of the map beside it; L: how great it may be. -/
structure Ok (L k : Nat) (D : DataW Unit) (s : St) : Prop where
  good : Good s.next s.ds
  top : s.next ≤ 4611686018427387904
  lnk : Lnk D s.ls
  lt : ∀ d ∈ s.ls, d.fst < d.snd
  tidy : Tidy D
  size : Maps.size D ≤ L
  len : s.ls.length ≤ L
  kk : k ≤ L
theorem rput_good {next : Int} {ds : List DG} (G : Good next ds) (ht : next ≤ 4611686018427387904) (ls : List LK) {x y : Int} (hx : I64 x) (hy : I64 y) (s : ByteArray) : Good (rputS next ds ls x y s).next (rputS next ds ls x y s).ds ∧ (rputS next ds ls x y s).next ≤ 4611686018427387904 := by
  unfold rputS
  split
  · exact ⟨G, ht⟩
  · split
    · exact ⟨G, ht⟩
    · rename_i h
      exact ⟨G.put (by omega) hx hy s, by show next + 1 ≤ _; omega⟩
end Go.Proofs.Ytoppecppmjpgiaa

namespace Go.Proofs.Ytoppecppmjpgiaa
open Go.ChangeShapes Go.WideShapes Go.ChangeAt Go.RowKit Go.Maps
set_option linter.unusedVariables false
set_option linter.unusedSimpArgs false
theorem eql33 (w : World) (a0 a1 a2 : Int) (a3 : ByteArray) : (binOp .eql 33 (.agg #[.int .i64 a0, .int .i64 a1, .int .i64 a2, .string a3]) (.agg #[.int .i64 a0, .int .i64 a1, .int .i64 a2, .string a3])).run Try.prog w = .ok (.bool true) w := by
  rw [run_eql_struct, show (10000 : Nat) = 9998 + 2 from rfl, eq33]
  simp
theorem exec_eql33 {o : Oper} {ρ : Operand → Value} {x y : Operand} (ho : o.op = .binOp .eql 33 x y 33) (a0 a1 a2 : Int) (a3 : ByteArray) (hx : ρ x = .agg #[.int .i64 a0, .int .i64 a1, .int .i64 a2, .string a3]) (hy : ρ y = .agg #[.int .i64 a0, .int .i64 a1, .int .i64 a2, .string a3]) (X : World) : (execOp ρ o).run Try.prog X = .ok (.value (.bool true)) X := by
  have hm : Try.prog.eqGuardType Try.prog.depth 33 = false := by kernel_rfl
  unfold execOp
  simp only [ho, hx, hy, Sem.run_bind, run_eqGuard_agg _ _ _ _ _ _ _ hm, eql33, Result.andThen_ok, Sem.run_pure]
/-- The call's own place. -/
abbrev actO (kd nn x y : Int) (s : ByteArray) : Obj := .cells #[.int .i64 kd, .int .i64 nn, .int .i64 x, .int .i64 y, .string s] 40 (0, 0)
section
variable {W0 W W' : World} {C0 : Nat → Prop} {b M r k : Nat} {next : Int} {ds : List DG} {D : DataW Unit} {rn : Int} {rds : List DG} {ls : List LK}
/-- Both bags, and a block beside them that stays. -/
structure Bz (W1 : World) (C : Nat → Prop) (l : Nat) (o : Obj) (b M r k : Nat) (next : Int) (ds : List DG) (D : DataW Unit) (rn : Int) (rds : List DG) (ls : List LK) (W : World) : Prop where
  bt : Bt W1 C b M r k next ds D rn rds ls W
  lt : l < W1.heap.size
  no : ¬ C l
  was : W1.heap[l]? = some o
theorem Bz.at_ {W1 : World} {C : Nat → Prop} {l : Nat} {o : Obj} (h : Bz W1 C l o b M r k next ds D rn rds ls W) : W.heap[l]? = some o := (h.bt.only.block l h.lt h.no).trans h.was
/-- From the state ahead of a call to that within it. -/
theorem Bt.within (h : Bt W0 C0 b M r k next ds D rn rds ls W) (kd nn x y : Int) (s : ByteArray) :
    ∃ W1 C, W.alloc (.cells #[.int .i64 kd, .int .i64 nn, .int .i64 x, .int .i64 y, .string s] 40) = W1 ∧ Bz W1 C W.heap.size (actO kd nn x y s) b M r k next ds D rn rds ls W1 ∧
      ∀ (k' : Nat) (next' : Int) (ds' : List DG) (D' : DataW Unit) (rn' : Int) (rds' : List DG) (ls' : List LK) (W' : World), Bt W1 C b M r k' next' ds' D' rn' rds' ls' W' → Bt W0 C0 b M r k' next' ds' D' rn' rds' ls' W' := by
  obtain ⟨a, cap, ra, rc, la, lc, B, R, h1, h2⟩ := h.out
  have hbC := B.ltC
  have hrC := R.ltC
  have b1 : Below W.heap.size W (W.alloc (.cells #[.int .i64 kd, .int .i64 nn, .int .i64 x, .int .i64 y, .string s] 40)) := (Below.refl _ _).alloc (Nat.le_refl _) _
  refine ⟨_, fun q => bagC b M a q ∨ ragC r ra la q, rfl, ⟨⟨⟨a, cap, ra, rc, la, lc, B.below b1, R.below b1, h1, fun q hq => .inl hq⟩, Only.refl _ _⟩, by simp, fun hc => ?_, World.alloc_heap_new _ _⟩, ?_⟩
  · rcases hc with hc | hc
    · have := hbC _ hc; omega
    · have := hrC _ hc; omega
  · rintro k' next' ds' D' rn' rds' ls' W' T
    obtain ⟨a', cap', ra', rc', la', lc', B', R', g1, g2⟩ := T.out
    have hs : W.heap.size ≤ (W.alloc (.cells #[.int .i64 kd, .int .i64 nn, .int .i64 x, .int .i64 y, .string s] 40)).heap.size := b1.size
    refine ⟨⟨a', cap', ra', rc', la', lc', B', R', g1, fun q hq => ?_⟩, ?_⟩
    · rcases g2 q hq with hc | hc
      · exact h2 q hc
      · exact .inr (by have := h.only.size; omega)
    · have o := T.only
      refine ⟨o.os.trans (b1.os.trans h.only.os), o.tape.trans (b1.tape.trans h.only.tape), o.output.trans (b1.output.trans h.only.output), Nat.le_trans h.only.size (Nat.le_trans hs o.size), fun q hq hn => ?_⟩
      have hqW : q < W.heap.size := Nat.lt_of_lt_of_le hq h.only.size
      refine (o.block q (by omega) (fun hc => ?_)).trans ((b1.block q hqW).trans (h.only.block q hq hn))
      rcases h2 q hc with h | h
      · exact hn h
      · omega
theorem Bt.within' (h : Bt W0 C0 b M r k next ds D rn rds ls W) (cs : Array Value) (t : TypeId) :
    ∃ W1 C, W.alloc (.cells cs t) = W1 ∧ Bz W1 C W.heap.size (.cells cs t (0, 0)) b M r k next ds D rn rds ls W1 ∧
      ∀ (k' : Nat) (next' : Int) (ds' : List DG) (D' : DataW Unit) (rn' : Int) (rds' : List DG) (ls' : List LK) (W' : World), Bt W1 C b M r k' next' ds' D' rn' rds' ls' W' → Bt W0 C0 b M r k' next' ds' D' rn' rds' ls' W' := by
  obtain ⟨a, cap, ra, rc, la, lc, B, R, h1, h2⟩ := h.out
  have hbC := B.ltC
  have hrC := R.ltC
  have b1 : Below W.heap.size W (W.alloc (.cells cs t)) := (Below.refl _ _).alloc (Nat.le_refl _) _
  refine ⟨_, fun q => bagC b M a q ∨ ragC r ra la q, rfl, ⟨⟨⟨a, cap, ra, rc, la, lc, B.below b1, R.below b1, h1, fun q hq => .inl hq⟩, Only.refl _ _⟩, by simp, fun hc => ?_, World.alloc_heap_new _ _⟩, ?_⟩
  · rcases hc with hc | hc
    · have := hbC _ hc; omega
    · have := hrC _ hc; omega
  · rintro k' next' ds' D' rn' rds' ls' W' T
    obtain ⟨a', cap', ra', rc', la', lc', B', R', g1, g2⟩ := T.out
    have hs : W.heap.size ≤ (W.alloc (.cells cs t)).heap.size := b1.size
    refine ⟨⟨a', cap', ra', rc', la', lc', B', R', g1, fun q hq => ?_⟩, ?_⟩
    · rcases g2 q hq with hc | hc
      · exact h2 q hc
      · exact .inr (by have := h.only.size; omega)
    · have o := T.only
      refine ⟨o.os.trans (b1.os.trans h.only.os), o.tape.trans (b1.tape.trans h.only.tape), o.output.trans (b1.output.trans h.only.output), Nat.le_trans h.only.size (Nat.le_trans hs o.size), fun q hq hn => ?_⟩
      have hqW : q < W.heap.size := Nat.lt_of_lt_of_le hq h.only.size
      refine (o.block q (by omega) (fun hc => ?_)).trans ((b1.block q hqW).trans (h.only.block q hq hn))
      rcases h2 q hc with h | h
      · exact hn h
      · omega
end
set_option maxRecDepth 100000 in
set_option maxHeartbeats 8000000 in
theorem act_put {W0 W : World} {C0 : Nat → Prop} {b M r k : Nat} {D : DataW Unit} (s0 : St) {L : Nat} (h : Bt W0 C0 b M r k s0.next s0.ds D s0.next s0.ds s0.ls W) (O : Ok L k D s0) (hL : L < 8796093022206) (nn x y : Int) (s : ByteArray) (hx : I64 x) (hy : I64 y) :
    Calls Try.prog 11 #[.pointer (some ⟨b, 0, none⟩), .pointer (some ⟨r, 0, none⟩), act5 1 nn x y s] W fun e W' => e = .returned (.bool true) ∧ ∃ k' D', Bt W0 C0 b M r k' (stp ⟨1, nn, x, y, s⟩ s0).next (stp ⟨1, nn, x, y, s⟩ s0).ds D' (stp ⟨1, nn, x, y, s⟩ s0).next (stp ⟨1, nn, x, y, s⟩ s0).ds (stp ⟨1, nn, x, y, s⟩ s0).ls W' ∧ Ok (L + 1) k' D' (stp ⟨1, nn, x, y, s⟩ s0) := by
  obtain ⟨W1, C, hW1, Z, back⟩ := h.within 1 nn x y s
  obtain ⟨next, ds, ls⟩ := s0
  have f0 := row_cell Z.at_ 0 _ rfl
  have f1 := row_cell Z.at_ 1 _ rfl
  have f2 := row_cell Z.at_ 2 _ rfl
  have f3 := row_cell Z.at_ 3 _ rfl
  have f4 := row_cell Z.at_ 4 _ rfl
  have HB : Hid (∀ (k' : Nat) (next' : Int) (ds' : List DG) (D' : DataW Unit) (rn' : Int) (rds' : List DG) (ls' : List LK) (W' : World), Bt W1 C b M r k' next' ds' D' rn' rds' ls' W' → Bt W0 C0 b M r k' next' ds' D' rn' rds' ls' W') := ⟨back⟩
  have HO : Hid (Ok L k D ⟨next, ds, ls⟩) := ⟨O⟩
  clear h O back
  simp only at Z
  obtain ⟨⟨r0, r1, n', ds'⟩, hP⟩ : ∃ P, rputS next ds ls x y s = P := ⟨_, rfl⟩
  have hPp : putS D next ds x y s = ⟨r0, r1, n', ds'⟩ := by rw [put_same HO.out.lnk hx hy next ds s HO.out.top]; exact hP
  have K1 := Z.bt.put HO.out.good.n0 x y s hx hy hPp
  have HS : Hid (stp ⟨1, nn, x, y, s⟩ ⟨next, ds, ls⟩ = ⟨n', ds', ls⟩) := ⟨by unfold stp; rw [if_pos rfl]; simp only [hP]⟩
  have HG : Hid (Good n' ds' ∧ n' ≤ 4611686018427387904) := ⟨by have := rput_good HO.out.good HO.out.top ls hx hy s; rw [hP] at this; exact this⟩
  have H0 : Hid (0 ≤ next ∧ next ≤ 4611686018427387904) := ⟨HO.out.good.n0, HO.out.top⟩
  clear hPp
  go_enter Try.func11, Try.ntmps11
  go_wp2_with (first
    | (go_at_call 16; go_must (refine K1.mono ?_; clear K1; rintro e W2 ⟨rfl, T2⟩; have Z2 : Bz W1 C _ _ b M r _ _ _ _ _ _ _ W2 := ⟨T2, Z.lt, Z.no, Z.was⟩; have g2 := row_cell Z2.at_ 2 _ rfl; have g3 := row_cell Z2.at_ 3 _ rfl; have g4 := row_cell Z2.at_ 4 _ rfl; have K2 := T2.rput H0.out.1 H0.out.2 x y s hP))
    | (go_at_call 27; go_must (refine K2.mono ?_; clear K2; rintro e W3 ⟨rfl, T3⟩)))
  go_ret
  rw [HS.out]
  exact ⟨rfl, k, D, HB.out _ _ _ _ _ _ _ _ T3, by have O := HO.out; exact ⟨HG.out.1, HG.out.2, O.lnk, O.lt, O.tidy, Nat.le_succ_of_le O.size, Nat.le_succ_of_le O.len, Nat.le_succ_of_le O.kk⟩⟩
set_option maxRecDepth 100000 in
set_option maxHeartbeats 8000000 in
theorem act_double {W0 W : World} {C0 : Nat → Prop} {b M r k : Nat} {D : DataW Unit} (s0 : St) {L : Nat} (h : Bt W0 C0 b M r k s0.next s0.ds D s0.next s0.ds s0.ls W) (O : Ok L k D s0) (hL : L < 8796093022206) (nn x y : Int) (s : ByteArray) (hx : I64 x) (hy : I64 y) :
    Calls Try.prog 11 #[.pointer (some ⟨b, 0, none⟩), .pointer (some ⟨r, 0, none⟩), act5 3 nn x y s] W fun e W' => e = .returned (.bool true) ∧ ∃ k' D', Bt W0 C0 b M r k' (stp ⟨3, nn, x, y, s⟩ s0).next (stp ⟨3, nn, x, y, s⟩ s0).ds D' (stp ⟨3, nn, x, y, s⟩ s0).next (stp ⟨3, nn, x, y, s⟩ s0).ds (stp ⟨3, nn, x, y, s⟩ s0).ls W' ∧ Ok (L + 1) k' D' (stp ⟨3, nn, x, y, s⟩ s0) := by
  obtain ⟨W1, C, hW1, Z, back⟩ := h.within 3 nn x y s
  obtain ⟨next, ds, ls⟩ := s0
  have f0 := row_cell Z.at_ 0 _ rfl
  have f1 := row_cell Z.at_ 1 _ rfl
  have f2 := row_cell Z.at_ 2 _ rfl
  have f3 := row_cell Z.at_ 3 _ rfl
  have f4 := row_cell Z.at_ 4 _ rfl
  have HB : Hid (∀ (k' : Nat) (next' : Int) (ds' : List DG) (D' : DataW Unit) (rn' : Int) (rds' : List DG) (ls' : List LK) (W' : World), Bt W1 C b M r k' next' ds' D' rn' rds' ls' W' → Bt W0 C0 b M r k' next' ds' D' rn' rds' ls' W') := ⟨back⟩
  have HO : Hid (Ok L k D ⟨next, ds, ls⟩) := ⟨O⟩
  clear h O back
  simp only at Z
  cases hf : ds.findIdx? (fun d => d.num == nn) with
  | none =>
    have HS : Hid (stp ⟨3, nn, x, y, s⟩ ⟨next, ds, ls⟩ = ⟨next, ds, ls⟩) := ⟨by simp [stp, hf]⟩
    have K1 := Z.bt.double_none HO.out.good nn (find_none hf)
    have HF : Hid (ds.findIdx? (fun d => d.num == nn) = none) := ⟨hf⟩
    clear hf
    go_enter Try.func11, Try.ntmps11
    go_wp2_with (first
      | (go_at_call 17; go_must (refine K1.mono ?_; clear K1; rintro e W2 ⟨rfl, T2⟩; have Z2 : Bz W1 C _ _ b M r _ _ _ _ _ _ _ W2 := ⟨T2, Z.lt, Z.no, Z.was⟩; have g1 := row_cell Z2.at_ 1 _ rfl; have K2 := T2.rdouble_none nn HF.out))
      | (go_at_call 29; go_must (refine K2.mono ?_; clear K2; rintro e W3 ⟨rfl, T3⟩)))
    go_ret
    rw [HS.out]
    exact ⟨rfl, k, D, HB.out _ _ _ _ _ _ _ _ T3, by have O := HO.out; exact ⟨O.good, O.top, O.lnk, O.lt, O.tidy, Nat.le_succ_of_le O.size, Nat.le_succ_of_le O.len, Nat.le_succ_of_le O.kk⟩⟩
  | some i =>
    obtain ⟨d, hd, hz⟩ := find_some hf
    have hgd : ds.getD i DG.z = d := by simp [List.getD, hd]
    have hi64 := HO.out.good.i64 d (List.mem_of_getElem? hd)
    obtain ⟨⟨r0, r1, n', ds'⟩, hP⟩ : ∃ P, rputS next ds ls d.src d.dst d.body = P := ⟨_, rfl⟩
    have hPp : putS D next ds d.src d.dst d.body = ⟨r0, r1, n', ds'⟩ := by rw [put_same HO.out.lnk hi64.1 hi64.2 next ds d.body HO.out.top]; exact hP
    have HS : Hid (stp ⟨3, nn, x, y, s⟩ ⟨next, ds, ls⟩ = ⟨n', ds', ls⟩) := ⟨by simp only [stp, hf]; rw [hgd, hP]; rfl⟩
    have HG : Hid (Good n' ds' ∧ n' ≤ 4611686018427387904) := ⟨by have := rput_good HO.out.good HO.out.top ls hi64.1 hi64.2 d.body; rw [hP] at this; exact this⟩
    have H0 : Hid (0 ≤ next ∧ next ≤ 4611686018427387904) := ⟨HO.out.good.n0, HO.out.top⟩
    have K1 := Z.bt.double HO.out.good nn hd hz hPp
    have HF : Hid (ds.findIdx? (fun d => d.num == nn) = some i ∧ ds[i]? = some d ∧ rputS next ds ls d.src d.dst d.body = ⟨r0, r1, n', ds'⟩) := ⟨hf, hd, hP⟩
    clear hf hd hz hgd hP hPp hi64
    go_enter Try.func11, Try.ntmps11
    go_wp2_with (first
      | (go_at_call 17; go_must (refine K1.mono ?_; clear K1; rintro e W2 ⟨rfl, T2⟩; have Z2 : Bz W1 C _ _ b M r _ _ _ _ _ _ _ W2 := ⟨T2, Z.lt, Z.no, Z.was⟩; have g1 := row_cell Z2.at_ 1 _ rfl; have K2 := T2.rdouble H0.out.1 H0.out.2 nn HF.out.2.1 HF.out.1 HF.out.2.2))
      | (go_at_call 29; go_must (refine K2.mono ?_; clear K2; rintro e W3 ⟨rfl, T3⟩)))
    go_ret
    rw [HS.out]
    exact ⟨rfl, k, D, HB.out _ _ _ _ _ _ _ _ T3, by have O := HO.out; exact ⟨HG.out.1, HG.out.2, O.lnk, O.lt, O.tidy, Nat.le_succ_of_le O.size, Nat.le_succ_of_le O.len, Nat.le_succ_of_le O.kk⟩⟩
set_option maxRecDepth 100000 in
set_option maxHeartbeats 8000000 in
theorem act_take {W0 W : World} {C0 : Nat → Prop} {b M r k : Nat} {D : DataW Unit} (s0 : St) {L : Nat} (h : Bt W0 C0 b M r k s0.next s0.ds D s0.next s0.ds s0.ls W) (O : Ok L k D s0) (hL : L < 8796093022206) (nn x y : Int) (s : ByteArray) (hx : I64 x) (hy : I64 y) :
    Calls Try.prog 11 #[.pointer (some ⟨b, 0, none⟩), .pointer (some ⟨r, 0, none⟩), act5 2 nn x y s] W fun e W' => e = .returned (.bool true) ∧ ∃ k' D', Bt W0 C0 b M r k' (stp ⟨2, nn, x, y, s⟩ s0).next (stp ⟨2, nn, x, y, s⟩ s0).ds D' (stp ⟨2, nn, x, y, s⟩ s0).next (stp ⟨2, nn, x, y, s⟩ s0).ds (stp ⟨2, nn, x, y, s⟩ s0).ls W' ∧ Ok (L + 1) k' D' (stp ⟨2, nn, x, y, s⟩ s0) := by
  obtain ⟨W1, C, hW1, Z, back⟩ := h.within 2 nn x y s
  obtain ⟨next, ds, ls⟩ := s0
  have f0 := row_cell Z.at_ 0 _ rfl
  have f1 := row_cell Z.at_ 1 _ rfl
  have f2 := row_cell Z.at_ 2 _ rfl
  have f3 := row_cell Z.at_ 3 _ rfl
  have f4 := row_cell Z.at_ 4 _ rfl
  have HB : Hid (∀ (k' : Nat) (next' : Int) (ds' : List DG) (D' : DataW Unit) (rn' : Int) (rds' : List DG) (ls' : List LK) (W' : World), Bt W1 C b M r k' next' ds' D' rn' rds' ls' W' → Bt W0 C0 b M r k' next' ds' D' rn' rds' ls' W') := ⟨back⟩
  have HO : Hid (Ok L k D ⟨next, ds, ls⟩) := ⟨O⟩
  clear h O back
  simp only at Z
  cases hf : ds.findIdx? (fun d => d.num == nn) with
  | none =>
    have HS : Hid (stp ⟨2, nn, x, y, s⟩ ⟨next, ds, ls⟩ = ⟨next, ds, ls⟩) := ⟨by simp [stp, hf]⟩
    have K1 := Z.bt.take_none HO.out.good nn (find_none hf)
    simp only [dgv, DG.z] at K1
    have HF : Hid (ds.findIdx? (fun d => d.num == nn) = none) := ⟨hf⟩
    clear hf
    go_enter Try.func11, Try.ntmps11
    go_wp2_with (first
      | (go_at_call 18; go_must (refine K1.mono ?_; clear K1; rintro e W2 ⟨rfl, T2⟩; have Z2 : Bz W1 C _ _ b M r _ _ _ _ _ _ _ W2 := ⟨T2, Z.lt, Z.no, Z.was⟩; obtain ⟨W3, C3, rfl, Z3, bk3⟩ := T2.within' #[.int .i64 (0), .int .i64 (0), .int .i64 (0), .string ({ data := #[] })] 33; have G3 := (Below.heap_alloc W2 (.cells #[.int .i64 (0), .int .i64 (0), .int .i64 (0), .string ({ data := #[] })] 33) _ (row_lt Z2.at_)).trans Z2.at_; have g1 := row_cell G3 1 _ rfl; have K2 := Z3.bt.rtake_none nn HF.out; simp only [dgv, DG.z] at K2))
      | (go_at_call 28; go_must (refine K2.mono ?_; clear K2; rintro e W4 ⟨rfl, T4⟩; have X4 := (T4.only.block _ Z3.lt Z3.no).trans Z3.was; have T5 := T4.later ((Below.refl _ _).alloc (Nat.le_refl _) (.cells #[.int .i64 (0), .int .i64 (0), .int .i64 (0), .string ({ data := #[] })] 33)); have Y4 := World.alloc_heap_new W4 (.cells #[.int .i64 (0), .int .i64 (0), .int .i64 (0), .string ({ data := #[] })] 33); have X5 := (Below.heap_alloc W4 (.cells #[.int .i64 (0), .int .i64 (0), .int .i64 (0), .string ({ data := #[] })] 33) _ (row_lt X4)).trans X4))
      | ((with_reducible show wpList _ _ _ (Oper.mk _ (Op.load 33 (Operand.tmp 11)) _ _ _ _ :: _) _ _); go_must (refine wpList_load33x rfl _ rfl W2.heap.size 0 (0) (0) (0) ({ data := #[] }) rfl (fun j u hj => (by rw [Nat.zero_add]; exact row_cell X5 j u (by simpa [DG.cells] using hj))) ?_))
      | ((with_reducible show wpList _ _ _ (Oper.mk _ (Op.load 33 (Operand.tmp 13)) _ _ _ _ :: _) _ _); go_must (refine wpList_load33x rfl _ rfl W4.heap.size 0 (0) (0) (0) ({ data := #[] }) rfl (fun j u hj => (by rw [Nat.zero_add]; exact row_cell Y4 j u (by simpa [DG.cells] using hj))) ?_))
      | ((with_reducible show wpList _ _ _ (Oper.mk _ (Op.binOp .eql 33 _ _ 33) _ _ _ _ :: _) _ _); go_must (refine wpList_wanted (by rfl) (.bool true) (exec_eql33 rfl (0) (0) (0) ({ data := #[] }) rfl rfl _) ?_)))
    go_ret
    rw [HS.out]
    exact ⟨rfl, k, D, HB.out _ _ _ _ _ _ _ _ (bk3 _ _ _ _ _ _ _ _ T5), by have O := HO.out; exact ⟨O.good, O.top, O.lnk, O.lt, O.tidy, Nat.le_succ_of_le O.size, Nat.le_succ_of_le O.len, Nat.le_succ_of_le O.kk⟩⟩
  | some i =>
    obtain ⟨⟨num, src, dst, body⟩, hd, hz⟩ := find_some hf
    have HS : Hid (stp ⟨2, nn, x, y, s⟩ ⟨next, ds, ls⟩ = ⟨next, ds.eraseIdx i, ls⟩) := ⟨by simp [stp, hf]⟩
    have K1 := Z.bt.take HO.out.good nn hd hz
    simp only [dgv] at K1
    have HF : Hid (ds.findIdx? (fun d => d.num == nn) = some i ∧ ds[i]? = some ⟨num, src, dst, body⟩ ∧ ds.length ≤ 65536) := ⟨hf, hd, HO.out.good.len⟩
    clear hf hd hz
    go_enter Try.func11, Try.ntmps11
    go_wp2_with (first
      | (go_at_call 18; go_must (refine K1.mono ?_; clear K1; rintro e W2 ⟨rfl, T2⟩; have Z2 : Bz W1 C _ _ b M r _ _ _ _ _ _ _ W2 := ⟨T2, Z.lt, Z.no, Z.was⟩; obtain ⟨W3, C3, rfl, Z3, bk3⟩ := T2.within' #[.int .i64 (num), .int .i64 (src), .int .i64 (dst), .string (body)] 33; have G3 := (Below.heap_alloc W2 (.cells #[.int .i64 (num), .int .i64 (src), .int .i64 (dst), .string (body)] 33) _ (row_lt Z2.at_)).trans Z2.at_; have g1 := row_cell G3 1 _ rfl; have K2 := Z3.bt.rtake HF.out.2.2 nn HF.out.2.1 HF.out.1; simp only [dgv, DG.z] at K2))
      | (go_at_call 28; go_must (refine K2.mono ?_; clear K2; rintro e W4 ⟨rfl, T4⟩; have X4 := (T4.only.block _ Z3.lt Z3.no).trans Z3.was; have T5 := T4.later ((Below.refl _ _).alloc (Nat.le_refl _) (.cells #[.int .i64 (num), .int .i64 (src), .int .i64 (dst), .string (body)] 33)); have Y4 := World.alloc_heap_new W4 (.cells #[.int .i64 (num), .int .i64 (src), .int .i64 (dst), .string (body)] 33); have X5 := (Below.heap_alloc W4 (.cells #[.int .i64 (num), .int .i64 (src), .int .i64 (dst), .string (body)] 33) _ (row_lt X4)).trans X4))
      | ((with_reducible show wpList _ _ _ (Oper.mk _ (Op.load 33 (Operand.tmp 11)) _ _ _ _ :: _) _ _); go_must (refine wpList_load33x rfl _ rfl W2.heap.size 0 (num) (src) (dst) (body) rfl (fun j u hj => (by rw [Nat.zero_add]; exact row_cell X5 j u (by simpa [DG.cells] using hj))) ?_))
      | ((with_reducible show wpList _ _ _ (Oper.mk _ (Op.load 33 (Operand.tmp 13)) _ _ _ _ :: _) _ _); go_must (refine wpList_load33x rfl _ rfl W4.heap.size 0 (num) (src) (dst) (body) rfl (fun j u hj => (by rw [Nat.zero_add]; exact row_cell Y4 j u (by simpa [DG.cells] using hj))) ?_))
      | ((with_reducible show wpList _ _ _ (Oper.mk _ (Op.binOp .eql 33 _ _ 33) _ _ _ _ :: _) _ _); go_must (refine wpList_wanted (by rfl) (.bool true) (exec_eql33 rfl (num) (src) (dst) (body) rfl rfl _) ?_)))
    go_ret
    rw [HS.out]
    exact ⟨rfl, k, D, HB.out _ _ _ _ _ _ _ _ (bk3 _ _ _ _ _ _ _ _ T5), by have O := HO.out; exact ⟨O.good.sub (List.eraseIdx_sublist _ _), O.top, O.lnk, O.lt, O.tidy, Nat.le_succ_of_le O.size, Nat.le_succ_of_le O.len, Nat.le_succ_of_le O.kk⟩⟩
set_option maxRecDepth 100000 in
set_option maxHeartbeats 8000000 in
theorem act_forget {W0 W : World} {C0 : Nat → Prop} {b M r k : Nat} {D : DataW Unit} (s0 : St) {L : Nat} (h : Bt W0 C0 b M r k s0.next s0.ds D s0.next s0.ds s0.ls W) (O : Ok L k D s0) (hL : L < 8796093022206) (nn x y : Int) (s : ByteArray) (hx : I64 x) (hy : I64 y) :
    Calls Try.prog 11 #[.pointer (some ⟨b, 0, none⟩), .pointer (some ⟨r, 0, none⟩), act5 7 nn x y s] W fun e W' => e = .returned (.bool true) ∧ ∃ k' D', Bt W0 C0 b M r k' (stp ⟨7, nn, x, y, s⟩ s0).next (stp ⟨7, nn, x, y, s⟩ s0).ds D' (stp ⟨7, nn, x, y, s⟩ s0).next (stp ⟨7, nn, x, y, s⟩ s0).ds (stp ⟨7, nn, x, y, s⟩ s0).ls W' ∧ Ok (L + 1) k' D' (stp ⟨7, nn, x, y, s⟩ s0) := by
  obtain ⟨W1, C, hW1, Z, back⟩ := h.within 7 nn x y s
  obtain ⟨next, ds, ls⟩ := s0
  have f0 := row_cell Z.at_ 0 _ rfl
  have f1 := row_cell Z.at_ 1 _ rfl
  have f2 := row_cell Z.at_ 2 _ rfl
  have f3 := row_cell Z.at_ 3 _ rfl
  have f4 := row_cell Z.at_ 4 _ rfl
  have HB : Hid (∀ (k' : Nat) (next' : Int) (ds' : List DG) (D' : DataW Unit) (rn' : Int) (rds' : List DG) (ls' : List LK) (W' : World), Bt W1 C b M r k' next' ds' D' rn' rds' ls' W' → Bt W0 C0 b M r k' next' ds' D' rn' rds' ls' W') := ⟨back⟩
  have HO : Hid (Ok L k D ⟨next, ds, ls⟩) := ⟨O⟩
  clear h O back
  simp only at Z
  have HS : Hid (stp ⟨7, nn, x, y, s⟩ ⟨next, ds, ls⟩ = ⟨next, ds.filter (fun d => !onTo y d), ls⟩) := ⟨by simp [stp]⟩
  have HN : Hid (ds.length ≤ 65536) := ⟨HO.out.good.len⟩
  have Zd : Bz W1 C _ _ b M r k next ds D next ds ls W1.drew := ⟨Z.bt.later ((Below.refl _ _).drew), Z.lt, Z.no, Z.was⟩
  have K1 := Zd.bt.forget y rfl
  go_enter Try.func11, Try.ntmps11
  go_wp2
  refine wp_region_any (by kernel_rfl) ?_
  change wpAny _ _ _ _ _ _ _ (World.drew _)
  refine wpAny_narrow (fun X => X.heap[W.heap.size]? = some (actO 7 nn x y s)) _ _ _ _ ?_
  refine anyH_take 0 148 (.pointer (some ⟨b, 0, none⟩)) rfl rfl (by kernel_rfl) (by kernel_rfl) (by kernel_rfl) (fun _ _ _ h => h) (Or.inl ⟨by rfl, by intro w hSw; go_simp⟩) (Z.at_) ?_
  try simp only [Act.put, List.setIfInBounds_toArray, List.set_cons_zero, List.set_cons_succ]
  refine anyH_take 1 149 (.pointer (some ⟨W.heap.size, 3, none⟩)) rfl rfl (by kernel_rfl) (by kernel_rfl) (by kernel_rfl) (fun _ _ _ h => h) (Or.inl ⟨by rfl, by intro w hSw; go_simp⟩) (Z.at_) ?_
  try simp only [Act.put, List.setIfInBounds_toArray, List.set_cons_zero, List.set_cons_succ]
  refine anyH_take 2 150 (.int .i64 y) rfl rfl (by kernel_rfl) (by kernel_rfl) (by kernel_rfl) (fun _ _ _ h => h) (Or.inl ⟨by rfl, by intro w hSw; have k0 := row_cell hSw 3 _ rfl; go_simp⟩) (Z.at_) ?_
  try simp only [Act.put, List.setIfInBounds_toArray, List.set_cons_zero, List.set_cons_succ]
  refine anyH_take 4 152 (.pointer (some ⟨r, 0, none⟩)) rfl rfl (by kernel_rfl) (by kernel_rfl) (by kernel_rfl) (fun _ _ _ h => h) (Or.inl ⟨by rfl, by intro w hSw; go_simp⟩) (Z.at_) ?_
  try simp only [Act.put, List.setIfInBounds_toArray, List.set_cons_zero, List.set_cons_succ]
  refine anyH_take 5 153 (.pointer (some ⟨W.heap.size, 3, none⟩)) rfl rfl (by kernel_rfl) (by kernel_rfl) (by kernel_rfl) (fun _ _ _ h => h) (Or.inl ⟨by rfl, by intro w hSw; go_simp⟩) (Z.at_) ?_
  try simp only [Act.put, List.setIfInBounds_toArray, List.set_cons_zero, List.set_cons_succ]
  refine anyH_take 6 154 (.int .i64 y) rfl rfl (by kernel_rfl) (by kernel_rfl) (by kernel_rfl) (fun _ _ _ h => h) (Or.inl ⟨by rfl, by intro w hSw; have k0 := row_cell hSw 3 _ rfl; go_simp⟩) (Z.at_) ?_
  try simp only [Act.put, List.setIfInBounds_toArray, List.set_cons_zero, List.set_cons_succ]
  refine wpAnyH_ready (rs := [3]) (by kernel_rfl) (by simp) ?_
  refine AllReadyH.cons rfl (fun K hK => ?_) AllReadyH.nil
  go_simp
  go_wp2_with (go_at_call 22; go_must (refine K1.mono ?_; clear K1; rintro e W2 ⟨rfl, T2⟩; have Z2 : Bz W1 C _ _ b M r _ _ _ _ _ _ _ W2 := ⟨T2, Z.lt, Z.no, Z.was⟩; have K2 := T2.rforget HN.out y rfl))
  refine hK.out _ _ (Z2.at_) (fun hS => ?_)
  clear hK
  refine wpAnyH_ready (rs := [7]) (by kernel_rfl) (by simp) ?_
  refine AllReadyH.cons rfl (fun K hK => ?_) AllReadyH.nil
  go_simp
  go_wp2_with (go_at_call 33; go_must (refine K2.mono ?_; clear K2; rintro e W3 ⟨rfl, T3⟩; have Z3 : Bz W1 C _ _ b M r _ _ _ _ _ _ _ W3 := ⟨T3, Z.lt, Z.no, Z.was⟩))
  refine hK.out _ _ (Z3.at_) (fun hS => ?_)
  clear hK
  refine anyH_take 8 156 (.bool true) rfl rfl (by kernel_rfl) (by kernel_rfl) (by kernel_rfl) (fun _ _ _ h => h) (Or.inl ⟨by rfl, by intro w hSw; go_simp⟩) (Z3.at_) ?_
  try simp only [Act.put, List.setIfInBounds_toArray, List.set_cons_zero, List.set_cons_succ]
  refine anyH_take 9 6 (.bool true) rfl rfl (by kernel_rfl) (by kernel_rfl) (by kernel_rfl) (fun _ _ _ h => h) (Or.inl ⟨by rfl, by intro w hSw; go_simp⟩) (Z3.at_) ?_
  try simp only [Act.put, List.setIfInBounds_toArray, List.set_cons_zero, List.set_cons_succ]
  refine wpAnyH_done (by kernel_rfl) ?_ _
  go_wp2
  go_ret
  rw [HS.out]
  exact ⟨rfl, _, _, HB.out _ _ _ _ _ _ _ _ T3, by have O := HO.out; exact ⟨O.good.sub List.filter_sublist, O.top, O.lnk, O.lt, O.tidy, Nat.le_succ_of_le O.size, Nat.le_succ_of_le O.len, Nat.le_succ_of_le O.kk⟩⟩
set_option maxRecDepth 100000 in
set_option maxHeartbeats 8000000 in
theorem act_mend {W0 W : World} {C0 : Nat → Prop} {b M r k : Nat} {D : DataW Unit} (s0 : St) {L : Nat} (h : Bt W0 C0 b M r k s0.next s0.ds D s0.next s0.ds s0.ls W) (O : Ok L k D s0) (hL : L < 8796093022206) (nn x y : Int) (s : ByteArray) (hx : I64 x) (hy : I64 y) :
    Calls Try.prog 11 #[.pointer (some ⟨b, 0, none⟩), .pointer (some ⟨r, 0, none⟩), act5 6 nn x y s] W fun e W' => e = .returned (.bool true) ∧ ∃ k' D', Bt W0 C0 b M r k' (stp ⟨6, nn, x, y, s⟩ s0).next (stp ⟨6, nn, x, y, s⟩ s0).ds D' (stp ⟨6, nn, x, y, s⟩ s0).next (stp ⟨6, nn, x, y, s⟩ s0).ds (stp ⟨6, nn, x, y, s⟩ s0).ls W' ∧ Ok (L + 1) k' D' (stp ⟨6, nn, x, y, s⟩ s0) := by
  obtain ⟨W1, C, hW1, Z, back⟩ := h.within 6 nn x y s
  obtain ⟨next, ds, ls⟩ := s0
  have f0 := row_cell Z.at_ 0 _ rfl
  have f1 := row_cell Z.at_ 1 _ rfl
  have f2 := row_cell Z.at_ 2 _ rfl
  have f3 := row_cell Z.at_ 3 _ rfl
  have f4 := row_cell Z.at_ 4 _ rfl
  have HB : Hid (∀ (k' : Nat) (next' : Int) (ds' : List DG) (D' : DataW Unit) (rn' : Int) (rds' : List DG) (ls' : List LK) (W' : World), Bt W1 C b M r k' next' ds' D' rn' rds' ls' W' → Bt W0 C0 b M r k' next' ds' D' rn' rds' ls' W') := ⟨back⟩
  have HO : Hid (Ok L k D ⟨next, ds, ls⟩) := ⟨O⟩
  clear h O back
  simp only at Z
  have HS : Hid (stp ⟨6, nn, x, y, s⟩ ⟨next, ds, ls⟩ = ⟨next, ds, menL ⟨min x y, max x y⟩ ls⟩) := ⟨by simp [stp]⟩
  have HM : Hid (ls.length * 16 ≤ 140737488355328) := ⟨by have : ls.length ≤ L := HO.out.len; omega⟩
  have HC : Hid (cut D x y = decide (0 ≤ idxK (eqK ⟨min x y, max x y⟩) ls)) := ⟨HO.out.lnk.cut hx hy⟩
  have Zd : Bz W1 C _ _ b M r k next ds D next ds ls W1.drew := ⟨Z.bt.later ((Below.refl _ _).drew), Z.lt, Z.no, Z.was⟩
  have K1 := Zd.bt.mend x y hx hy
  go_enter Try.func11, Try.ntmps11
  go_wp2
  refine wp_region_any (by kernel_rfl) ?_
  change wpAny _ _ _ _ _ _ _ (World.drew _)
  refine wpAny_narrow (fun X => X.heap[W.heap.size]? = some (actO 6 nn x y s)) _ _ _ _ ?_
  refine anyH_take 0 133 (.pointer (some ⟨b, 0, none⟩)) rfl rfl (by kernel_rfl) (by kernel_rfl) (by kernel_rfl) (fun _ _ _ h => h) (Or.inl ⟨by rfl, by intro w hSw; go_simp⟩) (Z.at_) ?_
  try simp only [Act.put, List.setIfInBounds_toArray, List.set_cons_zero, List.set_cons_succ]
  refine anyH_take 1 134 (.pointer (some ⟨W.heap.size, 2, none⟩)) rfl rfl (by kernel_rfl) (by kernel_rfl) (by kernel_rfl) (fun _ _ _ h => h) (Or.inl ⟨by rfl, by intro w hSw; go_simp⟩) (Z.at_) ?_
  try simp only [Act.put, List.setIfInBounds_toArray, List.set_cons_zero, List.set_cons_succ]
  refine anyH_take 2 135 (.int .i64 x) rfl rfl (by kernel_rfl) (by kernel_rfl) (by kernel_rfl) (fun _ _ _ h => h) (Or.inl ⟨by rfl, by intro w hSw; have k0 := row_cell hSw 2 _ rfl; go_simp⟩) (Z.at_) ?_
  try simp only [Act.put, List.setIfInBounds_toArray, List.set_cons_zero, List.set_cons_succ]
  refine anyH_take 3 136 (.pointer (some ⟨W.heap.size, 3, none⟩)) rfl rfl (by kernel_rfl) (by kernel_rfl) (by kernel_rfl) (fun _ _ _ h => h) (Or.inl ⟨by rfl, by intro w hSw; go_simp⟩) (Z.at_) ?_
  try simp only [Act.put, List.setIfInBounds_toArray, List.set_cons_zero, List.set_cons_succ]
  refine anyH_take 4 137 (.int .i64 y) rfl rfl (by kernel_rfl) (by kernel_rfl) (by kernel_rfl) (fun _ _ _ h => h) (Or.inl ⟨by rfl, by intro w hSw; have k0 := row_cell hSw 3 _ rfl; go_simp⟩) (Z.at_) ?_
  try simp only [Act.put, List.setIfInBounds_toArray, List.set_cons_zero, List.set_cons_succ]
  refine anyH_take 6 139 (.pointer (some ⟨r, 0, none⟩)) rfl rfl (by kernel_rfl) (by kernel_rfl) (by kernel_rfl) (fun _ _ _ h => h) (Or.inl ⟨by rfl, by intro w hSw; go_simp⟩) (Z.at_) ?_
  try simp only [Act.put, List.setIfInBounds_toArray, List.set_cons_zero, List.set_cons_succ]
  refine anyH_take 7 140 (.pointer (some ⟨W.heap.size, 2, none⟩)) rfl rfl (by kernel_rfl) (by kernel_rfl) (by kernel_rfl) (fun _ _ _ h => h) (Or.inl ⟨by rfl, by intro w hSw; go_simp⟩) (Z.at_) ?_
  try simp only [Act.put, List.setIfInBounds_toArray, List.set_cons_zero, List.set_cons_succ]
  refine anyH_take 8 141 (.int .i64 x) rfl rfl (by kernel_rfl) (by kernel_rfl) (by kernel_rfl) (fun _ _ _ h => h) (Or.inl ⟨by rfl, by intro w hSw; have k0 := row_cell hSw 2 _ rfl; go_simp⟩) (Z.at_) ?_
  try simp only [Act.put, List.setIfInBounds_toArray, List.set_cons_zero, List.set_cons_succ]
  refine anyH_take 9 142 (.pointer (some ⟨W.heap.size, 3, none⟩)) rfl rfl (by kernel_rfl) (by kernel_rfl) (by kernel_rfl) (fun _ _ _ h => h) (Or.inl ⟨by rfl, by intro w hSw; go_simp⟩) (Z.at_) ?_
  try simp only [Act.put, List.setIfInBounds_toArray, List.set_cons_zero, List.set_cons_succ]
  refine anyH_take 10 143 (.int .i64 y) rfl rfl (by kernel_rfl) (by kernel_rfl) (by kernel_rfl) (fun _ _ _ h => h) (Or.inl ⟨by rfl, by intro w hSw; have k0 := row_cell hSw 3 _ rfl; go_simp⟩) (Z.at_) ?_
  try simp only [Act.put, List.setIfInBounds_toArray, List.set_cons_zero, List.set_cons_succ]
  refine wpAnyH_ready (rs := [5]) (by kernel_rfl) (by simp) ?_
  refine AllReadyH.cons rfl (fun K hK => ?_) AllReadyH.nil
  go_simp
  go_wp2_with (go_at_call 21; go_must (refine K1.mono ?_; clear K1; rintro e W2 ⟨rfl, T2⟩; have Z2 : Bz W1 C _ _ b M r _ _ _ _ _ _ _ W2 := ⟨T2, Z.lt, Z.no, Z.was⟩; have K2 := T2.rmend x y HM.out))
  refine hK.out _ _ (Z2.at_) (fun hS => ?_)
  clear hK
  refine wpAnyH_ready (rs := [11]) (by kernel_rfl) (by simp) ?_
  refine AllReadyH.cons rfl (fun K hK => ?_) AllReadyH.nil
  go_simp
  go_wp2_with (go_at_call 32; go_must (refine K2.mono ?_; clear K2; rintro e W3 ⟨rfl, T3⟩; have Z3 : Bz W1 C _ _ b M r _ _ _ _ _ _ _ W3 := ⟨T3, Z.lt, Z.no, Z.was⟩; rw [← HC.out]))
  refine hK.out _ _ (Z3.at_) (fun hS => ?_)
  clear hK
  refine anyH_take 12 145 (.bool true) rfl rfl (by kernel_rfl) (by kernel_rfl) (by kernel_rfl) (fun _ _ _ h => h) (Or.inl ⟨by rfl, by intro w hSw; go_simp⟩) (Z3.at_) ?_
  try simp only [Act.put, List.setIfInBounds_toArray, List.set_cons_zero, List.set_cons_succ]
  refine anyH_take 13 6 (.bool true) rfl rfl (by kernel_rfl) (by kernel_rfl) (by kernel_rfl) (fun _ _ _ h => h) (Or.inl ⟨by rfl, by intro w hSw; go_simp⟩) (Z3.at_) ?_
  try simp only [Act.put, List.setIfInBounds_toArray, List.set_cons_zero, List.set_cons_succ]
  refine wpAnyH_done (by kernel_rfl) ?_ _
  go_wp2
  go_ret
  rw [HS.out]
  exact ⟨rfl, _, _, HB.out _ _ _ _ _ _ _ _ T3, by have O := HO.out; exact ⟨O.good, O.top, O.lnk.mend (p := ⟨min x y, max x y⟩) (min64 hx hy) (max64 hx hy), fun d hd => O.lt d ((menL_sub _ _).subset hd), O.tidy.del _, (by have h1 := O.size; have h2 := size_del (k := klOf (min x y) (max x y)) O.tidy; show Maps.size (D.del _) ≤ L + 1; omega), (by have h1 : ls.length ≤ L := O.len; have h2 := (menL_sub ⟨min x y, max x y⟩ ls).length_le; show (menL ⟨min x y, max x y⟩ ls).length ≤ L + 1; omega), Nat.le_succ_of_le O.kk⟩⟩
set_option maxRecDepth 100000 in
set_option maxHeartbeats 8000000 in
theorem act_sever {W0 W : World} {C0 : Nat → Prop} {b M r k : Nat} {D : DataW Unit} (s0 : St) {L : Nat} (h : Bt W0 C0 b M r k s0.next s0.ds D s0.next s0.ds s0.ls W) (O : Ok L k D s0) (hL : L < 8796093022206) (nn x y : Int) (s : ByteArray) (hx : I64 x) (hy : I64 y) (hxy : x ≠ y) :
    Calls Try.prog 11 #[.pointer (some ⟨b, 0, none⟩), .pointer (some ⟨r, 0, none⟩), act5 5 nn x y s] W fun e W' => e = .returned (.bool true) ∧ ∃ k' D', Bt W0 C0 b M r k' (stp ⟨5, nn, x, y, s⟩ s0).next (stp ⟨5, nn, x, y, s⟩ s0).ds D' (stp ⟨5, nn, x, y, s⟩ s0).next (stp ⟨5, nn, x, y, s⟩ s0).ds (stp ⟨5, nn, x, y, s⟩ s0).ls W' ∧ Ok (L + 1) k' D' (stp ⟨5, nn, x, y, s⟩ s0) := by
  obtain ⟨W1, C, hW1, Z, back⟩ := h.within 5 nn x y s
  obtain ⟨next, ds, ls⟩ := s0
  have f0 := row_cell Z.at_ 0 _ rfl
  have f1 := row_cell Z.at_ 1 _ rfl
  have f2 := row_cell Z.at_ 2 _ rfl
  have f3 := row_cell Z.at_ 3 _ rfl
  have f4 := row_cell Z.at_ 4 _ rfl
  have HB : Hid (∀ (k' : Nat) (next' : Int) (ds' : List DG) (D' : DataW Unit) (rn' : Int) (rds' : List DG) (ls' : List LK) (W' : World), Bt W1 C b M r k' next' ds' D' rn' rds' ls' W' → Bt W0 C0 b M r k' next' ds' D' rn' rds' ls' W') := ⟨back⟩
  have HO : Hid (Ok L k D ⟨next, ds, ls⟩) := ⟨O⟩
  clear h O back
  simp only at Z
  have HX : Hid (x ≠ y) := ⟨hxy⟩
  obtain ⟨es, hes⟩ : ∃ es, ds.filter (fun d => !lostP false true x y d) = es := ⟨_, rfl⟩
  have hes2 : ds.filter (fun d => !onWay (min x y) (max x y) d) = es := by rw [← hes]; congr 1; funext d; rw [lost_way' x y hxy d]
  have HE : Hid (ds.filter (fun d => !lostP false true x y d) = es) := ⟨hes⟩
  have HS : Hid (stp ⟨5, nn, x, y, s⟩ ⟨next, ds, ls⟩ = ⟨next, es, sevL ⟨min x y, max x y⟩ ls⟩) := ⟨by simp [stp, hxy, hes]⟩
  have HN : Hid (ds.length ≤ 65536) := ⟨HO.out.good.len⟩
  have HM : Hid ((ls.length + 1) * 16 ≤ 140737488355328) := ⟨by have : ls.length ≤ L := HO.out.len; omega⟩
  have hk : k < maxLen := by have := HO.out.kk; unfold maxLen; omega
  have Zd : Bz W1 C _ _ b M r k next ds D next ds ls W1.drew := ⟨Z.bt.later ((Below.refl _ _).drew), Z.lt, Z.no, Z.was⟩
  have K1 := Zd.bt.sever x y hx hy hxy hk hes2
  clear hes hes2 hxy
  go_enter Try.func11, Try.ntmps11
  go_wp2
  refine wp_region_any (by kernel_rfl) ?_
  change wpAny _ _ _ _ _ _ _ (World.drew _)
  refine wpAny_narrow (fun X => X.heap[W.heap.size]? = some (actO 5 nn x y s)) _ _ _ _ ?_
  refine anyH_take 0 118 (.pointer (some ⟨b, 0, none⟩)) rfl rfl (by kernel_rfl) (by kernel_rfl) (by kernel_rfl) (fun _ _ _ h => h) (Or.inl ⟨by rfl, by intro w hSw; go_simp⟩) (Z.at_) ?_
  try simp only [Act.put, List.setIfInBounds_toArray, List.set_cons_zero, List.set_cons_succ]
  refine anyH_take 1 119 (.pointer (some ⟨W.heap.size, 2, none⟩)) rfl rfl (by kernel_rfl) (by kernel_rfl) (by kernel_rfl) (fun _ _ _ h => h) (Or.inl ⟨by rfl, by intro w hSw; go_simp⟩) (Z.at_) ?_
  try simp only [Act.put, List.setIfInBounds_toArray, List.set_cons_zero, List.set_cons_succ]
  refine anyH_take 2 120 (.int .i64 x) rfl rfl (by kernel_rfl) (by kernel_rfl) (by kernel_rfl) (fun _ _ _ h => h) (Or.inl ⟨by rfl, by intro w hSw; have k0 := row_cell hSw 2 _ rfl; go_simp⟩) (Z.at_) ?_
  try simp only [Act.put, List.setIfInBounds_toArray, List.set_cons_zero, List.set_cons_succ]
  refine anyH_take 3 121 (.pointer (some ⟨W.heap.size, 3, none⟩)) rfl rfl (by kernel_rfl) (by kernel_rfl) (by kernel_rfl) (fun _ _ _ h => h) (Or.inl ⟨by rfl, by intro w hSw; go_simp⟩) (Z.at_) ?_
  try simp only [Act.put, List.setIfInBounds_toArray, List.set_cons_zero, List.set_cons_succ]
  refine anyH_take 4 122 (.int .i64 y) rfl rfl (by kernel_rfl) (by kernel_rfl) (by kernel_rfl) (fun _ _ _ h => h) (Or.inl ⟨by rfl, by intro w hSw; have k0 := row_cell hSw 3 _ rfl; go_simp⟩) (Z.at_) ?_
  try simp only [Act.put, List.setIfInBounds_toArray, List.set_cons_zero, List.set_cons_succ]
  refine anyH_take 6 124 (.pointer (some ⟨r, 0, none⟩)) rfl rfl (by kernel_rfl) (by kernel_rfl) (by kernel_rfl) (fun _ _ _ h => h) (Or.inl ⟨by rfl, by intro w hSw; go_simp⟩) (Z.at_) ?_
  try simp only [Act.put, List.setIfInBounds_toArray, List.set_cons_zero, List.set_cons_succ]
  refine anyH_take 7 125 (.pointer (some ⟨W.heap.size, 2, none⟩)) rfl rfl (by kernel_rfl) (by kernel_rfl) (by kernel_rfl) (fun _ _ _ h => h) (Or.inl ⟨by rfl, by intro w hSw; go_simp⟩) (Z.at_) ?_
  try simp only [Act.put, List.setIfInBounds_toArray, List.set_cons_zero, List.set_cons_succ]
  refine anyH_take 8 126 (.int .i64 x) rfl rfl (by kernel_rfl) (by kernel_rfl) (by kernel_rfl) (fun _ _ _ h => h) (Or.inl ⟨by rfl, by intro w hSw; have k0 := row_cell hSw 2 _ rfl; go_simp⟩) (Z.at_) ?_
  try simp only [Act.put, List.setIfInBounds_toArray, List.set_cons_zero, List.set_cons_succ]
  refine anyH_take 9 127 (.pointer (some ⟨W.heap.size, 3, none⟩)) rfl rfl (by kernel_rfl) (by kernel_rfl) (by kernel_rfl) (fun _ _ _ h => h) (Or.inl ⟨by rfl, by intro w hSw; go_simp⟩) (Z.at_) ?_
  try simp only [Act.put, List.setIfInBounds_toArray, List.set_cons_zero, List.set_cons_succ]
  refine anyH_take 10 128 (.int .i64 y) rfl rfl (by kernel_rfl) (by kernel_rfl) (by kernel_rfl) (fun _ _ _ h => h) (Or.inl ⟨by rfl, by intro w hSw; have k0 := row_cell hSw 3 _ rfl; go_simp⟩) (Z.at_) ?_
  try simp only [Act.put, List.setIfInBounds_toArray, List.set_cons_zero, List.set_cons_succ]
  refine wpAnyH_ready (rs := [5]) (by kernel_rfl) (by simp) ?_
  refine AllReadyH.cons rfl (fun K hK => ?_) AllReadyH.nil
  go_simp
  go_wp2_with (go_at_call 19; go_must (refine K1.mono ?_; clear K1; rintro e W2 ⟨rfl, T2⟩; have Z2 : Bz W1 C _ _ b M r _ _ _ _ _ _ _ W2 := ⟨T2, Z.lt, Z.no, Z.was⟩; have K2 := T2.rsever HN.out x y HX.out HM.out HE.out))
  refine hK.out _ _ (Z2.at_) (fun hS => ?_)
  clear hK
  refine wpAnyH_ready (rs := [11]) (by kernel_rfl) (by simp) ?_
  refine AllReadyH.cons rfl (fun K hK => ?_) AllReadyH.nil
  go_simp
  go_wp2_with (go_at_call 31; go_must (refine K2.mono ?_; clear K2; rintro e W3 ⟨rfl, T3⟩; have Z3 : Bz W1 C _ _ b M r _ _ _ _ _ _ _ W3 := ⟨T3, Z.lt, Z.no, Z.was⟩))
  refine hK.out _ _ (Z3.at_) (fun hS => ?_)
  clear hK
  refine anyH_take 12 130 (.bool true) rfl rfl (by kernel_rfl) (by kernel_rfl) (by kernel_rfl) (fun _ _ _ h => h) (Or.inl ⟨by rfl, by intro w hSw; go_simp⟩) (Z3.at_) ?_
  try simp only [Act.put, List.setIfInBounds_toArray, List.set_cons_zero, List.set_cons_succ]
  refine anyH_take 13 6 (.bool true) rfl rfl (by kernel_rfl) (by kernel_rfl) (by kernel_rfl) (fun _ _ _ h => h) (Or.inl ⟨by rfl, by intro w hSw; go_simp⟩) (Z3.at_) ?_
  try simp only [Act.put, List.setIfInBounds_toArray, List.set_cons_zero, List.set_cons_succ]
  refine wpAnyH_done (by kernel_rfl) ?_ _
  go_wp2
  go_ret
  rw [HS.out]
  exact ⟨rfl, _, _, HB.out _ _ _ _ _ _ _ _ T3, by have O := HO.out; exact ⟨O.good.sub (by rw [← HE.out]; exact List.filter_sublist), O.top, O.lnk.sever O.tidy (p := ⟨min x y, max x y⟩) (min64 hx hy) (max64 hx hy), fun d hd => (by rw [sevL_mem] at hd; rcases hd with rfl | hd; (· have := HX.out; show min x y < max x y; omega); (· exact O.lt d hd)), O.tidy.put (show WideAt.IsKeyLit (klOf (min x y) (max x y)) from trivial) _, (by have h1 := O.size; rw [size_put O.tidy]; split <;> omega), (by have h1 : ls.length ≤ L := O.len; show (sevL ⟨min x y, max x y⟩ ls).length ≤ L + 1; unfold sevL; split; (· omega); (· have := ahd_le ⟨min x y, max x y⟩ ls; simp; omega)), Nat.succ_le_succ O.kk⟩⟩
set_option maxRecDepth 100000 in
set_option maxHeartbeats 8000000 in
theorem act_between {W0 W : World} {C0 : Nat → Prop} {b M r k : Nat} {D : DataW Unit} (s0 : St) {L : Nat} (h : Bt W0 C0 b M r k s0.next s0.ds D s0.next s0.ds s0.ls W) (O : Ok L k D s0) (hL : L < 8796093022206) (nn x y : Int) (s : ByteArray) (hx : I64 x) (hy : I64 y) :
    Calls Try.prog 11 #[.pointer (some ⟨b, 0, none⟩), .pointer (some ⟨r, 0, none⟩), act5 4 nn x y s] W fun e W' => e = .returned (.bool true) ∧ ∃ k' D', Bt W0 C0 b M r k' (stp ⟨4, nn, x, y, s⟩ s0).next (stp ⟨4, nn, x, y, s⟩ s0).ds D' (stp ⟨4, nn, x, y, s⟩ s0).next (stp ⟨4, nn, x, y, s⟩ s0).ds (stp ⟨4, nn, x, y, s⟩ s0).ls W' ∧ Ok (L + 1) k' D' (stp ⟨4, nn, x, y, s⟩ s0) := by
  obtain ⟨W1, C, hW1, Z, back⟩ := h.within 4 nn x y s
  obtain ⟨next, ds, ls⟩ := s0
  have f0 := row_cell Z.at_ 0 _ rfl
  have f1 := row_cell Z.at_ 1 _ rfl
  have f2 := row_cell Z.at_ 2 _ rfl
  have f3 := row_cell Z.at_ 3 _ rfl
  have f4 := row_cell Z.at_ 4 _ rfl
  have HB : Hid (∀ (k' : Nat) (next' : Int) (ds' : List DG) (D' : DataW Unit) (rn' : Int) (rds' : List DG) (ls' : List LK) (W' : World), Bt W1 C b M r k' next' ds' D' rn' rds' ls' W' → Bt W0 C0 b M r k' next' ds' D' rn' rds' ls' W') := ⟨back⟩
  have HO : Hid (Ok L k D ⟨next, ds, ls⟩) := ⟨O⟩
  clear h O back
  simp only at Z
  have HS : Hid (stp ⟨4, nn, x, y, s⟩ ⟨next, ds, ls⟩ = ⟨next, ds, ls⟩) := ⟨by simp [stp]⟩
  have HN : Hid (ds.length ≤ 65536) := ⟨HO.out.good.len⟩
  have HNN : Hid ((nums x y ds).length ≤ 65536) := ⟨by have : ds.length ≤ 65536 := HO.out.good.len; have h2 : (nums x y ds).length ≤ ds.length := (by unfold nums; rw [List.length_map]; exact List.length_filter_le _ _); omega⟩
  have Zd : Bz W1 C _ _ b M r k next ds D next ds ls W1.drew := ⟨Z.bt.later ((Below.refl _ _).drew), Z.lt, Z.no, Z.was⟩
  have K1 := Zd.bt.between HN.out x y
  go_enter Try.func11, Try.ntmps11
  go_wp2
  refine wp_region_any (by kernel_rfl) ?_
  change wpAny _ _ _ _ _ _ _ (World.drew _)
  refine wpAny_narrow (fun X => X.heap[W.heap.size]? = some (actO 4 nn x y s)) _ _ _ _ ?_
  refine anyH_take 0 103 (.pointer (some ⟨b, 0, none⟩)) rfl rfl (by kernel_rfl) (by kernel_rfl) (by kernel_rfl) (fun _ _ _ h => h) (Or.inl ⟨by rfl, by intro w hSw; go_simp⟩) (Z.at_) ?_
  try simp only [Act.put, List.setIfInBounds_toArray, List.set_cons_zero, List.set_cons_succ]
  refine anyH_take 1 104 (.pointer (some ⟨W.heap.size, 2, none⟩)) rfl rfl (by kernel_rfl) (by kernel_rfl) (by kernel_rfl) (fun _ _ _ h => h) (Or.inl ⟨by rfl, by intro w hSw; go_simp⟩) (Z.at_) ?_
  try simp only [Act.put, List.setIfInBounds_toArray, List.set_cons_zero, List.set_cons_succ]
  refine anyH_take 2 105 (.int .i64 x) rfl rfl (by kernel_rfl) (by kernel_rfl) (by kernel_rfl) (fun _ _ _ h => h) (Or.inl ⟨by rfl, by intro w hSw; have k0 := row_cell hSw 2 _ rfl; go_simp⟩) (Z.at_) ?_
  try simp only [Act.put, List.setIfInBounds_toArray, List.set_cons_zero, List.set_cons_succ]
  refine anyH_take 3 106 (.pointer (some ⟨W.heap.size, 3, none⟩)) rfl rfl (by kernel_rfl) (by kernel_rfl) (by kernel_rfl) (fun _ _ _ h => h) (Or.inl ⟨by rfl, by intro w hSw; go_simp⟩) (Z.at_) ?_
  try simp only [Act.put, List.setIfInBounds_toArray, List.set_cons_zero, List.set_cons_succ]
  refine anyH_take 4 107 (.int .i64 y) rfl rfl (by kernel_rfl) (by kernel_rfl) (by kernel_rfl) (fun _ _ _ h => h) (Or.inl ⟨by rfl, by intro w hSw; have k0 := row_cell hSw 3 _ rfl; go_simp⟩) (Z.at_) ?_
  try simp only [Act.put, List.setIfInBounds_toArray, List.set_cons_zero, List.set_cons_succ]
  refine anyH_take 6 109 (.pointer (some ⟨r, 0, none⟩)) rfl rfl (by kernel_rfl) (by kernel_rfl) (by kernel_rfl) (fun _ _ _ h => h) (Or.inl ⟨by rfl, by intro w hSw; go_simp⟩) (Z.at_) ?_
  try simp only [Act.put, List.setIfInBounds_toArray, List.set_cons_zero, List.set_cons_succ]
  refine anyH_take 7 110 (.pointer (some ⟨W.heap.size, 2, none⟩)) rfl rfl (by kernel_rfl) (by kernel_rfl) (by kernel_rfl) (fun _ _ _ h => h) (Or.inl ⟨by rfl, by intro w hSw; go_simp⟩) (Z.at_) ?_
  try simp only [Act.put, List.setIfInBounds_toArray, List.set_cons_zero, List.set_cons_succ]
  refine anyH_take 8 111 (.int .i64 x) rfl rfl (by kernel_rfl) (by kernel_rfl) (by kernel_rfl) (fun _ _ _ h => h) (Or.inl ⟨by rfl, by intro w hSw; have k0 := row_cell hSw 2 _ rfl; go_simp⟩) (Z.at_) ?_
  try simp only [Act.put, List.setIfInBounds_toArray, List.set_cons_zero, List.set_cons_succ]
  refine anyH_take 9 112 (.pointer (some ⟨W.heap.size, 3, none⟩)) rfl rfl (by kernel_rfl) (by kernel_rfl) (by kernel_rfl) (fun _ _ _ h => h) (Or.inl ⟨by rfl, by intro w hSw; go_simp⟩) (Z.at_) ?_
  try simp only [Act.put, List.setIfInBounds_toArray, List.set_cons_zero, List.set_cons_succ]
  refine anyH_take 10 113 (.int .i64 y) rfl rfl (by kernel_rfl) (by kernel_rfl) (by kernel_rfl) (fun _ _ _ h => h) (Or.inl ⟨by rfl, by intro w hSw; have k0 := row_cell hSw 3 _ rfl; go_simp⟩) (Z.at_) ?_
  try simp only [Act.put, List.setIfInBounds_toArray, List.set_cons_zero, List.set_cons_succ]
  refine wpAnyH_ready (rs := [5]) (by kernel_rfl) (by simp) ?_
  refine AllReadyH.cons rfl (fun K hK => ?_) AllReadyH.nil
  go_simp
  go_wp2_with (go_at_call 20; go_must (refine K1.mono ?_; clear K1; rintro e W2 ⟨v, rfl, N2, b2⟩; have T2 := Zd.bt.later b2; have Z2 : Bz W1 C _ _ b M r _ _ _ _ _ _ _ W2 := ⟨T2, Z.lt, Z.no, Z.was⟩; have K2 := T2.rbetween HN.out x y))
  refine hK.out _ _ (Z2.at_) (fun hS => ?_)
  clear hK
  refine wpAnyH_ready (rs := [11]) (by kernel_rfl) (by simp) ?_
  refine AllReadyH.cons rfl (fun K hK => ?_) AllReadyH.nil
  go_simp
  go_wp2_with (go_at_call 30; go_must (refine K2.mono ?_; clear K2; rintro e W3 ⟨u, rfl, N3, b3⟩; have T3 := T2.later b3; have Z3 : Bz W1 C _ _ b M r _ _ _ _ _ _ _ W3 := ⟨T3, Z.lt, Z.no, Z.was⟩; have N2' := N2.of_block (fun g hg => b3.block g (World.ownsRow.lt N2 g hg).2); have K3 := same_own N2' N3 HNN.out))
  refine hK.out _ _ (Z3.at_) (fun hS => ?_)
  clear hK
  refine wpAnyH_ready (rs := [12]) (by kernel_rfl) (by simp) ?_
  refine AllReadyH.cons rfl (fun K hK => ?_) AllReadyH.nil
  go_simp
  go_wp2_with (go_at_call 26; go_must (refine K3.mono ?_; clear K3; rintro e W4 ⟨rfl, b4⟩; have T4 := T3.later b4; have Z4 : Bz W1 C _ _ b M r _ _ _ _ _ _ _ W4 := ⟨T4, Z.lt, Z.no, Z.was⟩))
  refine hK.out _ _ (Z4.at_) (fun hS => ?_)
  clear hK
  refine anyH_take 13 6 (.bool true) rfl rfl (by kernel_rfl) (by kernel_rfl) (by kernel_rfl) (fun _ _ _ h => h) (Or.inl ⟨by rfl, by intro w hSw; go_simp⟩) (Z4.at_) ?_
  try simp only [Act.put, List.setIfInBounds_toArray, List.set_cons_zero, List.set_cons_succ]
  refine wpAnyH_done (by kernel_rfl) ?_ _
  go_wp2
  go_ret
  rw [HS.out]
  exact ⟨rfl, k, D, HB.out _ _ _ _ _ _ _ _ T4, by have O := HO.out; exact ⟨O.good, O.top, O.lnk, O.lt, O.tidy, Nat.le_succ_of_le O.size, Nat.le_succ_of_le O.len, Nat.le_succ_of_le O.kk⟩⟩
end Go.Proofs.Ytoppecppmjpgiaa
