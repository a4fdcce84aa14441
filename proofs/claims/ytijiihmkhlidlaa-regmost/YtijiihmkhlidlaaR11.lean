/-
  Package reg: what Most returns, and the document's own answer for it.
-/
import Derived.Test.YtijiihmkhlidlaaR10c
import Derived.Stop.RegionWithIn
import Derived.BigQuiet
import Derived.Shelf.Abstract
import Derived.Shelf.RegionOpen
import Derived.OwnWalkIn
import Derived.TacticsInMore
import Derived.LoopNIn
import Derived.LoopIn
import Derived.Sort.LoopGhostIn
import Derived.Scope
import Derived.WalkMore
import Derived.RangeFuncCalls
namespace Go.Proofs.Ytijiihmkhlidlaa
open Go.ChangeShapes Go.WideShapes Go.ChangeAt Go.RowKit Go.Maps Go.Shelf
set_option linter.unusedVariables false
set_option linter.unusedSimpArgs false
attribute [local go_sem] Oper.semAt_some



/-- What a list is merged to. -/
def mof (l : List RS) : RS := if l.length = 0 then RS.z else mo l (l.length - 1)
def mop (l : List RS) (i : Nat) : RS := if i = 0 then RS.z else mo l (i - 1)
/-- What the loop of Most leaves. -/
structure MSt (w : World) (fb c2 c3 : Nat) (a : Option Addr) (n cap : Nat) (q : RS) (W : World) : Prop where
  keep : KeepM w fb a n cap W
  two : Tri W c2 (.int .i64 0) (.int .i64 0) (.int .i64 0)
  three : Tri W c3 (.int .i64 q.v) (.int .i64 q.p) (.int .i64 q.f)
theorem MSt.same {w A B : World} {fb c2 c3 n cap N : Nat} {a : Option Addr} {q : RS} {C : Nat → Prop} (h : MSt w fb c2 c3 a n cap q A) (s : Same N C A B) (h1 : fb < N) (h2 : c2 < N) (h3 : c3 < N) (h4 : w.heap.size ≤ N) : MSt w fb c2 c3 a n cap q B :=
  ⟨⟨h.keep.ptr.same s h1, Below.same h.keep.below s h4 (Nat.le_refl _)⟩, h.two.same s h2, h.three.same s h3⟩
theorem MSt.put {w A : World} {fb c2 c3 n cap : Nat} {a : Option Addr} {q : RS} (h : MSt w fb c2 c3 a n cap q A) (r : RS) (h1 : fb ≠ c3) (h2 : c2 ≠ c3) (h3 : w.heap.size ≤ c3) : MSt w fb c2 c3 a n cap r (put3 A c3 (.int .i64 r.v) (.int .i64 r.p) (.int .i64 r.f)) :=
  ⟨⟨h.keep.ptr.of_block (put3_far h1 _ _ _) (by rw [put3_size]; exact Nat.le_refl _), Below.put3 h.keep.below h3 _ _ _⟩, h.two.far h2 _ _ _, h.three.store _ _ _⟩
theorem turn_put {A : World} {c N : Nat} {C : Nat → Prop} (x y z : Value) (hc : c < N) (hC : ∀ b, C b → N ≤ b ∧ b < A.heap.size) : Turn N C C A (put3 A c x y z) :=
  ⟨by rw [put3_size]; exact Nat.le_refl _, fun b h1 _ _ => put3_far (by omega) _ _ _, fun b hb => ⟨(hC b hb).1, by rw [put3_size]; exact (hC b hb).2, .inl hb⟩⟩
set_option maxRecDepth 100000 in
set_option maxHeartbeats 4000000 in
theorem most_any (a : Option Addr) (n cap : Nat) (l : List RS) (w : World) (hr : Rgs w a n l) : Calls Try.prog 20 #[.slice a n cap] w fun e w' => e = .returned (mof l).r ∧ Below w.heap.size w w' := by
  refine (callsIn_wide (n := 2)).1 ?_
  refine callsIn_of_wp_marks Try.func20 rfl trivial ?_
  simp only [Try.ntmps20, List.size_toArray, List.length_cons, List.length_nil, Nat.reduceAdd, Nat.reduceSub, Array.replicate_succ, Array.replicate_zero, List.push_toArray, List.append_toArray, List.nil_append, List.cons_append]
  gi_wp2_with (refine ⟨trivial, ?_⟩; gi_at_call 28; refine (callsIn_wide.2 (merged_any a n cap _)).mono ?_; rintro e w4 ⟨rfl, hw4⟩)
  have T2 : Tri w4 w.heap.size (.int .i64 0) (.int .i64 0) (.int .i64 0) := by rw [hw4]; exact ((Tri.new w _ _ _ 23).alloc _).alloc _
  have T3 : Tri w4 (w.heap.size + 1) (.int .i64 0) (.int .i64 0) (.int .i64 0) := by rw [hw4]; exact (((Tri.new (w.alloc (.cells #[.int .i64 0, .int .i64 0, .int .i64 0] 23)) (.int .i64 0) (.int .i64 0) (.int .i64 0) 23).at (k' := w.heap.size + 1) (by simp))).alloc _
  have P4 : One w4 (w.heap.size + 2) (.slice a n cap) := by rw [hw4]; exact (One.new _ _ _).at (by simp)
  have B4 : Below w.heap.size w w4 := by rw [hw4]; go_grown
  have z4 : w4.heap.size = w.heap.size + 3 := by rw [hw4]; simp
  rw [← hw4]
  clear hw4
  have L0 : MSt w (w.heap.size + 2) w.heap.size (w.heap.size + 1) a n cap (mop l 0) w4 := ⟨⟨P4, B4⟩, T2, T3⟩
  have HZ : Hid (w4.heap.size = w.heap.size + 3) := z4
  have HML : Hid ((mos l).length = l.length) := mos_len l
  have HX : Hid (∀ i x, (mos l)[i]? = some x → x = mop l (i + 1)) := by
    show ∀ i x, (mos l)[i]? = some x → x = mop l (i + 1)
    intro i x h
    have hi : i < l.length := by have := (List.getElem?_eq_some_iff.1 h).1; rwa [mos_len] at this
    rw [mos_at hi] at h
    exact (Option.some.inj h).symm
  clear T2 T3 P4 B4 z4
  have G := merged_gives w (w.heap.size + 2) a n cap l w4 hr
  generalize hxs : mos l = xs at *
  clear hxs
  refine range_turns (gf := 30) (lb := #[.pointer (some ⟨w.heap.size + 2, 0, none⟩)]) (by first | rfl | simp) (enters_of Try.func30 (by kernel_rfl) rfl)
    G (Below.refl _ _) (fun _ => rfl)
    (fun i C W => MSt w (w.heap.size + 2) w.heap.size (w.heap.size + 1) a n cap (mop l i) W)
    (fun c C W => False)
    (fun i C A h => h.keep)
    (fun i C A B h s => h.same s (by have := HZ.out; omega) (by have := HZ.out; omega) (by have := HZ.out; omega) (by have := HZ.out; omega))
    (fun c C A B h s => h)
    L0
    (fun q a' W => ∃ k, w4.heap.size + 2 ≤ k ∧ Tri W k (.int .i64 q.v) (.int .i64 q.p) (.int .i64 q.f) ∧ a' = { tmps := #[.slice a n cap, undef, .pointer (some ⟨w.heap.size, 0, none⟩), .pointer (some ⟨w.heap.size + 1, 0, none⟩), .pointer (some ⟨k, 0, none⟩), .slice a n cap, .func (.func 30) #[] #[.pointer (some ⟨w.heap.size + 1 + 1, 0, none⟩)], q.r, undef, undef], defers := [] })
    (fun q a' A o h => by obtain ⟨k, h1, h2, h3⟩ := h; exact ⟨k, h1, h2.putObj (by omega) o, h3⟩)
    ?assign ?body ?done ?stop
  case assign =>
    intro i q W C K hi hs hK
    obtain ⟨qv, qp, qf⟩ := q
    gi_wp2
    exact hK _ _ ⟨W.heap.size, hs, Tri.new _ _ _ _ _, rfl⟩ ((Below.refl _ _).alloc (Nat.le_refl _) _)
  case body =>
    rintro i ⟨qv, qp, qf⟩ C a' W L ⟨k, hk, TK, rfl⟩ hx hs hC
    obtain ⟨a0, a1, a2, b0, b1, b2, z0⟩ := id TK
    obtain ⟨c0, c1, c2, d0, d1, d2, z1⟩ := id L.three
    have hq := HX.out i _ hx
    have HQ : Hid ((⟨qv, qp, qf⟩ : RS) = mop l (i + 1)) := hq
    have fin : ∀ (a1 : Act), turnPost w4.heap.size (fun i C W => MSt w (w.heap.size + 2) w.heap.size (w.heap.size + 1) a n cap (mop l i) W) (fun c C W => False) i C W .normal a1 (put3 W (w.heap.size + 1) (.int .i64 qv) (.int .i64 qp) (.int .i64 qf)) := by
      intro a1
      refine ⟨C, ?_, turn_put _ _ _ (by have := HZ.out; omega) (fun b hb => ⟨by have := (hC b hb).1; omega, (hC b hb).2⟩)⟩
      show MSt w _ _ _ a n cap (mop l (i + 1)) _
      rw [← HQ.out]
      exact L.put ⟨qv, qp, qf⟩ (by omega) (by omega) (by omega)
    clear hx hq HX HQ G HML L0
    gi_wp2
  case done =>
    intro C W L hK hC
    have BW := L.keep.below
    have HV : Hid (mop l xs.length = mof l) := by
      show _ = _
      rw [HML.out]
      rfl
    obtain ⟨⟨qv, qp, qf⟩, hq⟩ : ∃ q, mop l xs.length = q := ⟨_, rfl⟩
    rw [hq] at L HV
    obtain ⟨a0, a1, a2, b0, b1, b2, z0⟩ := id L.two
    obtain ⟨c0, c1, c2, d0, d1, d2, z1⟩ := id L.three
    clear hq HX HML G L0
    gi_wp2
    have hK' : (put3 W w.heap.size (.int .i64 qv) (.int .i64 qp) (.int .i64 qf)).heap[w4.heap.size]? = some (.deferred (some [])) := (put3_far (by have := HZ.out; omega) _ _ _).trans hK
    have TT : Tri ((put3 W w.heap.size (.int .i64 qv) (.int .i64 qp) (.int .i64 qf)).putObj w4.heap.size (.deferred none)) w.heap.size (.int .i64 qv) (.int .i64 qp) (.int .i64 qf) := (L.two.store _ _ _).putObj (by have := HZ.out; omega) _
    obtain ⟨g0, g1, g2, k0, k1, k2, z2⟩ := TT
    refine ⟨by simp, .inl ⟨_, _, rfl, run_takeDeferred hK', ?_⟩⟩
    refine ⟨rg qv qp qf, by simp [results, Try.results20, go_sem, g0, g1, g2], ?_, below_putObj (Below.put3 BW (Nat.le_refl _) _ _ _) (by have := HZ.out; omega) _⟩
    rw [← HV.out]
  case stop =>
    rintro c C W h _ _
    exact h.elim
end Go.Proofs.Ytijiihmkhlidlaa
