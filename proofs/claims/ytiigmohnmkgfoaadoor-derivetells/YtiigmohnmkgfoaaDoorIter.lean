/-
  The iterator over a fraction's terms hands out just the terms, whatever loop takes them.
-/
import Derived.Test.YtiigmohnmkgfoaaDoorNext
import Derived.Test.YtiigmohnmkgfoaaDoorRange
import Derived.Shelf.Abstract
import Derived.Shelf.RegionOpen
import Derived.OwnWalkIn
import Derived.TacticsInMore
import Derived.LoopNIn
import Derived.LoopIn
import Derived.Sort.LoopGhostIn
namespace Go.Proofs.YtiigmohnmkgfoaaDoor
open Go.ChangeShapes Go.WideShapes Go.ChangeAt Go.RowKit Go.Shelf
set_option linter.unusedVariables false
set_option linter.unusedSimpArgs false
attribute [local go_sem] Oper.semAt_some

def nxT (n d : Int) : Int := if d = 0 then 0 else n / d
def nxL (n d : Int) : Bool := if d = 0 then false else decide (n % d = 0)
def nxOk (d : Int) : Bool := if d = 0 then false else true
def nxN (n d : Int) : Int := if d = 0 then n else d
def nxD (n d : Int) : Int := if d = 0 then 0 else n % d
def I64 (x : Int) : Prop := -9223372036854775808 ≤ x ∧ x ≤ 9223372036854775807

theorem Two.of_block {W W' : World} {c : Nat} {v0 v1 : Value} (h : Two W c v0 v1) (e : W'.heap[c]? = W.heap[c]?) (hs : W.heap.size ≤ W'.heap.size) : Two W' c v0 v1 :=
  ⟨(World.cell?_of_block (w := W) (a := ⟨c, 0, none⟩) e).trans h.1, (World.cell?_of_block (w := W) (a := ⟨c, 1, none⟩) e).trans h.2.1,
   (World.frozen?_of_block (w := W) (a := ⟨c, 0, none⟩) e).trans h.2.2.1, (World.frozen?_of_block (w := W) (a := ⟨c, 1, none⟩) e).trans h.2.2.2.1, Nat.lt_of_lt_of_le h.2.2.2.2 hs⟩
theorem But.same {b n : Nat} {w w' : World} {C : Nat → Prop} (h : But b w w') (hn : n ≤ b) (hC : ¬ C b) : Same n C w w' :=
  ⟨h.os, h.tape, h.output, h.size, fun k hk hc => h.block k hk (fun e => by subst e; rcases hc with x | x; omega; exact hC x)⟩
theorem Two.but {W W' : World} {b c : Nat} {v0 v1 : Value} (h : Two W c v0 v1) (hb : But b W W') (hn : c ≠ b) : Two W' c v0 v1 :=
  h.of_block (hb.block c h.2.2.2.2 hn) hb.size
theorem Two.turn {W W' : World} {n c : Nat} {C C' : Nat → Prop} {v0 v1 : Value} (h : Two W c v0 v1) (t : Turn n C C' W W') (hn : n ≤ c) (hC : ¬ C c) : Two W' c v0 v1 :=
  h.of_block (t.keep c hn h.2.2.2.2 hC) t.size
theorem But.of_below {b : Nat} {w w' : World} (h : Below w.heap.size w w') : But b w w' := ⟨h.os, h.tape, h.output, h.size, fun k hk _ => h.block k hk⟩

theorem next_both (n d : Int) (b : Nat) (w : World) (hn : I64 n) (hd : 0 ≤ d) (hd' : d ≤ 9223372036854775807) (hT : Two w b (.int .i64 n) (.int .i64 d)) :
    Calls Tryd.prog 69 #[.pointer (some ⟨b, 0, none⟩)] w fun e w' => e = .returned (.tuple #[stp (nxT n d) (nxL n d), .bool (nxOk d)]) ∧ Two w' b (.int .i64 (nxN n d)) (.int .i64 (nxD n d)) ∧ But b w w' := by
  by_cases h : d = 0
  · subst h
    simp only [nxT, nxL, nxOk, nxN, nxD, if_true]
    refine (next_end n b w hT).mono ?_
    rintro e w' ⟨rfl, hb⟩
    exact ⟨rfl, hT.below hb, But.of_below hb⟩
  · simp only [nxT, nxL, nxOk, nxN, nxD, if_neg h]
    exact next_any n d b w hn.1 hn.2 (by omega) hd' hT
theorem nx_bd {n d : Int} (hn : I64 n) (hd : 0 ≤ d) (hd' : d ≤ 9223372036854775807) : I64 (nxN n d) ∧ 0 ≤ nxD n d ∧ nxD n d ≤ 9223372036854775807 := by
  unfold nxN nxD
  by_cases h : d = 0
  · simp only [if_pos h]; exact ⟨hn, by omega, by omega⟩
  · simp only [if_neg h]
    have m0 := Int.emod_nonneg n h
    have m1 := Int.emod_lt_of_pos n (by omega : 0 < d)
    exact ⟨by unfold I64; omega, m0, by omega⟩
theorem nx_less {n d : Int} (hd : 0 ≤ d) (h : d ≠ 0) : (nxD n d).toNat < d.toNat := by
  unfold nxD
  simp only [if_neg h]
  have m0 := Int.emod_nonneg n h
  have m1 := Int.emod_lt_of_pos n (by omega : 0 < d)
  omega
theorem nx_tms {n d : Int} (hd : 0 ≤ d) : (nxOk d = true → tms n d = (nxT n d, nxL n d) :: tms (nxN n d) (nxD n d)) ∧ (nxOk d = false → tms n d = []) := by
  unfold nxOk nxT nxL nxN nxD
  by_cases h : d = 0
  · subst h; simp [tms_zero]
  · simp only [if_neg h]
    exact ⟨fun _ => tms_pos n (by omega), fun h => by cases h⟩

abbrev encS (s : Int × Bool) : Array Value := #[stp s.1 s.2]

theorem terms_any (n d : Int) (w : World) :
    Calls Tryd.prog 59 #[fr n d] w fun e w' => e = .returned (.func (.func 67) #[] #[.pointer (some ⟨w.heap.size, 0, none⟩)]) ∧ w' = w.alloc (.cells #[.int .i64 n, .int .i64 d] 23) := by
  have hmf : ∀ (fn : Fn) (first cap : Array Value) (w : World), (Instr.makeFunc fn first cap).run Tryd.prog w = .ok (.func fn first cap) w := fun _ _ _ _ => rfl
  go_enter Tryd.func59, Tryd.ntmps59
  go_wp2
  go_ret
  exact ⟨rfl, rfl⟩

set_option maxRecDepth 100000 in
set_option maxHeartbeats 1000000 in
theorem terms_gives (n d : Int) (fb : Nat) (w : World) (hn : I64 n) (hd : 0 ≤ d) (hd' : d ≤ 9223372036854775807) (hT : Two w fb (.int .i64 n) (.int .i64 d)) :
    Gives Tryd.prog 67 #[.pointer (some ⟨fb, 0, none⟩)] encS (tms n d) w := by
  intro l J Jx W hbW hJ hJx hY h0
  have TW : Two W fb (.int .i64 n) (.int .i64 d) := hT.below hbW
  obtain ⟨q0, q1, f0, f1, z⟩ := id TW
  refine (callsIn_wide (n := 2)).1 ?_
  refine callsIn_of_wp Tryd.func67 rfl trivial ?_
  simp only [Tryd.ntmps67, List.size_toArray, List.length_cons, List.length_nil, Nat.reduceAdd, Nat.reduceSub, Array.replicate_succ, Array.replicate_zero, List.push_toArray, List.append_toArray, List.nil_append, List.cons_append]
  gi_wp2_with (first
    | (refine ⟨trivial, ?_⟩; gi_at_call 68; refine (callsIn_wide.2 (begin_any _ _ _)).mono ?_; rintro e w1 ⟨rfl, hb1⟩)
    | (refine ⟨trivial, ?_⟩; gi_at_call 69; refine (callsIn_wide.2 (next_both n d w1.heap.size _ hn hd hd' (Two.new _ _ _ _))).mono ?_; rintro e w2 ⟨rfl, T2, B2⟩))
  have sz1 := hb1.size
  have sz2 : w1.heap.size + 1 ≤ w2.heap.size := by have := B2.size; simpa using this
  have S1 : ∀ C, Same W.heap.size C W w1 := fun C => Same.of_below hb1
  have S2 : ∀ C : Nat → Prop, ¬ C w1.heap.size → Same W.heap.size C W w2 := fun C hC => ((S1 C).trans (Same.alloc _ _ _ _)).trans (B2.same sz1 hC)
  obtain ⟨bd1, bd2, bd3⟩ := nx_bd hn hd hd'
  gi_loopg [4, 5] (d.toNat + 1) (fun g p4 p5 wr => ∃ (k : Nat) (N D : Int) (C : Nat → Prop) (c : Nat) (t : Int) (la ok : Bool),
    p4 = .pointer (some ⟨c, 0, none⟩) ∧ p5 = .bool ok ∧ Two wr c (.int .i64 t) (.bool la) ∧ Two wr w1.heap.size (.int .i64 N) (.int .i64 D) ∧ I64 N ∧ 0 ≤ D ∧ D ≤ 9223372036854775807 ∧
    (ok = true → (tms n d).drop k = (t, la) :: tms N D ∧ D.toNat < g) ∧ (ok = false → (tms n d).length = k) ∧ J k C wr ∧ w1.heap.size < c ∧ ¬ C w1.heap.size ∧ ¬ C c ∧ (∀ b, C b → W.heap.size ≤ b ∧ b < wr.heap.size))
  case atStart =>
    refine ⟨0, nxN n d, nxD n d, fun _ => False, w2.heap.size, nxT n d, nxL n d, nxOk d, rfl, rfl, Two.new _ _ _ _, T2.alloc _, bd1, bd2, bd3, ?_, ?_, ?_, by omega, fun h => h, fun h => h, fun b h => h.elim⟩
    · intro h
      refine ⟨(nx_tms hd).1 h, ?_⟩
      have : d ≠ 0 := fun e => by subst e; simp [nxOk] at h
      have := nx_less (n := n) hd this
      omega
    · intro h
      rw [(nx_tms hd).2 h]; rfl
    · exact hJ _ _ _ _ h0 ((S2 _ (fun h => h)).trans (Same.alloc _ _ _ _))
  case round =>
    obtain ⟨k, N, D, C, c, t, la, ok, rfl, rfl, Tc, TB, hN, hD, hD', hok, hno, hJk, hc, hCB, hCc, hCw⟩ := hrel
    obtain ⟨c0, c1, cf0, cf1, cz⟩ := id Tc
    cases ok with
    | false =>
      have HK : Hid ((tms n d).length = k) := hno rfl
      clear hno hok
      gi_wp2
      refine ⟨fun _ h => (by cases h), ?_⟩
      gi_wp2
      go_end0
      exact ⟨⟨_, rfl⟩, C, hCw, .inl (by rw [HK.out]; exact hJk)⟩
    | true =>
      obtain ⟨hdrop, hg⟩ := hok rfl
      have hx : (tms n d)[k]? = some (t, la) := by rw [← List.head?_drop, hdrop]; rfl
      obtain ⟨fn, tmps, assign, body, hy, hR⟩ := hY k C (t, la) wr hJk (by have := Tc.2.2.2.2; omega) hCw hx
      dsimp only [encS] at hy
      gi_wp2
      have hsW : W.heap.size ≤ w1.heap.size := sz1
      have TBz : w1.heap.size < wr.heap.size := TB.2.2.2.2
      clear c0 c1 cf0 cf1 hok hno hy hY
      refine (RoundIn.wideAny hR).mono ?_
      clear hR
      rintro e W3 (⟨rfl, C', hJ3, t3⟩ | ⟨rfl, C', hx3, t3⟩)
      · have TB3 := TB.turn t3 (by omega) hCB
        have Tc3 := Tc.turn t3 (by omega) hCc
        have nB : ¬ C' w1.heap.size := fun h => by rcases (t3.mine _ h).2.2 with x | x; exact hCB x; omega
        obtain ⟨c0, c1, cf0, cf1, cz3⟩ := id Tc3
        have cz3B : w1.heap.size < W3.heap.size := TB3.2.2.2.2
        gi_wp2_with (refine ⟨trivial, ?_⟩; gi_at_call 69; refine (callsIn_wide.2 (next_both N D w1.heap.size _ hN hD hD' (TB3.alloc _))).mono ?_; rintro e w4 ⟨rfl, T4, B4⟩; have S4 := Two.but (Two.new W3 (.int .i64 t) (.bool la) 78) B4 (by omega); obtain ⟨d0, d1, df0, df1, dz⟩ := id S4)
        gi_roundg (gk - 1)
        case measure => omega
        case rel =>
          have nc : ¬ C' W3.heap.size := fun h => by have := (t3.mine _ h).2.1; omega
          obtain ⟨b1, b2, b3⟩ := nx_bd hN hD hD'
          refine ⟨k + 1, nxN N D, nxD N D, C', W3.heap.size, nxT N D, nxL N D, nxOk D, rfl, rfl, S4.store _ _, (T4.far _ _ _ (by omega)).far _ _ _ (by omega), b1, b2, b3, ?_, ?_, ?_, cz3B, nB, nc, ?_⟩
          · intro h
            have hd1 : (tms n d).drop (k + 1) = tms N D := by rw [← List.tail_drop, hdrop]; rfl
            refine ⟨hd1.trans ((nx_tms hD).1 h), ?_⟩
            have : D ≠ 0 := fun e => by subst e; simp [nxOk] at h
            have := nx_less (n := N) hD this
            omega
          · intro h
            have e0 : tms N D = [] := (nx_tms hD).2 h
            have := congrArg List.length hdrop
            rw [e0, List.length_drop] at this
            simp at this
            omega
          · refine hJ _ _ _ _ hJ3 ?_
            have s4 : Same W.heap.size C' W3 w4 := (Same.alloc _ _ _ _).trans (B4.same (by omega) nB)
            exact (s4.setCell (by show W.heap.size ≤ W3.heap.size; omega) nc _).setCell (by show W.heap.size ≤ W3.heap.size; omega) nc _
          · intro b hb
            have := t3.mine b hb
            have := B4.size
            simp at this
            simp [World.setCell]
            omega
      · gi_wp2
        go_end0
        exact ⟨⟨_, rfl⟩, C', fun b hb => ⟨(t3.mine b hb).1, (t3.mine b hb).2.1⟩, .inr hx3⟩
end Go.Proofs.YtiigmohnmkgfoaaDoor
