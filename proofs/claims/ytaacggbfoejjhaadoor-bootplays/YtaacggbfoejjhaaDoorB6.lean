/-
  Package boot: the slots with the numbers that stand in them, whatever loop takes them.
-/
import Derived.Test.YtaacggbfoejjhaaDoorB5
import Derived.Test.YtaacggbfoejjhaaDoorSBlocks
import Derived.Shelf.Abstract
import Derived.Shelf.RegionOpen
import Derived.OwnWalkIn
import Derived.TacticsInMore
import Derived.LoopNIn
import Derived.LoopIn
import Derived.Sort.LoopGhostIn
import Derived.Scope
import Derived.WalkMore
namespace Go.Proofs.YtaacggbfoejjhaaDoor
open Go.ChangeShapes Go.WideShapes Go.ChangeAt Go.RowKit Go.Shelf
open D
set_option linter.unusedVariables false
set_option linter.unusedSimpArgs false
attribute [local go_sem] Oper.semAt_some

section
variable {F : Fence} {n : Nat} {ops : Array Oper} {rest : List Oper} {o : Oper} {a : Act} {w : World} {Q : Exit → Act → World → Prop}
theorem wpListIn_allocB (hgd : o.guard = none) (T m : Nat) (hT : Arr T m) (ho : o.op = .alloc T)
    (h : ∀ w1, Nw w w1 T (zr m) → wpListIn F n Tryd.prog ops Q rest (a.put o.dst (.pointer (some ⟨w.heap.size, 0, none⟩))) w1) : wpListIn F n Tryd.prog ops Q (o :: rest) a w := by
  refine wpListIn_plain hgd fun K hK => ?_
  unfold Oper.wpIn
  refine ⟨by simp [Oper.about, ho], ?_⟩
  rw [Oper.semAt_plain F _ _ (by rw [ho]; intro c hc'; cases hc')]
  simp only [execOp, ho, Sem.run_bind, run_allocB w hT, Result.andThen_ok, Sem.run_pure]
  exact hK _ _ (h _ (nw_alloc _ _ _))
theorem wpListIn_storeB (hgd : o.guard = none) (T m : Nat) (hT : Arr T m) (x y : Operand) (ho : o.op = .store T x y) (g off : Nat) (t : TypeId) (bs zs : List Int)
    (hx : a.eval x = .pointer (some ⟨g, off, none⟩)) (hy : a.eval y = vb zs) (hl : Blk w g t bs) (hz : zs.length = m) (hf : off + m ≤ bs.length)
    (h : ∀ w1, Wrote w w1 g t (splice bs off zs) → wpListIn F n Tryd.prog ops Q rest (a.put o.dst undef) w1) : wpListIn F n Tryd.prog ops Q (o :: rest) a w := by
  refine wpListIn_plain hgd fun K hK => ?_
  unfold Oper.wpIn
  refine ⟨by simp [Oper.about, ho], ?_⟩
  rw [Oper.semAt_plain F _ _ (by rw [ho]; intro c hc'; cases hc')]
  simp only [execOp, ho, hx, hy, Sem.run_bind, run_storeB w g off t T m hT bs zs hl hz hf, Result.andThen_ok, Sem.run_pure]
  exact hK _ _ (h _ (wrote_row hl _))
theorem wpListIn_loadB (hgd : o.guard = none) (T m : Nat) (hT : Arr T m) (x : Operand) (ho : o.op = .load T x) (g off : Nat) (zs : List Int)
    (hx : a.eval x = .pointer (some ⟨g, off, none⟩)) (hc : w.rangeAt g off (zs.map bv)) (hz : zs.length = m)
    (h : wpListIn F n Tryd.prog ops Q rest (a.put o.dst (vb zs)) w) : wpListIn F n Tryd.prog ops Q (o :: rest) a w := by
  refine wpListIn_plain hgd fun K hK => ?_
  unfold Oper.wpIn
  refine ⟨by simp [Oper.about, ho], ?_⟩
  rw [Oper.semAt_plain F _ _ (by rw [ho]; intro c hc'; cases hc')]
  simp only [execOp, ho, hx, Sem.run_bind, run_loadB hT hc hz, Result.andThen_ok, Sem.run_pure]
  exact hK _ _ h
theorem run_indexB (T E m : Nat) (hE : Arr E m) (hu : Tryd.prog.underlying T = some (.array 2 E)) {k : Nat} {e : TypeId} (hue : Tryd.prog.underlying E = some (.array k e)) (xs : List Int) (i : Nat) (hi : i < 2) (w : World) : (Instr.index T (vb xs) (.int .i64 (i : Int))).run Tryd.prog w = .ok (vb ((xs.drop (i * m)).take m)) w := by
  have h0 : (0 : Int) ≤ (i : Int) ∧ (i : Int) < ((2 : Nat) : Int) := by omega
  simp only [Instr.index, asIntOf, Sem.run_bind, Sem.run_pure, Result.andThen_ok, run_underlying hu, sizeB hE, Int.toNat_natCast, part_B hE hue]
  rw [if_pos h0]
  simp only [Sem.run_bind, sizeB hE, Result.andThen_ok, part_B hE hue]
theorem wpListIn_indexB (hgd : o.guard = none) (T E m : Nat) (hE : Arr E m) (hu : Tryd.prog.underlying T = some (.array 2 E)) {k : Nat} {e : TypeId} (hue : Tryd.prog.underlying E = some (.array k e)) (x y : Operand) (ho : o.op = .index T x y) (zs : List Int) (i : Nat) (hi : i < 2)
    (hx : a.eval x = vb zs) (hy : a.eval y = .int .i64 (i : Int)) (h : wpListIn F n Tryd.prog ops Q rest (a.put o.dst (vb ((zs.drop (i * m)).take m))) w) : wpListIn F n Tryd.prog ops Q (o :: rest) a w := by
  refine wpListIn_plain hgd fun K hK => ?_
  unfold Oper.wpIn
  refine ⟨by simp [Oper.about, ho], ?_⟩
  rw [Oper.semAt_plain F _ _ (by rw [ho]; intro c hc'; cases hc')]
  simp only [execOp, ho, hx, hy, Sem.run_bind, run_indexB T E m hE hu hue zs i hi, Result.andThen_ok, Sem.run_pure]
  exact hK _ _ h
theorem wpList_indexB (hgd : o.guard = none) (T E m : Nat) (hE : Arr E m) (hu : Tryd.prog.underlying T = some (.array 2 E)) {k : Nat} {e : TypeId} (hue : Tryd.prog.underlying E = some (.array k e)) (x y : Operand) (ho : o.op = .index T x y) (zs : List Int) (i : Nat) (hi : i < 2)
    (hx : a.eval x = vb zs) (hy : a.eval y = .int .i64 (i : Int)) (h : wpList Tryd.prog ops Q rest (a.put o.dst (vb ((zs.drop (i * m)).take m))) w) : wpList Tryd.prog ops Q (o :: rest) a w :=
  wpList_plain hgd fun K hK => by
    unfold Oper.wp execOp
    simp only [ho, hx, hy, Sem.run_bind, run_indexB T E m hE hu hue zs i hi, Result.andThen_ok, Sem.run_pure]
    exact hK _ _ h
end
/-- A slot's bytes; what stands in the two. -/
def slot (zs : List Int) (i : Nat) : List Int := (zs.drop (i * 32)).take 32
theorem slot_len {zs : List Int} (h : zs.length = 64) {i : Nat} (hi : i < 2) : (slot zs i).length = 32 := by unfold slot; rw [List.length_take, List.length_drop]; omega
theorem slot_byt {zs : List Int} (h : Byt zs) (i : Nat) : Byt (slot zs i) := fun c hc => h c (List.mem_of_mem_drop (List.mem_of_mem_take hc))
def nums (zs : List Int) : List (Nat × Nat) := [(0, stand (slot zs 0)), (1, stand (slot zs 1))]
theorem nums_at (zs : List Int) {i : Nat} (hi : i < 2) : (nums zs)[i]? = some (i, stand (slot zs i)) := by
  rcases i with _ | _ | i
  · rfl
  · rfl
  · omega
abbrev encN (q : Nat × Nat) : Array Value := #[.int .i64 (q.1 : Int), .int .i64 (q.2 : Int)]
structure KeepN (k : Nat) (zs : List Int) (A : World) : Prop where
  blk : Blk A k 56 zs
  tab : S.Tab A
theorem Nw.wrote {w w1 w2 : World} {T : TypeId} {zs ys : List Int} (N : Nw w w1 T zs) (W : Wrote w1 w2 w.heap.size T ys) : Below w.heap.size w w2 :=
  N.below.trans (W.only.below (by have := N.size; omega) (by intro q e; have e' : q = w.heap.size := e; omega))
set_option maxRecDepth 100000 in
set_option maxHeartbeats 8000000 in
theorem numbers_gives (k : Nat) (zs : List Int) (w : World) (hz : zs.length = 64) (hb : Byt zs) : S.Gives Tryd.prog 43 #[.pointer (some ⟨k, 0, none⟩)] encN (nums zs) w (KeepN k zs) := by
  intro l J Jx W hbW hJ hJx hKeep hY h0
  have K0 := hKeep _ _ _ h0
  refine (callsIn_wide (n := 2)).1 ?_
  refine callsIn_of_wp Tryd.func43 rfl trivial ?_
  simp only [Tryd.ntmps43, List.size_toArray, List.length_cons, List.length_nil, Nat.reduceAdd, Nat.reduceSub, Array.replicate_succ, Array.replicate_zero, List.push_toArray, List.append_toArray, List.nil_append, List.cons_append]
  have hnl : (nums zs).length = 2 := rfl
  have hna := fun (i : Nat) (hi : i < 2) => nums_at zs hi
  obtain ⟨xs, hxs⟩ : ∃ xs, nums zs = xs := ⟨_, rfl⟩
  rw [hxs] at hY hnl hna ⊢
  clear hxs
  have HNL : Hid (xs.length = 2) := hnl
  clear hnl
  gi_wp2_with (first
    | ((with_reducible show wpListIn _ _ _ _ _ (Oper.mk _ (Op.load 56 _) _ _ _ _ :: _) _ _); refine wpListIn_loadB rfl 56 64 arr56 _ rfl k 0 zs rfl K0.blk.whole hz ?_))
  gi_loopg [6] 2 (fun g v6 wr => ∃ (i : Nat) (C : Nat → Prop), v6 = .int .i64 (i : Int) ∧ i + g = 2 ∧ J i C wr ∧ (∀ c, C c → W.heap.size ≤ c ∧ c < wr.heap.size) ∧ W.heap.size ≤ wr.heap.size)
  case atStart => exact ⟨0, fun _ => False, rfl, rfl, h0, fun c h => h.elim, Nat.le_refl _⟩
  case round =>
    obtain ⟨i, C, rfl, hg, hJi, hCw, hWs⟩ := hrel
    have Kr := hKeep _ _ _ hJi
    by_cases hc : i < 2
    · have hcI : (i : Int) < 2 := by omega
      have hx := hna i hc
      have hsl := slot_len hz hc
      have hsb := slot_byt hb i
      obtain ⟨ys, HYS⟩ : ∃ ys, Hid (slot zs i = ys) := ⟨_, rfl⟩
      rw [HYS.out] at hx hsl hsb
      gi_wp2_with (first
        | ((with_reducible show wpListIn _ _ _ _ _ (Oper.mk _ (Op.index 56 _ _) _ _ _ _ :: _) _ _); refine wpListIn_indexB rfl 56 54 32 arr54 und56 und54 _ _ rfl zs i hc rfl rfl ?_; rw [show (zs.drop (i * 32)).take 32 = ys from HYS.out])
        | ((with_reducible show wpListIn _ _ _ _ _ (Oper.mk _ (Op.alloc 54) _ _ _ _ :: _) _ _); refine wpListIn_allocB rfl 54 32 arr54 rfl ?_; intro w1 N1)
        | ((with_reducible show wpListIn _ _ _ _ _ (Oper.mk _ (Op.store 54 _ _) _ _ _ _ :: _) _ _); refine wpListIn_storeB rfl 54 32 arr54 _ _ rfl wr.heap.size 0 54 (zr 32) ys rfl rfl N1.blk hsl (by rw [zr_len]; decide) ?_; intro w2 W2; rw [splice_all _ _ (by rw [hsl, zr_len])] at W2; have b2 := N1.wrote W2)
        | ((with_reducible show wpListIn _ _ _ _ _ (Oper.mk _ (Op.load 54 _) _ _ _ _ :: _) _ _); refine wpListIn_loadB rfl 54 32 arr54 _ rfl wr.heap.size 0 ys rfl W2.blk.whole hsl ?_)
        | (refine ⟨trivial, ?_⟩; gi_at_call 44; refine (callsIn_wide.2 (number_any ys w2 hsl hsb (Kr.tab.below b2))).mono ?_; rintro e w3 ⟨rfl, b3⟩; have b23 := b2.trans (b3.mono b2.size); have JA := hJ _ _ _ w3 hJi (S.Same.of_below b23); have hY1 := hY i C (i, stand ys) w3 JA (Nat.le_trans hWs b23.size) (fun c hc => ⟨(hCw c hc).1, Nat.lt_of_lt_of_le (hCw c hc).2 b23.size⟩) hx; obtain ⟨fn1, tmps, assign, body, hy, hR⟩ := hY1; dsimp only [encN] at hy))
      clear hy hY hx K0 Kr N1 W2 JA
      refine (S.RoundIn.wideAny hR).mono ?_
      rintro e W3 (⟨rfl, C', hJ3, t3⟩ | ⟨rfl, C', hx3, t3⟩)
      · have hs3 := t3.size
        have hC3 : ∀ c, C' c → W.heap.size ≤ c ∧ c < W3.heap.size := fun c hc => ⟨(t3.mine c hc).1, (t3.mine c hc).2.1⟩
        have hle : W.heap.size ≤ W3.heap.size := Nat.le_trans (Nat.le_trans hWs b23.size) hs3
        gi_wp2
        gi_roundg (gk - 1)
        case measure => omega
        case rel => exact ⟨i + 1, C', by first | rfl | go_num, by omega, hJ3, hC3, hle⟩
      · gi_wp2
        exact bodyPost_ret (v := .tuple #[]) (by simp [results, Tryd.results43, go_sem]) rfl ⟨⟨_, rfl⟩, C', fun b hb => ⟨(t3.mine b hb).1, (t3.mine b hb).2.1⟩, .inr hx3⟩
    · have hcI : ¬ (i : Int) < 2 := by omega
      have e : Hid (i = 2) := by show _ = _; omega
      gi_wp2
      go_end0
      exact ⟨⟨_, rfl⟩, C, hCw, .inl (by rw [HNL.out, ← e.out]; exact hJi)⟩
end Go.Proofs.YtaacggbfoejjhaaDoor
