/-
  Package trade: the iterator of turns hands out who is asked and who asks, and then the two change about.
-/
import Derived.Test.YtcjdfnfaiocdjaaU0
import Derived.Test.YtcjdfnfaiocdjaaR1
import Derived.Shelf.Abstract
import Derived.Shelf.RegionOpen
import Derived.OwnWalkIn
import Derived.TacticsInMore
import Derived.LoopNIn
import Derived.LoopIn
import Derived.Sort.LoopGhostIn
import Derived.Scope
import Derived.WalkMore
import Derived.RangeFuncCalls
namespace Go.Proofs.Ytcjdfnfaiocdjaa
open Go.ChangeShapes Go.WideShapes Go.ChangeAt Go.RowKit Go.Maps Go.Shelf
set_option linter.unusedVariables false
set_option linter.unusedSimpArgs false
attribute [local go_sem] Oper.semAt_some

abbrev en (x : Int × Int) : Value := .agg #[.int .i64 x.1, .int .i64 x.2]
abbrev encT (x : (Int × Int) × (Int × Int)) : Array Value := #[en x.1, en x.2]
def trn (a b : Int × Int) (k : Nat) : (Int × Int) × (Int × Int) := if k % 2 = 0 then (b, a) else (a, b)
def trns (a b : Int × Int) (m : Nat) : List ((Int × Int) × (Int × Int)) := (List.range m).map (trn a b)
theorem trns_len (a b : Int × Int) (m : Nat) : (trns a b m).length = m := by simp [trns]
theorem trns_at {a b : Int × Int} {m k : Nat} (h : k < m) : (trns a b m)[k]? = some (trn a b k) := by simp [trns, h]
theorem trn_succ (a b : Int × Int) (k : Nat) : trn a b (k + 1) = ((trn a b k).2, (trn a b k).1) := by
  unfold trn
  by_cases h : k % 2 = 0
  · rw [if_pos h, if_neg (by omega)]
  · rw [if_neg h, if_pos (by omega)]
/-- How often the two ask. -/
def asks (n : Int) : Nat := (if 100 < n then 100 else n).toNat
set_option maxRecDepth 100000 in
theorem turns_any (a b : Int × Int) (n : Int) (w : World) :
    Calls Try.prog 32 #[en a, en b, .int .i64 n] w fun e w' => e = .returned (.func (.func 47) #[] #[.pointer (some ⟨w.heap.size + 1, 0, none⟩), .pointer (some ⟨w.heap.size, 0, none⟩), .pointer (some ⟨w.heap.size + 2, 0, none⟩)]) ∧ w' = ((w.alloc (.cells #[.int .i64 a.1, .int .i64 a.2] 67)).alloc (.cells #[.int .i64 b.1, .int .i64 b.2] 67)).alloc (.cells #[.int .i64 n] 3) := by
  have hmf : ∀ (fn : Fn) (first cap : Array Value) (w : World), (Instr.makeFunc fn first cap).run Try.prog w = .ok (.func fn first cap) w := fun _ _ _ _ => rfl
  go_enter Try.func32, Try.ntmps32
  go_wp2
  go_ret
  exact ⟨rfl, rfl⟩
set_option maxRecDepth 100000 in
set_option maxHeartbeats 2000000 in
theorem turns_gives (a b : Int × Int) (n : Int) (fa fb fn_ : Nat) (w : World) (Ta : Two w fa (.int .i64 a.1) (.int .i64 a.2)) (Tb : Two w fb (.int .i64 b.1) (.int .i64 b.2)) (Tn : One w fn_ (.int .i64 n)) :
    Gives Try.prog 47 #[.pointer (some ⟨fb, 0, none⟩), .pointer (some ⟨fa, 0, none⟩), .pointer (some ⟨fn_, 0, none⟩)] encT (trns a b (asks n)) w (fun _ => True) := by
  intro l J Jx W hbW hJ hJx hKeep hY h0
  have TA := Ta.below hbW
  have TB := Tb.below hbW
  have TN := Tn.below hbW
  obtain ⟨a1, a2⟩ := a
  obtain ⟨b1, b2⟩ := b
  dsimp only at TA TB
  refine (callsIn_wide (n := 2)).1 ?_
  refine callsIn_of_wp Try.func47 rfl trivial ?_
  simp only [Try.ntmps47, List.size_toArray, List.length_cons, List.length_nil, Nat.reduceAdd, Nat.reduceSub, Array.replicate_succ, Array.replicate_zero, List.push_toArray, List.append_toArray, List.nil_append, List.cons_append]
  gi_wp2_with (fail)
  refine wpIn_mono (Q := Exit.then (fun a' W1 => ∃ c5 c6, a' = { tmps := #[.func (.yield l) #[] #[], .pointer (some ⟨fb, 0, none⟩), .pointer (some ⟨fa, 0, none⟩), .pointer (some ⟨fn_, 0, none⟩), undef, .pointer (some ⟨c5, 0, none⟩), .pointer (some ⟨c6, 0, none⟩), .agg #[.int .i64 b1, .int .i64 b2], .agg #[.int .i64 a1, .int .i64 a2], undef, undef, undef, undef, undef, undef, undef, undef, undef, undef, undef, undef], defers := [] } ∧
    Two W1 c5 (.int .i64 b1) (.int .i64 b2) ∧ Two W1 c6 (.int .i64 a1) (.int .i64 a2) ∧ c5 ≠ c6 ∧ W.heap.size ≤ c5 ∧ W.heap.size ≤ c6 ∧ Below W.heap.size W W1 ∧ c5 < W.heap.size + 2 ∧ c6 < W.heap.size + 2 ∧ W1.heap.size = W.heap.size + 2) (fun _ _ _ => False)) ?first ?_
  case first =>
    refine region_heldIn (fun W' => Two W' fb (.int .i64 b1) (.int .i64 b2) ∧ Two W' fa (.int .i64 a1) (.int .i64 a2)) (by kernel_rfl) ?_
    refine anyInH_take 0 7 (.agg #[.int .i64 b1, .int .i64 b2]) (by kernel_rfl) rfl rfl (by kernel_rfl) (by kernel_rfl) (by kernel_rfl) (fun _ _ _ h => h) (Or.inl ⟨by rfl, by intro w hSw; obtain ⟨s0, s1, s2, s3, s4⟩ := hSw.1; go_simp⟩) (fun w => by simp [Oper.about]) ⟨TB, TA⟩ ?_
    try simp only [Act.put, List.setIfInBounds_toArray, List.set_cons_zero, List.set_cons_succ]
    refine anyInH_take 1 8 (.agg #[.int .i64 a1, .int .i64 a2]) (by kernel_rfl) rfl rfl (by kernel_rfl) (by kernel_rfl) (by kernel_rfl) (fun _ _ _ h => h) (Or.inl ⟨by rfl, by intro w hSw; obtain ⟨s0, s1, s2, s3, s4⟩ := hSw.2; go_simp⟩) (fun w => by simp [Oper.about]) ⟨TB, TA⟩ ?_
    try simp only [Act.put, List.setIfInBounds_toArray, List.set_cons_zero, List.set_cons_succ]
    have zB := TB.2.2.2.2
    have zA := TA.2.2.2.2
    have E1 : Two (W.alloc (.cells #[.int .i64 0, .int .i64 0] 67)).drew fb (.int .i64 b1) (.int .i64 b2) ∧ Two (W.alloc (.cells #[.int .i64 0, .int .i64 0] 67)).drew fa (.int .i64 a1) (.int .i64 a2) := ⟨Two.alloc (W := W) TB _, Two.alloc (W := W) TA _⟩
    have E2 : Two (((W.alloc (.cells #[.int .i64 0, .int .i64 0] 67)).alloc (.cells #[.int .i64 0, .int .i64 0] 67)).drew) fb (.int .i64 b1) (.int .i64 b2) ∧ Two (((W.alloc (.cells #[.int .i64 0, .int .i64 0] 67)).alloc (.cells #[.int .i64 0, .int .i64 0] 67)).drew) fa (.int .i64 a1) (.int .i64 a2) := ⟨(Two.alloc (W := W) TB _).alloc _, (Two.alloc (W := W) TA _).alloc _⟩
    obtain ⟨W2, hW2⟩ : ∃ W2, ((W.alloc (.cells #[.int .i64 0, .int .i64 0] 67)).alloc (.cells #[.int .i64 0, .int .i64 0] 67)).drew = W2 := ⟨_, rfl⟩
    have P1 : Two W2 W.heap.size (.int .i64 0) (.int .i64 0) := by rw [← hW2]; exact (Two.new W _ _ _).alloc _
    have P2 : Two W2 (W.heap.size + 1) (.int .i64 0) (.int .i64 0) := by rw [← hW2]; exact (Two.new (W.alloc (.cells #[.int .i64 0, .int .i64 0] 67)) (.int .i64 0) (.int .i64 0) 67).at (k' := W.heap.size + 1) (by simp)
    have B2 : Below W.heap.size W W2 := by rw [← hW2]; exact (((Below.refl _ _).alloc (Nat.le_refl _) _).alloc (by simp) _).drew
    have z2 : W2.heap.size = W.heap.size + 2 := by rw [← hW2]; show ((W.alloc (.cells #[.int .i64 0, .int .i64 0] 67)).alloc (.cells #[.int .i64 0, .int .i64 0] 67)).heap.size = _; simp
    rw [hW2] at E2
    have HW2 : Hid (((W.alloc (.cells #[.int .i64 0, .int .i64 0] 67)).alloc (.cells #[.int .i64 0, .int .i64 0] 67)).drew = W2) := hW2
    clear hW2
    refine anyInH_two 2 3 (by kernel_rfl) rfl rfl (by rfl) (by rfl) (fun K hK => ?_) (fun K hK => ?_)
    · go_simp
      refine hK _ _ E1 (fun hS => ?_)
      clear hK
      try simp only [Act.put, List.setIfInBounds_toArray, List.set_cons_zero, List.set_cons_succ]
      refine anyInH_one 3 (by kernel_rfl) rfl (by rfl) (fun K hK => ?_)
      go_simp
      rw [HW2.out]
      refine hK _ _ E2 (fun hS => ?_)
      clear hK
      try simp only [Act.put, List.setIfInBounds_toArray, List.set_cons_zero, List.set_cons_succ]
      refine anyInH_one 4 (by kernel_rfl) rfl (by rfl) (fun K hK => ?_)
      obtain ⟨p0, p1, q0, q1, pz⟩ := _root_.id P1
      go_simp
      have Q1 := Two.set P1 (.int .i64 b1) (.int .i64 b2)
      have Q2 := (P2.far (.int .i64 b1) (W.heap.size) 0 (by omega)).far (.int .i64 b2) (W.heap.size) 1 (by omega)
      have E3 : Two ((W2.setCell ⟨W.heap.size, 0, none⟩ (.int .i64 b1)).setCell ⟨W.heap.size, 1, none⟩ (.int .i64 b2)) fb (.int .i64 b1) (.int .i64 b2) ∧ Two ((W2.setCell ⟨W.heap.size, 0, none⟩ (.int .i64 b1)).setCell ⟨W.heap.size, 1, none⟩ (.int .i64 b2)) fa (.int .i64 a1) (.int .i64 a2) := ⟨(E2.1.far _ _ _ (by omega)).far _ _ _ (by omega), (E2.2.far _ _ _ (by omega)).far _ _ _ (by omega)⟩
      have B3 := (B2.setCell (p := ⟨W.heap.size, 0, none⟩) (by show W.heap.size ≤ W.heap.size; omega) (.int .i64 b1)).setCell (p := ⟨W.heap.size, 1, none⟩) (by show W.heap.size ≤ W.heap.size; omega) (.int .i64 b2)
      have z3 : ((W2.setCell ⟨W.heap.size, 0, none⟩ (.int .i64 b1)).setCell ⟨W.heap.size, 1, none⟩ (.int .i64 b2)).heap.size = W.heap.size + 2 := by simpa [World.setCell] using z2
      obtain ⟨W3, hW3⟩ : ∃ W3, ((W2.setCell ⟨W.heap.size, 0, none⟩ (.int .i64 b1)).setCell ⟨W.heap.size, 1, none⟩ (.int .i64 b2)) = W3 := ⟨_, rfl⟩
      rw [hW3] at Q1 Q2 E3 B3 z3 ⊢
      clear hW3 p0 p1 q0 q1 pz
      refine hK _ _ E3 (fun hS => ?_)
      clear hK
      try simp only [Act.put, List.setIfInBounds_toArray, List.set_cons_zero, List.set_cons_succ]
      refine anyInH_one 5 (by kernel_rfl) rfl (by rfl) (fun K hK => ?_)
      obtain ⟨p0, p1, q0, q1, pz⟩ := _root_.id Q2
      go_simp
      refine hK _ _ ⟨(E3.1.far _ _ _ (by omega)).far _ _ _ (by omega), (E3.2.far _ _ _ (by omega)).far _ _ _ (by omega)⟩ (fun hS => ?_)
      clear hK
      try simp only [Act.put, List.setIfInBounds_toArray, List.set_cons_zero, List.set_cons_succ]
      refine anyInH_done (by kernel_rfl) ?_ _
      exact ⟨W.heap.size, W.heap.size + 1, rfl, (Q1.far _ _ _ (by omega)).far _ _ _ (by omega), Two.set Q2 _ _, by omega, by omega, by omega, (B3.setCell (p := ⟨W.heap.size + 1, 0, none⟩) (by show W.heap.size ≤ W.heap.size + 1; omega) _).setCell (p := ⟨W.heap.size + 1, 1, none⟩) (by show W.heap.size ≤ W.heap.size + 1; omega) _, by omega, by omega, by simpa [World.setCell] using z3⟩
    · go_simp
      refine hK _ _ E1 (fun hS => ?_)
      clear hK
      try simp only [Act.put, List.setIfInBounds_toArray, List.set_cons_zero, List.set_cons_succ]
      refine anyInH_one 2 (by kernel_rfl) rfl (by rfl) (fun K hK => ?_)
      go_simp
      rw [HW2.out]
      refine hK _ _ E2 (fun hS => ?_)
      clear hK
      try simp only [Act.put, List.setIfInBounds_toArray, List.set_cons_zero, List.set_cons_succ]
      refine anyInH_one 4 (by kernel_rfl) rfl (by rfl) (fun K hK => ?_)
      obtain ⟨p0, p1, q0, q1, pz⟩ := _root_.id P2
      go_simp
      have Q1 := Two.set P2 (.int .i64 b1) (.int .i64 b2)
      have Q2 := (P1.far (.int .i64 b1) (W.heap.size + 1) 0 (by omega)).far (.int .i64 b2) (W.heap.size + 1) 1 (by omega)
      have E3 : Two ((W2.setCell ⟨W.heap.size + 1, 0, none⟩ (.int .i64 b1)).setCell ⟨W.heap.size + 1, 1, none⟩ (.int .i64 b2)) fb (.int .i64 b1) (.int .i64 b2) ∧ Two ((W2.setCell ⟨W.heap.size + 1, 0, none⟩ (.int .i64 b1)).setCell ⟨W.heap.size + 1, 1, none⟩ (.int .i64 b2)) fa (.int .i64 a1) (.int .i64 a2) := ⟨(E2.1.far _ _ _ (by omega)).far _ _ _ (by omega), (E2.2.far _ _ _ (by omega)).far _ _ _ (by omega)⟩
      have B3 := (B2.setCell (p := ⟨W.heap.size + 1, 0, none⟩) (by show W.heap.size ≤ W.heap.size + 1; omega) (.int .i64 b1)).setCell (p := ⟨W.heap.size + 1, 1, none⟩) (by show W.heap.size ≤ W.heap.size + 1; omega) (.int .i64 b2)
      have z3 : ((W2.setCell ⟨W.heap.size + 1, 0, none⟩ (.int .i64 b1)).setCell ⟨W.heap.size + 1, 1, none⟩ (.int .i64 b2)).heap.size = W.heap.size + 2 := by simpa [World.setCell] using z2
      obtain ⟨W3, hW3⟩ : ∃ W3, ((W2.setCell ⟨W.heap.size + 1, 0, none⟩ (.int .i64 b1)).setCell ⟨W.heap.size + 1, 1, none⟩ (.int .i64 b2)) = W3 := ⟨_, rfl⟩
      rw [hW3] at Q1 Q2 E3 B3 z3 ⊢
      clear hW3 p0 p1 q0 q1 pz
      refine hK _ _ E3 (fun hS => ?_)
      clear hK
      try simp only [Act.put, List.setIfInBounds_toArray, List.set_cons_zero, List.set_cons_succ]
      refine anyInH_one 5 (by kernel_rfl) rfl (by rfl) (fun K hK => ?_)
      obtain ⟨p0, p1, q0, q1, pz⟩ := _root_.id Q2
      go_simp
      refine hK _ _ ⟨(E3.1.far _ _ _ (by omega)).far _ _ _ (by omega), (E3.2.far _ _ _ (by omega)).far _ _ _ (by omega)⟩ (fun hS => ?_)
      clear hK
      try simp only [Act.put, List.setIfInBounds_toArray, List.set_cons_zero, List.set_cons_succ]
      refine anyInH_done (by kernel_rfl) ?_ _
      exact ⟨W.heap.size + 1, W.heap.size, rfl, (Q1.far _ _ _ (by omega)).far _ _ _ (by omega), Two.set Q2 _ _, by omega, by omega, by omega, (B3.setCell (p := ⟨W.heap.size, 0, none⟩) (by show W.heap.size ≤ W.heap.size; omega) _).setCell (p := ⟨W.heap.size, 1, none⟩) (by show W.heap.size ≤ W.heap.size; omega) _, by omega, by omega, by simpa [World.setCell] using z3⟩
  rintro e a' W1 h
  cases e with
  | normal =>
    obtain ⟨c5, c6, rfl, T5, T6, hne, l5, l6, B1, u5, u6, z1⟩ := h
    obtain ⟨n0, n1, n2⟩ := TN.below B1
    obtain ⟨m, hm⟩ : ∃ m, (if 100 < n then 100 else n) = m := ⟨_, rfl⟩
    have HA : Hid (asks n = m.toNat) := by show _ = _; unfold asks; rw [hm]
    have HM : Hid (m ≤ 100) := by show _ ≤ _; rw [← hm]; split <;> omega
    have J1 := hJ _ _ _ _ h0 (Same.of_below B1)
    have HU : Hid (c5 ≠ c6 ∧ W.heap.size ≤ c5 ∧ W.heap.size ≤ c6 ∧ c5 < W.heap.size + 2 ∧ c6 < W.heap.size + 2) := ⟨hne, l5, l6, u5, u6⟩
    clear hne l5 l6 u5 u6 h0
    gi_wp2
    gi_loopg [11] (asks n) (fun g v11 wr => ∃ (k : Nat) (C : Nat → Prop), v11 = .int .i64 (k : Int) ∧ k + g = asks n ∧ J k C wr ∧ (∀ c, C c → W.heap.size + 2 ≤ c ∧ c < wr.heap.size) ∧ W.heap.size + 2 ≤ wr.heap.size ∧
      Two wr c5 (.int .i64 (trn (a1, a2) (b1, b2) k).1.1) (.int .i64 (trn (a1, a2) (b1, b2) k).1.2) ∧ Two wr c6 (.int .i64 (trn (a1, a2) (b1, b2) k).2.1) (.int .i64 (trn (a1, a2) (b1, b2) k).2.2))
    case atStart =>
      exact ⟨0, fun _ => False, by first | rfl | go_num, by omega, J1, fun c h => h.elim, by omega, T5, T6⟩
    case round =>
      obtain ⟨k, C, rfl, hg, hJk, hCw, hWs, U5, U6⟩ := hrel
      have hu := HU.out
      have nc5 : ¬ C c5 := fun h => by have := (hCw _ h).1; omega
      have nc6 : ¬ C c6 := fun h => by have := (hCw _ h).1; omega
      by_cases hi : k < asks n
      · have hiI : (k : Int) < m := by have := HA.out; omega
        have hx := trns_at (a := (a1, a2)) (b := (b1, b2)) hi
        have hsu := trn_succ (a1, a2) (b1, b2) k
        obtain ⟨⟨⟨p1, p2⟩, ⟨q1, q2⟩⟩, hq⟩ : ∃ x, trn (a1, a2) (b1, b2) k = x := ⟨_, rfl⟩
        rw [hq] at hx hsu U5 U6
        dsimp only at hsu U5 U6
        obtain ⟨t0, t1, s0, s1, tz⟩ := _root_.id U5
        obtain ⟨v0, v1, y0, y1, vz⟩ := _root_.id U6
        obtain ⟨fn1, tmps, assign, body, hy, hR⟩ := hY k C ((p1, p2), (q1, q2)) wr hJk (by omega) (fun c hc => ⟨by have := (hCw c hc).1; omega, (hCw c hc).2⟩) hx
        dsimp only [encT, en] at hy hR
        have HS : Hid (trn (a1, a2) (b1, b2) (k + 1) = ((q1, q2), (p1, p2))) := hsu
        have HG : Hid (k + gk = asks n) := hg
        clear hu hi hsu hq hg hm
        gi_wp2
        clear hy hY hx
        refine (RoundIn.wideAny hR).mono ?_
        clear hR
        rintro e W3 (⟨rfl, C', hJ3, t3⟩ | ⟨rfl, C', hx3, t3⟩)
        · have hu := HU.out
          have U7 := U5.turn t3 hu.2.1 nc5
          have U8 := U6.turn t3 hu.2.2.1 nc6
          have hs3 := t3.size
          have hC3 : ∀ c, C' c → W.heap.size + 2 ≤ c ∧ c < W3.heap.size := fun c hc => ⟨(by
            rcases (t3.mine c hc).2.2 with x | x
            · exact (hCw c x).1
            · omega), (t3.mine c hc).2.1⟩
          have nd5 : ¬ C' c5 := fun h => by have := (hC3 _ h).1; omega
          have nd6 : ¬ C' c6 := fun h => by have := (hC3 _ h).1; omega
          have hin : IntKind.i64.wrap ((k : Int) + 1) = (k : Int) + 1 := by rw [IntKind.wrap_i64]; have := HA.out; have := HM.out; have := HG.out; omega
          have J4 := hJ _ _ _ _ hJ3 (((((Same.refl W.heap.size C' W3).setCell (p := ⟨c5, 0, none⟩) hu.2.1 nd5 (.int .i64 q1)).setCell (p := ⟨c5, 1, none⟩) hu.2.1 nd5 (.int .i64 q2)).setCell (p := ⟨c6, 0, none⟩) hu.2.2.1 nd6 (.int .i64 p1)).setCell (p := ⟨c6, 1, none⟩) hu.2.2.1 nd6 (.int .i64 p2))
          have V5 := ((Two.set U7 (.int .i64 q1) (.int .i64 q2)).far (.int .i64 p1) c6 0 (fun e => hu.1 e.symm)).far (.int .i64 p2) c6 1 (fun e => hu.1 e.symm)
          have V6 := Two.set ((U8.far (.int .i64 q1) c5 0 hu.1).far (.int .i64 q2) c5 1 hu.1) (.int .i64 p1) (.int .i64 p2)
          obtain ⟨t0, t1, s0, s1, tz⟩ := _root_.id U7
          obtain ⟨v0, v1, y0, y1, vz⟩ := _root_.id U8
          have e1 := hu.1
          have e2 : c6 ≠ c5 := fun e => hu.1 e.symm
          clear hu hs3
          gi_wp2
          gi_roundg (gk - 1)
          case measure => have := HG.out; have := HA.out; omega
          case rel =>
            refine ⟨k + 1, C', by first | rfl | go_num, by have := HG.out; have := HA.out; omega, J4, fun c hc => ⟨(hC3 c hc).1, by simpa [World.setCell] using (hC3 c hc).2⟩, by have := t3.size; simp [World.setCell]; omega, ?_, ?_⟩
            · rw [HS.out]; exact V5
            · rw [HS.out]; exact V6
        · gi_wp2
          exact bodyPost_ret (v := .tuple #[]) (by simp [results, Try.results47, go_sem]) rfl ⟨⟨_, rfl⟩, C', fun b hb => ⟨(t3.mine b hb).1, (t3.mine b hb).2.1⟩, .inr hx3⟩
      · have hiI : ¬ (k : Int) < m := by have := HA.out; omega
        have HK : Hid ((trns (a1, a2) (b1, b2) (asks n)).length = k) := by show _ = _; rw [trns_len]; omega
        clear hm
        gi_wp2
        go_end0
        exact ⟨⟨_, rfl⟩, C, fun c hc => ⟨by have := (hCw c hc).1; omega, (hCw c hc).2⟩, .inl (by rw [HK.out]; exact hJk)⟩
  | _ => exact h.elim
end Go.Proofs.Ytcjdfnfaiocdjaa
