/-
  The iterator over the frames that stand whole hands out just those that Salvage tells, whatever loop takes them.
-/
import Derived.Test.YteadkfcbgphgnaaDoorStretch
import Derived.Shelf.Abstract
import Derived.Shelf.RegionOpen
import Derived.OwnWalkIn
import Derived.TacticsInMore
import Derived.LoopNIn
import Derived.LoopIn
import Derived.Sort.LoopGhostIn
import Derived.Scope
import Derived.WalkMore
namespace Go.Proofs.YteadkfcbgphgnaaDoor
open Go.ChangeShapes Go.WideShapes Go.ChangeAt Go.RowKit Go.Shelf
set_option linter.unusedVariables false
set_option linter.unusedSimpArgs false
attribute [local go_sem] Oper.semAt_some

/-- What is handed out: the place, and the frame. -/
abbrev encQ (b off cap : Nat) (q : List Int × Nat) : Array Value := #[.int .i64 (q.2 : Int), .slice (some ⟨b, off + q.2, none⟩) (q.1.length + 8) (cap - q.2)]
/-- What the iterator leans on: the bytes, the variable that holds them, the table. -/
def KeepB (a : Option Addr) (len cap : Nat) (zs : List Int) (fb : Nat) (A : World) : Prop := Row .u8 A a len cap zs ∧ One A fb (.slice a len cap) ∧ Tab A

theorem whole_any (a : Option Addr) (len cap : Nat) (w : World) :
    Calls Tryd.prog 27 #[.slice a len cap] w fun e w' => e = .returned (.func (.func 29) #[] #[.pointer (some ⟨w.heap.size, 0, none⟩)]) ∧ w' = w.alloc (.cells #[.slice a len cap] 22) := by
  have hmf : ∀ (fn : Fn) (first cap : Array Value) (w : World), (Instr.makeFunc fn first cap).run Tryd.prog w = .ok (.func fn first cap) w := fun _ _ _ _ => rfl
  go_enter Tryd.func27, Tryd.ntmps27
  go_wp2
  go_ret
  exact ⟨rfl, rfl⟩

theorem wide_scope {n : Nat} {P : Program} {c : Code} {Q : Exit → Act → World → Prop} {a : Act} {w : World} (h : c.wpIn Fence.wide n P (Exit.noGoto Q) a w) : (Code.scope c).wpIn Fence.wide n P Q a w :=
  wpIn_wide.2 (wp_scope_straight (wpIn_wide.1 h))
theorem add_plain (b off i : Nat) : (⟨b, off, none⟩ : Addr).add i = ⟨b, off + i, none⟩ := by unfold Addr.add; split <;> simp_all
theorem body_len {l bd : List Int} {n : Nat} (h : opn l = .ok (bd, n)) : n = bd.length + 8 := by
  unfold opn at h
  split at h
  · cases h
  split at h
  · cases h
  split at h
  · cases h
  split at h
  · cases h
  rename_i h3 _
  simp only [Except.ok.injEq, Prod.mk.injEq] at h
  obtain ⟨rfl, rfl⟩ := h
  rw [List.length_take, List.length_drop]
  omega

set_option maxRecDepth 100000 in
set_option maxHeartbeats 8000000 in
theorem whole_gives (a : Option Addr) (b off : Nat) (len cap : Nat) (zs : List Int) (fb : Nat) (w : World) (hl : len ≤ 1099511627776) (hcap : cap ≤ 9223372036854775807) (ha : 0 < len → a = some ⟨b, off, none⟩) :
    Gives Tryd.prog 29 #[.pointer (some ⟨fb, 0, none⟩)] (encQ b off cap) (salF len 0 zs) w (KeepB a len cap zs fb) := by
  intro l J Jx W hbW hJ hJx hKeep hY h0
  obtain ⟨RW, OW, TW⟩ := hKeep _ _ _ h0
  have hsz := RW.size
  have hle := RW.le
  obtain ⟨o0, of0, oz0⟩ := id OW
  have KSu := sumsOf_any _ _ _ _ W RW TW hl hcap
  refine (callsIn_wide (n := 2)).1 ?_
  refine callsIn_of_wp Tryd.func29 rfl trivial ?_
  simp only [Tryd.ntmps29, List.size_toArray, List.length_cons, List.length_nil, Nat.reduceAdd, Nat.reduceSub, Array.replicate_succ, Array.replicate_zero, List.push_toArray, List.append_toArray, List.nil_append, List.cons_append]
  gi_wp2
  refine wide_scope ?_
  gi_wp2_with (refine ⟨trivial, ?_⟩; gi_at_call 30; refine (callsIn_wide.2 KSu).mono ?_; rintro e w1 ⟨kg, rfl, hkg, hK1, hB1⟩)
  refine wpIn_label ?_
  gi_wp2
  have hT1 := Two.new w1 (.slice a len cap) (.slice (some ⟨kg, 0, none⟩) (len / 64 + 1) (len / 64 + 1)) 62
  gi_loopg [4] len (fun g ix wr => ∃ (p k : Nat) (C : Nat → Prop), ix = .int .i64 p ∧ p ≤ len ∧ len - p ≤ g ∧ k ≤ (salF len 0 zs).length ∧ Hid ((salF len 0 zs).drop k = salF (len - p) p (zs.drop p)) ∧ J k C wr ∧ wr.rowIs kg 29 (len / 64 + 1) (keptF zs (len / 64)) ∧ Two wr w1.heap.size (.slice a len cap) (.slice (some ⟨kg, 0, none⟩) (len / 64 + 1) (len / 64 + 1)) ∧ ¬ C kg ∧ ¬ C w1.heap.size ∧ (∀ c, C c → W.heap.size ≤ c ∧ c < wr.heap.size))
  case atStart =>
    refine ⟨0, 0, fun _ => False, rfl, by omega, by omega, by omega, rfl, hJ _ _ _ _ h0 ((Same.of_below hB1).trans (Same.alloc _ _ _ _)), hK1.alloc _, hT1, fun h => h, fun h => h, fun c h => h.elim⟩
  case round =>
    obtain ⟨p, k, C, rfl, hp, hg, hkl, HX, hJk, hK, hT, hCk, hCs, hCw⟩ := hrel
    obtain ⟨Rr, Oq, Tr⟩ := hKeep _ _ _ hJk
    obtain ⟨c0, cf0, cz0⟩ := id Oq
    have hW1 := hB1.size
    by_cases hc : p < len
    · obtain rfl := ha (by omega)
      have hne : zs.drop p ≠ [] := by intro h; have := congrArg List.length h; rw [List.length_drop] at this; simp at this; omega
      obtain ⟨f, hf⟩ : ∃ f, len - p = f + 1 := ⟨len - p - 1, by omega⟩
      have P := Rr.part p len (by omega) (by omega)
      have e1 : (⟨b, off, none⟩ : Addr).add p = ⟨b, off + p, none⟩ := add_plain b off p
      have e2 : (zs.drop p).take (len - p) = zs.drop p := List.take_of_length_le (by rw [List.length_drop]; omega)
      rw [e1, e2] at P
      have KS := standing_any _ _ _ _ wr P (by omega)
      have hos := opn_stand (zs.drop p) P.byte
      cases hst : stand (zs.drop p) with
      | error c =>
        rw [hst] at KS hos
        simp only [stdV] at KS
        simp only at hos
        have hc0 := neq_err (stand_err hst)
        have HX2 : Hid ((salF len 0 zs).drop k = salF (len - (p + 1)) (p + 1) (zs.drop (p + 1))) := by
          show _ = _
          rw [HX.out, hf, salF_err hne hos, List.drop_drop, salF_fuel f (len - (p + 1)) _ _ (by rw [List.length_drop]; omega) (by rw [List.length_drop]; omega)]
        clear hos hst HX P e1 e2 hne hf hY
        gi_wp2_with (refine ⟨trivial, ?_⟩; gi_at_call 24; refine (callsIn_wide.2 KS).mono ?_; rintro e w2 ⟨rfl, n0, hw2⟩; have b2 : Below wr.heap.size wr w2 := (by rw [hw2]; exact below_drewN (Below.refl _ _) _); clear hw2; have O2 := Oq.below b2; obtain ⟨p0, pf0, pz0⟩ := id O2)
        refine wpIn_wide.2 ?_
        go_quiet (fail)
        have b3 : Below wr.heap.size wr (w2.drewN nq) := below_drewN b2 _
        gi_wp2
        gi_roundg (gk - 1)
        case measure => omega
        case rel => exact ⟨p + 1, k, C, by first | rfl | go_num, by omega, by omega, hkl, HX2, hJ _ _ _ _ hJk (Same.of_below b3), hK.of_block (b3.block kg hK.lt), hT.below b3, hCk, hCs, fun c hc => ⟨(hCw c hc).1, Nat.lt_of_lt_of_le (hCw c hc).2 b3.size⟩⟩
      | ok n =>
        obtain ⟨hn, hnl⟩ := stand_ok hst
        rw [List.length_drop] at hnl
        rw [hst] at KS hos
        simp only [stdV] at KS
        simp only at hos
        have hn8 : 8 ≤ n := by omega
        have hnl2 : p + n ≤ len := by omega
        clear hn hnl hst
        have P1 := Rr.part p (p + n) (by omega) (by omega)
        rw [e1, show p + n - p = n by omega] at P1
        have hU : (zs.drop (p + 2)).take (p + n - 4 - (p + 2)) = ((zs.drop p).drop 2).take (n - 6) := by
          rw [List.drop_drop, show p + n - 4 - (p + 2) = n - 6 by omega]
        obtain ⟨S, hS⟩ : ∃ S, num4 (((zs.drop p).take n).drop (n - 4)) = S := ⟨_, rfl⟩
        obtain ⟨U, hUU⟩ : ∃ U, sumB (((zs.drop p).drop 2).take (n - 6)) = U := ⟨_, rfl⟩
        rw [hS, hUU] at hos
        have KI := fun X (R' : Row .u8 X (some ⟨b, off + p, none⟩) n (cap - p) ((zs.drop p).take n)) => sumIn_any b (off + p) n (cap - p) _ X R' (by omega) (by omega)
        rw [hS] at KI
        have KX := fun X (H' : SumsAt X b off len cap kg zs) => stretch_any b off len cap kg (p + 2) (p + n - 4) zs X H' hl hcap (by omega) (by omega)
        rw [hU, hUU, show ((p + 2 : Nat) : Int) = (p : Int) + 2 by omega, show ((p + n - 4 : Nat) : Int) = (p : Int) + (n : Int) - 4 by omega] at KX
        have i1 : (0 : Int) ≤ (p : Int) + (n : Int) := by omega
        have i2 : max ((p : Int) + (n : Int)) 0 = (p : Int) + (n : Int) := by omega
        have i3 : (p : Int) ≤ (p : Int) + (n : Int) := by omega
        have i4 : (p : Int) + (n : Int) ≤ (cap : Int) := by omega
        have i6 : ¬ (cap = p) := by omega
        have i7 : ¬ ((p : Int) + (n : Int) < (p : Int)) := by omega
        have i8 : ((p : Int) + (n : Int)).toNat - p = n := by omega
        have v1 : IntKind.i64.wrap ((p : Int) + (n : Int)) = (p : Int) + (n : Int) := by rw [IntKind.wrap_i64]; omega
        have v2 : IntKind.i64.wrap ((p : Int) + 2) = (p : Int) + 2 := by rw [IntKind.wrap_i64]; omega
        have v3 : IntKind.i64.wrap ((p : Int) + (n : Int) - 4) = (p : Int) + (n : Int) - 4 := by rw [IntKind.wrap_i64]; omega
        by_cases hE : S = U
        · have hcmp : ((S : Int) != (U : Int)) = false := by simp [hE]
          rw [if_neg (by simpa using hE)] at hos
          obtain ⟨bd, hbd⟩ : ∃ bd, ((zs.drop p).drop 4).take (n - 8) = bd := ⟨_, rfl⟩
          rw [hbd] at hos
          have HBL : Hid (n = bd.length + 8) := body_len hos
          have HX2 : Hid ((salF len 0 zs).drop k = (bd, p) :: salF (len - (p + n)) (p + n) (zs.drop (p + n))) := by
            show _ = _
            rw [HX.out, hf, salF_ok hos, List.drop_drop, salF_fuel f (len - (p + n)) _ _ (by rw [List.length_drop]; omega) (by rw [List.length_drop]; omega)]
          have HXX : Hid ((salF len 0 zs)[k]? = some (bd, p)) := by show _ = _; rw [← List.head?_drop, HX2.out]; rfl
          have hkl2 : k < (salF len 0 zs).length := (List.getElem?_eq_some_iff.1 HXX.out).1
          have HX3 : Hid ((salF len 0 zs).drop (k + 1) = salF (len - (p + n)) (p + n) (zs.drop (p + n))) := by
            show _ = _
            rw [← List.tail_drop, HX2.out]
            rfl
          clear hos HX HX2 P e1 e2 hne hf hS hUU hU hbd hE
          gi_wp2_with (refine ⟨trivial, ?_⟩; gi_at_call 24; refine (callsIn_wide.2 KS).mono ?_; rintro e w2 ⟨rfl, n0, hw2⟩; have b2 : Below wr.heap.size wr w2 := (by rw [hw2]; exact below_drewN (Below.refl _ _) _); clear hw2; have O2 := Oq.below b2; obtain ⟨p0, pf0, pz0⟩ := id O2)
          obtain ⟨w3, hw3⟩ : ∃ w3, w2.drew = w3 := ⟨_, rfl⟩
          have b3 : Below wr.heap.size wr w3 := (by rw [← hw3]; exact b2.drew)
          have O3 := Oq.below b3
          have T3 := hT.below b3
          have KI3 := KI w3 (P1.below b3)
          have H3 : SumsAt w3 b off len cap kg zs := ⟨Rr.below b3, hK.of_block (b3.block kg hK.lt), Tr.below b3⟩
          have KXX := KX
          replace KX : ∀ Y, Below w3.heap.size w3 Y → _ := fun Y hY' => KXX Y (H3.below hY')
          clear P1 KI KXX
          refine wpIn_wide.2 ?_
          refine wp_region_any (by kernel_rfl) ?_
          change wpAny _ _ _ _ _ _ _ (World.drew _)
          rw [hw3]
          refine any_take 0 20 (.int .i64 0) rfl rfl (by kernel_rfl) (by kernel_rfl) (by kernel_rfl) (fun _ _ _ h => h) (Or.inl ⟨by rfl, by intro w; go_simp⟩) ?_
          try simp only [Act.put, List.setIfInBounds_toArray, List.set_cons_zero, List.set_cons_succ]
          refine any_take 1 21 (.bool false) rfl rfl (by kernel_rfl) (by kernel_rfl) (by kernel_rfl) (fun _ _ _ h => h) (Or.inl ⟨by rfl, by intro w; go_simp⟩) ?_
          try simp only [Act.put, List.setIfInBounds_toArray, List.set_cons_zero, List.set_cons_succ]
          refine any_take 2 22 (.bool false) rfl rfl (by kernel_rfl) (by kernel_rfl) (by kernel_rfl) (fun _ _ _ h => h) (Or.inl ⟨by rfl, by intro w; go_simp⟩) ?_
          try simp only [Act.put, List.setIfInBounds_toArray, List.set_cons_zero, List.set_cons_succ]
          refine any_take 4 24 (.int .i64 p) rfl rfl (by kernel_rfl) (by kernel_rfl) (by kernel_rfl) (fun _ _ _ h => h) (Or.inl ⟨by rfl, by intro w; go_simp⟩) ?_
          try simp only [Act.put, List.setIfInBounds_toArray, List.set_cons_zero, List.set_cons_succ]
          refine any_take 5 25 (.int .i64 p) rfl rfl (by kernel_rfl) (by kernel_rfl) (by kernel_rfl) (fun _ _ _ h => h) (Or.inl ⟨by rfl, by intro w; go_simp⟩) ?_
          try simp only [Act.put, List.setIfInBounds_toArray, List.set_cons_zero, List.set_cons_succ]
          refine any_take 6 26 (.int .i64 n) rfl rfl (by kernel_rfl) (by kernel_rfl) (by kernel_rfl) (fun _ _ _ h => h) (Or.inl ⟨by rfl, by intro w; go_simp⟩) ?_
          try simp only [Act.put, List.setIfInBounds_toArray, List.set_cons_zero, List.set_cons_succ]
          refine any_take 7 27 (.int .i64 ((p : Int) + (n : Int))) rfl rfl (by kernel_rfl) (by kernel_rfl) (by kernel_rfl) (fun _ _ _ h => h) (Or.inl ⟨by rfl, by intro w; go_simp⟩) ?_
          try simp only [Act.put, List.setIfInBounds_toArray, List.set_cons_zero, List.set_cons_succ]
          refine any_take 11 31 (.int .i64 p) rfl rfl (by kernel_rfl) (by kernel_rfl) (by kernel_rfl) (fun _ _ _ h => h) (Or.inl ⟨by rfl, by intro w; go_simp⟩) ?_
          try simp only [Act.put, List.setIfInBounds_toArray, List.set_cons_zero, List.set_cons_succ]
          refine any_take 12 32 (.int .i64 ((p : Int) + 2)) rfl rfl (by kernel_rfl) (by kernel_rfl) (by kernel_rfl) (fun _ _ _ h => h) (Or.inl ⟨by rfl, by intro w; go_simp⟩) ?_
          try simp only [Act.put, List.setIfInBounds_toArray, List.set_cons_zero, List.set_cons_succ]
          refine any_take 13 33 (.int .i64 p) rfl rfl (by kernel_rfl) (by kernel_rfl) (by kernel_rfl) (fun _ _ _ h => h) (Or.inl ⟨by rfl, by intro w; go_simp⟩) ?_
          try simp only [Act.put, List.setIfInBounds_toArray, List.set_cons_zero, List.set_cons_succ]
          refine any_take 14 34 (.int .i64 n) rfl rfl (by kernel_rfl) (by kernel_rfl) (by kernel_rfl) (fun _ _ _ h => h) (Or.inl ⟨by rfl, by intro w; go_simp⟩) ?_
          try simp only [Act.put, List.setIfInBounds_toArray, List.set_cons_zero, List.set_cons_succ]
          refine any_take 15 35 (.int .i64 ((p : Int) + (n : Int))) rfl rfl (by kernel_rfl) (by kernel_rfl) (by kernel_rfl) (fun _ _ _ h => h) (Or.inl ⟨by rfl, by intro w; go_simp⟩) ?_
          try simp only [Act.put, List.setIfInBounds_toArray, List.set_cons_zero, List.set_cons_succ]
          refine any_take 16 36 (.int .i64 ((p : Int) + (n : Int) - 4)) rfl rfl (by kernel_rfl) (by kernel_rfl) (by kernel_rfl) (fun _ _ _ h => h) (Or.inl ⟨by rfl, by intro w; go_simp⟩) ?_
          try simp only [Act.put, List.setIfInBounds_toArray, List.set_cons_zero, List.set_cons_succ]
          refine wpAny_narrow (fun X => Below w3.heap.size w3 X) _ _ _ _ ?_
          refine anyH_take 3 23 (.slice (some ⟨b, off, none⟩) len cap) rfl rfl (by kernel_rfl) (by kernel_rfl) (by kernel_rfl) (fun _ _ _ h => h) (Or.inl ⟨by rfl, by intro w hSw; obtain ⟨o0, _, _⟩ := O3.below hSw; go_simp⟩) (Below.refl _ _) ?_
          try simp only [Act.put, List.setIfInBounds_toArray, List.set_cons_zero, List.set_cons_succ]
          refine anyH_take 8 28 (.slice (some ⟨b, off + p, none⟩) n (cap - p)) rfl rfl (by kernel_rfl) (by kernel_rfl) (by kernel_rfl) (fun _ _ _ h => h) (Or.inl ⟨by rfl, by intro w hSw; go_simp⟩) (Below.refl _ _) ?_
          try simp only [Act.put, List.setIfInBounds_toArray, List.set_cons_zero, List.set_cons_succ]
          refine anyH_take 10 30 (.agg #[.slice (some ⟨b, off, none⟩) len cap, .slice (some ⟨kg, 0, none⟩) (len / 64 + 1) (len / 64 + 1)]) rfl rfl (by kernel_rfl) (by kernel_rfl) (by kernel_rfl) (fun _ _ _ h => h) (Or.inl ⟨by rfl, by intro w hSw; obtain ⟨q0, q1, _, _, _⟩ := T3.below hSw; go_simp⟩) (Below.refl _ _) ?_
          try simp only [Act.put, List.setIfInBounds_toArray, List.set_cons_zero, List.set_cons_succ]
          refine wpAnyH_ready (rs := [9]) (by kernel_rfl) (by simp) ?_
          refine AllReadyH.cons rfl (fun K hK => ?_) AllReadyH.nil
          go_simp
          go_wp2_with (go_at_call 25; refine KI3.mono ?_; rintro e w4 ⟨rfl, n4, hw4⟩; have b4 : Below w3.heap.size w3 w4 := (by rw [hw4]; exact below_drewN (Below.refl _ _) _); clear hw4)
          refine hK.out _ _ (b4) (fun hS => ?_)
          clear hK
          refine wpAnyH_ready (rs := [17]) (by kernel_rfl) (by simp) ?_
          refine AllReadyH.cons rfl (fun K hK => ?_) AllReadyH.nil
          go_simp
          go_wp2_with (go_at_call 31; refine (KX _ b4).mono ?_; rintro e w5 ⟨rfl, b5⟩; have b45 : Below w3.heap.size w3 w5 := b4.trans (b5.mono b4.size))
          refine hK.out _ _ (b45) (fun hS => ?_)
          clear hK
          refine anyH_take 18 38 (.bool false) rfl rfl (by kernel_rfl) (by kernel_rfl) (by kernel_rfl) (fun _ _ _ h => h) (Or.inl ⟨by rfl, by intro w hSw; go_simp⟩) (b45) ?_
          try simp only [Act.put, List.setIfInBounds_toArray, List.set_cons_zero, List.set_cons_succ]
          refine anyH_take 19 39 (.bool false) rfl rfl (by kernel_rfl) (by kernel_rfl) (by kernel_rfl) (fun _ _ _ h => h) (Or.inl ⟨by rfl, by intro w hSw; go_simp⟩) (b45) ?_
          try simp only [Act.put, List.setIfInBounds_toArray, List.set_cons_zero, List.set_cons_succ]
          refine wpAnyH_done (by kernel_rfl) ?_ _
          have b5w : Below wr.heap.size wr w5 := b3.trans (b45.mono b3.size)
          have hJ5 : J k C w5 := hJ _ _ _ _ hJk (Same.of_below b5w)
          have hK5 : w5.rowIs kg 29 (len / 64 + 1) (keptF zs (len / 64)) := hK.of_block (b5w.block kg hK.lt)
          have hT5 := hT.below b5w
          have hCw5 : ∀ c, C c → W.heap.size ≤ c ∧ c < w5.heap.size := fun c hc => ⟨(hCw c hc).1, Nat.lt_of_lt_of_le (hCw c hc).2 b5w.size⟩
          obtain ⟨fn, tmps, assign, body, hy, hR⟩ := hY k C (bd, p) w5 hJ5 (by have := hT5.2.2.2.2; omega) hCw5 HXX.out
          dsimp only [encQ] at hy
          rw [← HBL.out] at hy
          obtain ⟨z0, zf0, zz0⟩ := id (Oq.below b5w)
          clear hY HXX KI3 KX
          gi_wp2
          clear hy
          refine (RoundIn.wideAny hR).mono ?_
          clear hR
          rintro e W3 (⟨rfl, C', hJ3, t3⟩ | ⟨rfl, C', hx3, t3⟩)
          · have hks := hK5.lt
            have hss := hT5.2.2.2.2
            have nK : ¬ C' kg := fun h => by rcases (t3.mine _ h).2.2 with x | x; exact hCk x; omega
            have nS : ¬ C' w1.heap.size := fun h => by rcases (t3.mine _ h).2.2 with x | x; exact hCs x; omega
            have hK6 : W3.rowIs kg 29 (len / 64 + 1) (keptF zs (len / 64)) := hK5.of_block (t3.keep kg hkg hks hCk)
            have hT6 := hT5.turn t3 (by omega) hCs
            gi_wp2
            gi_roundg (gk - 1)
            case measure => omega
            case rel => exact ⟨p + n, k + 1, C', by first | rfl | go_num, by omega, by omega, by omega, HX3, hJ3, hK6, hT6, nK, nS, fun c hc => ⟨(t3.mine c hc).1, (t3.mine c hc).2.1⟩⟩
          · gi_wp2
            exact ⟨rfl, _, results_none rfl _ _ _, ⟨_, rfl⟩, C', fun c hc => ⟨(t3.mine c hc).1, (t3.mine c hc).2.1⟩, .inr hx3⟩
        · have hcmp : ((S : Int) != (U : Int)) = true := by simp; omega
          rw [if_pos (by simpa using hE)] at hos
          have HX2 : Hid ((salF len 0 zs).drop k = salF (len - (p + 1)) (p + 1) (zs.drop (p + 1))) := by
            show _ = _
            rw [HX.out, hf, salF_err hne hos, List.drop_drop, salF_fuel f (len - (p + 1)) _ _ (by rw [List.length_drop]; omega) (by rw [List.length_drop]; omega)]
          clear hos HX P e1 e2 hne hf hY hS hUU hU hE
          gi_wp2_with (refine ⟨trivial, ?_⟩; gi_at_call 24; refine (callsIn_wide.2 KS).mono ?_; rintro e w2 ⟨rfl, n0, hw2⟩; have b2 : Below wr.heap.size wr w2 := (by rw [hw2]; exact below_drewN (Below.refl _ _) _); clear hw2; have O2 := Oq.below b2; obtain ⟨p0, pf0, pz0⟩ := id O2)
          obtain ⟨w3, hw3⟩ : ∃ w3, w2.drew = w3 := ⟨_, rfl⟩
          have b3 : Below wr.heap.size wr w3 := (by rw [← hw3]; exact b2.drew)
          have O3 := Oq.below b3
          have T3 := hT.below b3
          have KI3 := KI w3 (P1.below b3)
          have H3 : SumsAt w3 b off len cap kg zs := ⟨Rr.below b3, hK.of_block (b3.block kg hK.lt), Tr.below b3⟩
          have KXX := KX
          replace KX : ∀ Y, Below w3.heap.size w3 Y → _ := fun Y hY' => KXX Y (H3.below hY')
          clear P1 KI KXX
          refine wpIn_wide.2 ?_
          refine wp_region_any (by kernel_rfl) ?_
          change wpAny _ _ _ _ _ _ _ (World.drew _)
          rw [hw3]
          refine any_take 0 20 (.int .i64 0) rfl rfl (by kernel_rfl) (by kernel_rfl) (by kernel_rfl) (fun _ _ _ h => h) (Or.inl ⟨by rfl, by intro w; go_simp⟩) ?_
          try simp only [Act.put, List.setIfInBounds_toArray, List.set_cons_zero, List.set_cons_succ]
          refine any_take 1 21 (.bool false) rfl rfl (by kernel_rfl) (by kernel_rfl) (by kernel_rfl) (fun _ _ _ h => h) (Or.inl ⟨by rfl, by intro w; go_simp⟩) ?_
          try simp only [Act.put, List.setIfInBounds_toArray, List.set_cons_zero, List.set_cons_succ]
          refine any_take 2 22 (.bool false) rfl rfl (by kernel_rfl) (by kernel_rfl) (by kernel_rfl) (fun _ _ _ h => h) (Or.inl ⟨by rfl, by intro w; go_simp⟩) ?_
          try simp only [Act.put, List.setIfInBounds_toArray, List.set_cons_zero, List.set_cons_succ]
          refine any_take 4 24 (.int .i64 p) rfl rfl (by kernel_rfl) (by kernel_rfl) (by kernel_rfl) (fun _ _ _ h => h) (Or.inl ⟨by rfl, by intro w; go_simp⟩) ?_
          try simp only [Act.put, List.setIfInBounds_toArray, List.set_cons_zero, List.set_cons_succ]
          refine any_take 5 25 (.int .i64 p) rfl rfl (by kernel_rfl) (by kernel_rfl) (by kernel_rfl) (fun _ _ _ h => h) (Or.inl ⟨by rfl, by intro w; go_simp⟩) ?_
          try simp only [Act.put, List.setIfInBounds_toArray, List.set_cons_zero, List.set_cons_succ]
          refine any_take 6 26 (.int .i64 n) rfl rfl (by kernel_rfl) (by kernel_rfl) (by kernel_rfl) (fun _ _ _ h => h) (Or.inl ⟨by rfl, by intro w; go_simp⟩) ?_
          try simp only [Act.put, List.setIfInBounds_toArray, List.set_cons_zero, List.set_cons_succ]
          refine any_take 7 27 (.int .i64 ((p : Int) + (n : Int))) rfl rfl (by kernel_rfl) (by kernel_rfl) (by kernel_rfl) (fun _ _ _ h => h) (Or.inl ⟨by rfl, by intro w; go_simp⟩) ?_
          try simp only [Act.put, List.setIfInBounds_toArray, List.set_cons_zero, List.set_cons_succ]
          refine any_take 11 31 (.int .i64 p) rfl rfl (by kernel_rfl) (by kernel_rfl) (by kernel_rfl) (fun _ _ _ h => h) (Or.inl ⟨by rfl, by intro w; go_simp⟩) ?_
          try simp only [Act.put, List.setIfInBounds_toArray, List.set_cons_zero, List.set_cons_succ]
          refine any_take 12 32 (.int .i64 ((p : Int) + 2)) rfl rfl (by kernel_rfl) (by kernel_rfl) (by kernel_rfl) (fun _ _ _ h => h) (Or.inl ⟨by rfl, by intro w; go_simp⟩) ?_
          try simp only [Act.put, List.setIfInBounds_toArray, List.set_cons_zero, List.set_cons_succ]
          refine any_take 13 33 (.int .i64 p) rfl rfl (by kernel_rfl) (by kernel_rfl) (by kernel_rfl) (fun _ _ _ h => h) (Or.inl ⟨by rfl, by intro w; go_simp⟩) ?_
          try simp only [Act.put, List.setIfInBounds_toArray, List.set_cons_zero, List.set_cons_succ]
          refine any_take 14 34 (.int .i64 n) rfl rfl (by kernel_rfl) (by kernel_rfl) (by kernel_rfl) (fun _ _ _ h => h) (Or.inl ⟨by rfl, by intro w; go_simp⟩) ?_
          try simp only [Act.put, List.setIfInBounds_toArray, List.set_cons_zero, List.set_cons_succ]
          refine any_take 15 35 (.int .i64 ((p : Int) + (n : Int))) rfl rfl (by kernel_rfl) (by kernel_rfl) (by kernel_rfl) (fun _ _ _ h => h) (Or.inl ⟨by rfl, by intro w; go_simp⟩) ?_
          try simp only [Act.put, List.setIfInBounds_toArray, List.set_cons_zero, List.set_cons_succ]
          refine any_take 16 36 (.int .i64 ((p : Int) + (n : Int) - 4)) rfl rfl (by kernel_rfl) (by kernel_rfl) (by kernel_rfl) (fun _ _ _ h => h) (Or.inl ⟨by rfl, by intro w; go_simp⟩) ?_
          try simp only [Act.put, List.setIfInBounds_toArray, List.set_cons_zero, List.set_cons_succ]
          refine wpAny_narrow (fun X => Below w3.heap.size w3 X) _ _ _ _ ?_
          refine anyH_take 3 23 (.slice (some ⟨b, off, none⟩) len cap) rfl rfl (by kernel_rfl) (by kernel_rfl) (by kernel_rfl) (fun _ _ _ h => h) (Or.inl ⟨by rfl, by intro w hSw; obtain ⟨o0, _, _⟩ := O3.below hSw; go_simp⟩) (Below.refl _ _) ?_
          try simp only [Act.put, List.setIfInBounds_toArray, List.set_cons_zero, List.set_cons_succ]
          refine anyH_take 8 28 (.slice (some ⟨b, off + p, none⟩) n (cap - p)) rfl rfl (by kernel_rfl) (by kernel_rfl) (by kernel_rfl) (fun _ _ _ h => h) (Or.inl ⟨by rfl, by intro w hSw; go_simp⟩) (Below.refl _ _) ?_
          try simp only [Act.put, List.setIfInBounds_toArray, List.set_cons_zero, List.set_cons_succ]
          refine anyH_take 10 30 (.agg #[.slice (some ⟨b, off, none⟩) len cap, .slice (some ⟨kg, 0, none⟩) (len / 64 + 1) (len / 64 + 1)]) rfl rfl (by kernel_rfl) (by kernel_rfl) (by kernel_rfl) (fun _ _ _ h => h) (Or.inl ⟨by rfl, by intro w hSw; obtain ⟨q0, q1, _, _, _⟩ := T3.below hSw; go_simp⟩) (Below.refl _ _) ?_
          try simp only [Act.put, List.setIfInBounds_toArray, List.set_cons_zero, List.set_cons_succ]
          refine wpAnyH_ready (rs := [9]) (by kernel_rfl) (by simp) ?_
          refine AllReadyH.cons rfl (fun K hK => ?_) AllReadyH.nil
          go_simp
          go_wp2_with (go_at_call 25; refine KI3.mono ?_; rintro e w4 ⟨rfl, n4, hw4⟩; have b4 : Below w3.heap.size w3 w4 := (by rw [hw4]; exact below_drewN (Below.refl _ _) _); clear hw4)
          refine hK.out _ _ (b4) (fun hS => ?_)
          clear hK
          refine wpAnyH_ready (rs := [17]) (by kernel_rfl) (by simp) ?_
          refine AllReadyH.cons rfl (fun K hK => ?_) AllReadyH.nil
          go_simp
          go_wp2_with (go_at_call 31; refine (KX _ b4).mono ?_; rintro e w5 ⟨rfl, b5⟩; have b45 : Below w3.heap.size w3 w5 := b4.trans (b5.mono b4.size))
          refine hK.out _ _ (b45) (fun hS => ?_)
          clear hK
          refine anyH_take 18 38 (.bool true) rfl rfl (by kernel_rfl) (by kernel_rfl) (by kernel_rfl) (fun _ _ _ h => h) (Or.inl ⟨by rfl, by intro w hSw; go_simp⟩) (b45) ?_
          try simp only [Act.put, List.setIfInBounds_toArray, List.set_cons_zero, List.set_cons_succ]
          refine anyH_take 19 39 (.bool true) rfl rfl (by kernel_rfl) (by kernel_rfl) (by kernel_rfl) (fun _ _ _ h => h) (Or.inl ⟨by rfl, by intro w hSw; go_simp⟩) (b45) ?_
          try simp only [Act.put, List.setIfInBounds_toArray, List.set_cons_zero, List.set_cons_succ]
          refine wpAnyH_done (by kernel_rfl) ?_ _
          have b5w : Below wr.heap.size wr w5 := b3.trans (b45.mono b3.size)
          gi_wp2
          gi_roundg (gk - 1)
          case measure => omega
          case rel => exact ⟨p + 1, k, C, by first | rfl | go_num, by omega, by omega, hkl, HX2, hJ _ _ _ _ hJk (Same.of_below b5w), hK.of_block (b5w.block kg hK.lt), hT.below b5w, hCk, hCs, fun c hc => ⟨(hCw c hc).1, Nat.lt_of_lt_of_le (hCw c hc).2 b5w.size⟩⟩
    · have e : len = p := by omega
      subst e
      have HK : Hid ((salF len 0 zs).length = k) := by
        show _ = _
        have h := HX.out
        rw [Nat.sub_self] at h
        have := congrArg List.length h
        rw [List.length_drop] at this
        simp [salF] at this
        omega
      clear hY
      gi_wp2
      exact ⟨rfl, _, results_none rfl _ _ _, ⟨_, rfl⟩, C, hCw, .inl (by rw [HK.out]; exact hJk)⟩

end Go.Proofs.YteadkfcbgphgnaaDoor
