/-
  Package reg: the iterator that hands out, register by register, what a list is merged to so far.
-/
import Derived.Test.YtijiihmkhlidlaaR10
import Derived.Shelf.Abstract
import Derived.Shelf.RegionOpen
import Derived.OwnWalkIn
import Derived.TacticsInMore
import Derived.LoopNIn
import Derived.LoopIn
import Derived.Sort.LoopGhostIn
import Derived.Scope
import Derived.WalkMore
import Derived.RangeFuncCalls
namespace Go.Proofs.Ytijiihmkhlidlaa
open Go.ChangeShapes Go.WideShapes Go.ChangeAt Go.RowKit Go.Maps Go.Shelf
set_option linter.unusedVariables false
set_option linter.unusedSimpArgs false
attribute [local go_sem] Oper.semAt_some


set_option maxRecDepth 100000 in
set_option maxHeartbeats 8000000 in
theorem merged_gives (w0 : World) (fb : Nat) (a : Option Addr) (n cap : Nat) (l : List RS) (w : World) (hr : Rgs w0 a n l) :
    Gives Try.prog 30 #[.pointer (some ⟨fb, 0, none⟩)] encM (mos l) w (KeepM w0 fb a n cap) := by
  intro lp J Jx W hbW hJ hJx hKeep hY h0
  have K0 := hKeep _ _ _ h0
  obtain ⟨o0, of0, oz0⟩ := id K0.ptr
  have HN : Hid (n ≤ 9223372036854775807) := hr.max
  have HL : Hid (l.length = n) := hr.size
  refine (callsIn_wide (n := 2)).1 ?_
  refine callsIn_of_wp Try.func30 rfl trivial ?_
  simp only [Try.ntmps30, List.size_toArray, List.length_cons, List.length_nil, Nat.reduceAdd, Nat.reduceSub, Array.replicate_succ, Array.replicate_zero, List.push_toArray, List.append_toArray, List.nil_append, List.cons_append]
  gi_wp2
  gi_loopg [8] n (fun g v8 wr => ∃ (i : Nat) (C : Nat → Prop) (q : RS), v8 = .int .i64 (i : Int) ∧ i + g = n ∧ J i C wr ∧ (∀ c, C c → W.heap.size + 1 ≤ c ∧ c < wr.heap.size) ∧ W.heap.size + 1 ≤ wr.heap.size ∧ Tri wr W.heap.size (.int .i64 q.v) (.int .i64 q.p) (.int .i64 q.f) ∧ Hid (i = 0 ∨ q = mo l (i - 1)))
  case atStart =>
    exact ⟨0, fun _ => False, RS.z, by first | rfl | go_num, by omega, hJ _ _ _ _ h0 (Same.alloc _ _ _ _), fun c h => h.elim, by simp, Tri.new _ _ _ _ _, .inl rfl⟩
  case round =>
    obtain ⟨i, C, q, rfl, hg, hJi, hCw, hWs, hT, HQ⟩ := hrel
    have Kr := hKeep _ _ _ hJi
    by_cases hi : i < n
    · have hiI : (i : Int) < (n : Int) := by omega
      obtain ⟨b, off, rfl, hb, hra⟩ := (hr.below Kr.below).at i hi
      obtain ⟨r, hri⟩ : ∃ r, l.getD i RS.z = r := ⟨_, rfl⟩
      rw [hri] at hra
      obtain ⟨t0, t1, t2, s0, s1, s2, tz⟩ := id hT
      obtain ⟨rv, rp, rf⟩ := r
      obtain ⟨qv, qp, qf⟩ := q
      have hA0 : (wr.alloc (.cells #[.int .i64 rv, .int .i64 rp, .int .i64 rf] 23)).heap.size = wr.heap.size + 1 := by simp
      by_cases hz : i = 0
      · have hzI : ¬ (0 : Int) < (i : Int) := by omega
        have hx : (mos l)[i]? = some ⟨rv, rp, rf⟩ := by rw [mos_at (by rw [HL.out]; exact hi), ← hri, hz]; rfl
        have HM : Hid ((⟨rv, rp, rf⟩ : RS) = mo l (i + 1 - 1)) := by show _ = _; rw [← hri, hz]; rfl
        clear hz
        have JA := hJ _ _ _ _ hJi (((Same.refl W.heap.size C wr).put3 (k := W.heap.size) (Nat.le_refl _) (fun h => by have := (hCw _ h).1; omega) (.int .i64 rv) (.int .i64 rp) (.int .i64 rf)).trans (Same.alloc W.heap.size C _ (.cells #[.int .i64 rv, .int .i64 rp, .int .i64 rf] 23)))
        have TX := (hT.store (.int .i64 rv) (.int .i64 rp) (.int .i64 rf)).alloc (.cells #[.int .i64 rv, .int .i64 rp, .int .i64 rf] 23)
        have HX : Hid (wr.heap.size + 1 = ((put3 wr W.heap.size (.int .i64 rv) (.int .i64 rp) (.int .i64 rf)).alloc (.cells #[.int .i64 rv, .int .i64 rp, .int .i64 rf] 23)).heap.size ∧ W.heap.size + 1 ≤ wr.heap.size) := by show _ ∧ _; rw [World.size_alloc, put3_size]; exact ⟨rfl, hWs⟩
        obtain ⟨fn1, tmps, assign, body, hy, hR⟩ := hY i C ⟨rv, rp, rf⟩ _ JA (by rw [World.size_alloc, put3_size]; omega) (fun c hc => ⟨by have := (hCw c hc).1; omega, by have := (hCw c hc).2; rw [World.size_alloc, put3_size]; omega⟩) hx
        dsimp only [encM, put3] at hy hR TX HX
        gi_wp2_with ((with_reducible show wpListIn _ _ _ _ _ (Oper.mk _ (Op.load 23 (Operand.tmp 11)) _ _ _ _ :: _) _ _); refine wpListIn_load23x rfl _ rfl b (off + i * 3) ⟨rv, rp, rf⟩ rfl hra ?_)
        clear hy hY hx hri hra t0 t1 t2 s0 s1 s2 tz hT Kr K0 o0 of0
        refine (RoundIn.wideAny hR).mono ?_
        clear hR
        rintro e W3 (⟨rfl, C', hJ3, t3⟩ | ⟨rfl, C', hx3, t3⟩)
        · have T3 := TX.turn t3 (Nat.le_refl _) (fun h => by have := (hCw _ h).1; omega)
          have hs3 := t3.size
          have hC3 : ∀ c, C' c → W.heap.size + 1 ≤ c ∧ c < W3.heap.size := fun c hc => ⟨(by
            rcases (t3.mine c hc).2.2 with x | x
            · exact (hCw c x).1
            · have := HX.out; omega), (t3.mine c hc).2.1⟩
          have hs4 : W.heap.size + 1 ≤ W3.heap.size := by have := HX.out; omega
          have hin : IntKind.i64.wrap ((i : Int) + 1) = (i : Int) + 1 := by rw [IntKind.wrap_i64]; have := HN.out; omega
          clear hs3
          gi_wp2
          gi_roundg (gk - 1)
          case measure => omega
          case rel => exact ⟨i + 1, C', ⟨rv, rp, rf⟩, by first | rfl | go_num, by omega, hJ3, hC3, hs4, T3, .inr HM.out⟩
        · gi_wp2
          exact bodyPost_ret (v := .tuple #[]) (by simp [results, Try.results30, go_sem]) rfl ⟨⟨_, rfl⟩, C', fun b hb => ⟨(t3.mine b hb).1, (t3.mine b hb).2.1⟩, .inr hx3⟩
      · have hzI : (0 : Int) < (i : Int) := by omega
        have HQ' := HQ.out.resolve_left hz
        obtain ⟨⟨mv, mp, mf⟩, hm⟩ : ∃ m, mrg ⟨qv, qp, qf⟩ ⟨rv, rp, rf⟩ = m := ⟨_, rfl⟩
        have hmo : mo l i = ⟨mv, mp, mf⟩ := by
          obtain ⟨j, rfl⟩ : ∃ j, i = j + 1 := ⟨i - 1, by omega⟩
          show mrg (mo l j) (l.getD (j + 1) RS.z) = _
          rw [hri, ← hm, HQ']; rfl
        have hx : (mos l)[i]? = some ⟨mv, mp, mf⟩ := by rw [mos_at (by rw [HL.out]; exact hi), hmo]
        have HM : Hid ((⟨mv, mp, mf⟩ : RS) = mo l (i + 1 - 1)) := hmo.symm
        have K12 := fun w => merge_rs ⟨qv, qp, qf⟩ ⟨rv, rp, rf⟩ w
        simp only [hm] at K12
        clear hz HQ' hmo hm
        gi_wp2_with (first
          | ((with_reducible show wpListIn _ _ _ _ _ (Oper.mk _ (Op.load 23 (Operand.tmp 11)) _ _ _ _ :: _) _ _); refine wpListIn_load23x rfl _ rfl b (off + i * 3) ⟨rv, rp, rf⟩ rfl hra ?_)
          | (refine ⟨trivial, ?_⟩; gi_at_call 12; refine (callsIn_wide.2 (K12 _)).mono ?_; clear K12; rintro e w5 ⟨rfl, b5⟩; have T5 := (Tri.new wr (.int .i64 rv) (.int .i64 rp) (.int .i64 rf) 23).below b5; have T6 := (hT.alloc (.cells #[.int .i64 rv, .int .i64 rp, .int .i64 rf] 23)).below b5; have z5 := b5.size; have JA := hJ _ _ _ _ (hJ _ _ _ _ hJi ((Same.alloc W.heap.size C wr (.cells #[.int .i64 rv, .int .i64 rp, .int .i64 rf] 23)).trans (Same.of_below b5))) (((Same.refl W.heap.size C w5).put3 (k := wr.heap.size) (by omega) (fun h => by have := (hCw _ h).2; omega) (.int .i64 mv) (.int .i64 mp) (.int .i64 mf)).put3 (k := W.heap.size) (Nat.le_refl _) (fun h => by have := (hCw _ h).1; omega) (.int .i64 mv) (.int .i64 mp) (.int .i64 mf)); have TX := (T6.far (k := wr.heap.size) (by omega) (.int .i64 mv) (.int .i64 mp) (.int .i64 mf)).store (.int .i64 mv) (.int .i64 mp) (.int .i64 mf); rw [hA0] at z5; have HX : Hid (wr.heap.size + 1 ≤ (put3 (put3 w5 wr.heap.size (.int .i64 mv) (.int .i64 mp) (.int .i64 mf)) W.heap.size (.int .i64 mv) (.int .i64 mp) (.int .i64 mf)).heap.size ∧ W.heap.size + 1 ≤ wr.heap.size) := (by show _ ∧ _; rw [put3_size, put3_size]; exact ⟨z5, hWs⟩); obtain ⟨fn1, tmps, assign, body, hy, hR⟩ := hY i C ⟨mv, mp, mf⟩ _ JA (by rw [put3_size, put3_size]; omega) (fun c hc => ⟨by have := (hCw c hc).1; omega, by have := (hCw c hc).2; rw [put3_size, put3_size]; omega⟩) hx; dsimp only [encM, put3] at hy hR TX HX; obtain ⟨g0, g1, g2, k0, k1, k2, gz⟩ := T5; obtain ⟨t0', t1', t2', s0', s1', s2', tz'⟩ := T6; clear JA b5 z5))
        clear hy hY hx hri hra t0 t1 t2 s0 s1 s2 tz hT Kr K0 o0 of0
        refine (RoundIn.wideAny hR).mono ?_
        clear hR
        rintro e W3 (⟨rfl, C', hJ3, t3⟩ | ⟨rfl, C', hx3, t3⟩)
        · have T3 := TX.turn t3 (Nat.le_refl _) (fun h => by have := (hCw _ h).1; omega)
          have hs3 := t3.size
          have hC3 : ∀ c, C' c → W.heap.size + 1 ≤ c ∧ c < W3.heap.size := fun c hc => ⟨(by
            rcases (t3.mine c hc).2.2 with x | x
            · exact (hCw c x).1
            · have := HX.out; omega), (t3.mine c hc).2.1⟩
          have hs4 : W.heap.size + 1 ≤ W3.heap.size := by have := HX.out; omega
          have hin : IntKind.i64.wrap ((i : Int) + 1) = (i : Int) + 1 := by rw [IntKind.wrap_i64]; have := HN.out; omega
          clear hs3
          gi_wp2
          gi_roundg (gk - 1)
          case measure => omega
          case rel => exact ⟨i + 1, C', ⟨mv, mp, mf⟩, by first | rfl | go_num, by omega, hJ3, hC3, hs4, T3, .inr HM.out⟩
        · gi_wp2
          exact bodyPost_ret (v := .tuple #[]) (by simp [results, Try.results30, go_sem]) rfl ⟨⟨_, rfl⟩, C', fun b hb => ⟨(t3.mine b hb).1, (t3.mine b hb).2.1⟩, .inr hx3⟩
    · have hiI : ¬ (i : Int) < (n : Int) := by omega
      have HK : Hid ((mos l).length = i) := by show _ = _; rw [mos_len, HL.out]; omega
      gi_wp2
      go_end0
      exact ⟨⟨_, rfl⟩, C, fun c hc => ⟨by have := (hCw c hc).1; omega, (hCw c hc).2⟩, .inl (by rw [HK.out]; exact hJi)⟩
end Go.Proofs.Ytijiihmkhlidlaa
