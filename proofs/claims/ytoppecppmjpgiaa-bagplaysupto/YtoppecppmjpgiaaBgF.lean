/-
  Package bag: toward hands out just the places where it looks, whatever loop takes them.
-/
import Derived.Test.YtoppecppmjpgiaaBgE
import Derived.Test.YtoppecppmjpgiaaBlocks
import Derived.Test.YtoppecppmjpgiaaHeld
import Derived.Shelf.Abstract
import Derived.Shelf.RegionOpen
import Derived.OwnWalkIn
import Derived.TacticsInMore
import Derived.LoopNIn
import Derived.LoopIn
import Derived.Sort.LoopGhostIn
import Derived.Scope
import Derived.WalkMore
namespace Go.Proofs.Ytoppecppmjpgiaa
open Go.ChangeShapes Go.WideShapes Go.ChangeAt Go.RowKit Go.Maps Go.Shelf
set_option linter.unusedVariables false
set_option linter.unusedSimpArgs false
attribute [local go_sem] Oper.semAt_some

theorem wpListIn_load33x {F : Fence} {n : Nat} {ops : Array Oper} {rest : List Oper} {o : Oper} {a : Act} {W : World} {Q : Exit → Act → World → Prop} (hgd : o.guard = none) (x : Operand) (ho : o.op = .load 33 x) (g off : Nat) (num src dst : Int) (body : ByteArray) (hx : a.eval x = .pointer (some ⟨g, off, none⟩)) (hc : W.rangeAt g off (DG.cells ⟨num, src, dst, body⟩))
    (h : wpListIn F n Try.prog ops Q rest (a.put o.dst (.agg #[.int .i64 num, .int .i64 src, .int .i64 dst, .string body])) W) : wpListIn F n Try.prog ops Q (o :: rest) a W := by
  refine wpListIn_plain hgd fun K hK => ?_
  unfold Oper.wpIn
  refine ⟨?_, ?_⟩
  · simp [Oper.about, ho]
  · rw [Oper.semAt_plain F _ _ (by rw [ho]; intro c hc'; cases hc')]
    simp only [execOp, ho, hx, Instr.loadAt, Instr.sureAddr, Sem.run_bind, Sem.run_pure, Result.andThen_ok, run_loadVar_mid W g off 33 (DG.cells ⟨num, src, dst, body⟩) _ hc Try.underlying33 rfl (by kernel_rfl)]
    exact hK _ _ h
/-- What is handed out: the place, and the packet. -/
abbrev encT (q : Nat × DG) : Array Value := #[.int .i64 (q.1 : Int), .agg #[.int .i64 q.2.num, .int .i64 q.2.src, .int .i64 q.2.dst, .string q.2.body]]
/-- What the iterator leans on. -/
structure KeepT (b M : Nat) (a : Option Addr) (n cap k : Nat) (next : Int) (ds : List DG) (D : DataW Unit) (fb fn : Nat) (num : Int) (A : World) : Prop where
  bag : BagAt A b M a n cap k next ds D
  ptr : One A fb (.pointer (some ⟨b, 0, none⟩))
  what : One A fn (.int .i64 num)
theorem toward_any (p : Option Addr) (num : Int) (w : World) : Calls Try.prog 39 #[.pointer p, .int .i64 num] w fun e w' => e = .returned (.func (.func 55) #[] #[.pointer (some ⟨w.heap.size, 0, none⟩), .pointer (some ⟨w.heap.size + 1, 0, none⟩)]) ∧ w' = (w.alloc (.cells #[.pointer p] 28)).alloc (.cells #[.int .i64 num] 2) := by
  have hmf : ∀ (fn : Fn) (first cap : Array Value) (w : World), (Instr.makeFunc fn first cap).run Try.prog w = .ok (.func fn first cap) w := fun _ _ _ _ => rfl
  go_enter Try.func39, Try.ntmps39
  go_wp2
  go_ret
  exact ⟨rfl, rfl⟩
set_option maxRecDepth 100000 in
set_option maxHeartbeats 8000000 in
theorem toward_gives (b M : Nat) (a : Option Addr) (n cap k : Nat) (next : Int) (ds : List DG) (D : DataW Unit) (fb fn : Nat) (num : Int) (w : World) (hn : n ≤ 65536) :
    Gives Try.prog 55 #[.pointer (some ⟨fb, 0, none⟩), .pointer (some ⟨fn, 0, none⟩)] encT (probes ds num n 0 n) w (KeepT b M a n cap k next ds D fb fn num) := by
  intro l J Jx W hbW hJ hJx hKeep hY h0
  have K0 := hKeep _ _ _ h0
  obtain ⟨o0, of0, oz0⟩ := id K0.ptr
  have c1 := row_cell K0.bag.obj 1 (.slice a n cap) rfl
  refine (callsIn_wide (n := 2)).1 ?_
  refine callsIn_of_wp Try.func55 rfl trivial ?_
  simp only [Try.ntmps55, List.size_toArray, List.length_cons, List.length_nil, Nat.reduceAdd, Nat.reduceSub, Array.replicate_succ, Array.replicate_zero, List.push_toArray, List.append_toArray, List.nil_append, List.cons_append]
  gi_wp2
  refine wpIn_wide.2 ?_
  go_quiet (fail)
  gi_wp2
  gi_loopg [4, 5] n (fun g v4 v5 wr => ∃ (lo hi kk : Nat) (C : Nat → Prop), v4 = .int .i64 (lo : Int) ∧ v5 = .int .i64 (hi : Int) ∧ hi ≤ n ∧ hi - lo ≤ g ∧ Hid ((probes ds num n 0 n).drop kk = probes ds num g lo hi) ∧ kk ≤ (probes ds num n 0 n).length ∧ J kk C wr ∧ (∀ c, C c → W.heap.size ≤ c ∧ c < wr.heap.size) ∧ W.heap.size ≤ wr.heap.size)
  case atStart =>
    exact ⟨0, n, 0, fun _ => False, by first | rfl | go_num, rfl, Nat.le_refl _, by omega, ⟨rfl⟩, Nat.zero_le _, hJ _ _ _ _ h0 ⟨rfl, rfl, rfl, Nat.le_refl _, fun _ _ _ => rfl⟩, fun c h => h.elim, Nat.le_refl _⟩
  case round =>
    obtain ⟨lo, hi, kk, C, rfl, rfl, hhi, hgl, HX, hkl, hJk, hCw, hWs⟩ := hrel
    have Kr := hKeep _ _ _ hJk
    by_cases hc : lo < hi
    · have hcI : (lo : Int) < (hi : Int) := by omega
      obtain ⟨dd, hdd⟩ : ∃ dd : Nat, hi - lo = dd := ⟨_, rfl⟩
      obtain ⟨m, hm⟩ : ∃ m : Nat, lo + dd / 2 = m := ⟨_, rfl⟩
      have w1 : IntKind.i64.wrap ((hi : Int) - (lo : Int)) = (dd : Int) := by rw [IntKind.wrap_i64]; omega
      have w2 : IntKind.i64.wrap ((lo : Int) + (dd : Int) / 2) = (m : Int) := by rw [IntKind.wrap_i64]; omega
      have w3 : IntKind.i64.wrap ((m : Int) + 1) = (m : Int) + 1 := by rw [IntKind.wrap_i64]; omega
      have hmn : m < n := by omega
      have hmI : (m : Int) < (n : Int) := by omega
      obtain ⟨g1, off, rfl, hdm, hr⟩ := Kr.bag.lst.at m hmn
      obtain ⟨fu, hfu⟩ : ∃ fu, gk = fu + 1 := ⟨gk - 1, by omega⟩
      obtain ⟨xs, hxs⟩ : ∃ xs, probes ds num n 0 n = xs := ⟨_, rfl⟩
      rw [hxs] at HX hkl hY
      have hX := HX.out
      rw [hfu] at hX
      unfold probes at hX
      rw [if_pos hc, hdd, hm] at hX
      obtain ⟨d, hd⟩ : ∃ d, ds.getD m DG.z = d := ⟨_, rfl⟩
      rw [hd] at hX hr
      obtain ⟨dn, ds1, dd1, dby⟩ := d
      obtain ⟨p0, pf0, pz0⟩ := id Kr.ptr
      have q1 := row_cell Kr.bag.obj 1 (.slice (some ⟨g1, off, none⟩) n cap) rfl
      have hx : xs[kk]? = some (m, ⟨dn, ds1, dd1, dby⟩) := by rw [← List.head?_drop, hX]; rfl
      have JA := hJ _ _ _ _ hJk (Same.alloc W.heap.size C wr (.cells #[.int .i64 dn, .int .i64 ds1, .int .i64 dd1, .string dby] 33))
      have X0 : (wr.alloc (.cells #[.int .i64 dn, .int .i64 ds1, .int .i64 dd1, .string dby] 33)).heap[wr.heap.size]? = some (.cells #[.int .i64 dn, .int .i64 ds1, .int .i64 dd1, .string dby] 33 (0, 0)) := World.alloc_heap_new _ _
      obtain ⟨fn1, tmps, assign, body, hy, hR⟩ := hY kk C (m, ⟨dn, ds1, dd1, dby⟩) _ JA (by simp; omega) (fun c hc => ⟨(hCw c hc).1, by have := (hCw c hc).2; simp; omega⟩) hx
      dsimp only [encT] at hy
      gi_wp2_with ((with_reducible show wpListIn _ _ _ _ _ (Oper.mk _ (Op.load 33 _) _ _ _ _ :: _) _ _); refine wpListIn_load33x rfl _ rfl g1 (off + m * 4) dn ds1 dd1 dby rfl hr ?_)
      have hsA : (wr.alloc (.cells #[.int .i64 dn, .int .i64 ds1, .int .i64 dd1, .string dby] 33)).heap.size = wr.heap.size + 1 := by simp
      have hXt : xs.drop (kk + 1) = (if dn < num then probes ds num fu (m + 1) hi else probes ds num fu lo m) := by rw [← List.tail_drop, hX]; rfl
      have hkl' : kk + 1 ≤ xs.length := (List.getElem?_eq_some_iff.1 hx).1
      have HXt : Hid (xs.drop (kk + 1) = (if dn < num then probes ds num fu (m + 1) hi else probes ds num fu lo m)) := ⟨hXt⟩
      have HXS : Hid (probes ds num n 0 n = xs) := ⟨hxs⟩
      have HF : Hid (gk = fu + 1) := ⟨hfu⟩
      have HM : Hid (lo + dd / 2 = m ∧ hi - lo = dd) := ⟨hm, hdd⟩
      clear hy hY hX hXt hxs hx HX hd hdm hr hfu hm hdd p0 pf0 pz0 q1 Kr c1 K0
      refine (RoundIn.wideAny hR).mono ?_
      clear hR
      rintro e W3 (⟨rfl, C', hJ3, t3⟩ | ⟨rfl, C', hx3, t3⟩)
      · have X3 := (t3.keep wr.heap.size hWs (by rw [hsA]; omega) (fun h => by have := (hCw _ h).2; omega)).trans X0
        have r0 := row_cell X3 0 (.int .i64 dn) rfl
        have K3 := hKeep _ _ _ hJ3
        obtain ⟨n0, nf0, nz0⟩ := id K3.what
        have hs3 := t3.size
        rw [hsA] at hs3
        have hC3 : ∀ c, C' c → W.heap.size ≤ c ∧ c < W3.heap.size := fun c hc => ⟨(t3.mine c hc).1, (t3.mine c hc).2.1⟩
        clear K3 hKeep
        by_cases hlt : dn < num
        · gi_wp2
          gi_roundg (gk - 1)
          case measure => have := HF.out; omega
          case rel =>
            obtain ⟨hm, hdd⟩ := HM.out
            have hf := HF.out
            refine ⟨m + 1, hi, kk + 1, C', by first | rfl | go_num, rfl, hhi, by omega, ⟨?_⟩, by rw [HXS.out]; exact hkl', hJ3, hC3, by omega⟩
            rw [HXS.out, HXt.out, if_pos hlt, show gk - 1 = fu by omega]
        · gi_wp2
          gi_roundg (gk - 1)
          case measure => have := HF.out; omega
          case rel =>
            obtain ⟨hm, hdd⟩ := HM.out
            have hf := HF.out
            refine ⟨lo, m, kk + 1, C', rfl, rfl, by omega, by omega, ⟨?_⟩, by rw [HXS.out]; exact hkl', hJ3, hC3, by omega⟩
            rw [HXS.out, HXt.out, if_neg (by omega), show gk - 1 = fu by omega]
      · gi_wp2
        exact bodyPost_ret (v := .tuple #[]) (by simp [results, Try.results55, go_sem]) rfl ⟨⟨_, rfl⟩, C', fun b hb => ⟨(t3.mine b hb).1, (t3.mine b hb).2.1⟩, .inr hx3⟩
    · have hcI : ¬ (lo : Int) < (hi : Int) := by omega
      have HK : Hid ((probes ds num n 0 n).length = kk) := ⟨by
        have h := congrArg List.length HX.out
        rw [probes_end _ _ _ _ _ hc, List.length_drop] at h
        simp at h
        omega⟩
      gi_wp2
      go_end0
      exact ⟨⟨_, rfl⟩, C, hCw, .inl (by rw [HK.out]; exact hJk)⟩
end Go.Proofs.Ytoppecppmjpgiaa
