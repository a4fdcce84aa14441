/-
  Package plan: who is in a pair with a node; how many pairs a node is in.
-/
import Derived.Test.YtpdmpekkmblgmaaP1
namespace Go.Proofs.Ytpdmpekkmblgmaa
open Go.ChangeShapes Go.WideShapes Go.ChangeAt Go.RowKit Go.Maps Go.Shelf
set_option linter.unusedVariables false
set_option linter.unusedSimpArgs false
attribute [local go_sem] Oper.semAt_some

/-- What the iterators over neighbours lean on. -/
structure KeepN (w0 : World) (fl fv : Nat) (vl vv : Value) (A : World) : Prop where
  ptr : One A fl vl
  num : One A fv vv
  below : Below w0.heap.size w0 A
/-- Who is in a pair with v: of one pair, of all. -/
def nb (v : Int) (p : LK) : Option Int := if p.1 = v then some p.2 else if p.2 = v then some p.1 else none
def nbs (l : List LK) (v : Int) : List Int := l.filterMap (nb v)
def Apart (l : List LK) : Prop := ∀ p ∈ l, p.1 ≠ p.2
abbrev encI (x : Int) : Array Value := #[.int .i64 x]
theorem nbs_take_none {l : List LK} {v : Int} {i : Nat} {p : LK} (h : l[i]? = some p) (hn : nb v p = none) : nbs (l.take (i + 1)) v = nbs (l.take i) v := by
  unfold nbs
  rw [List.take_add_one, h]
  simp [hn]
theorem nbs_take_some {l : List LK} {v u : Int} {i : Nat} {p : LK} (h : l[i]? = some p) (hn : nb v p = some u) : nbs (l.take (i + 1)) v = nbs (l.take i) v ++ [u] := by
  unfold nbs
  rw [List.take_add_one, h]
  simp [hn]
theorem nbs_prefix (l : List LK) (v : Int) (i : Nat) : nbs (l.take i) v ++ nbs (l.drop i) v = nbs l v := by
  unfold nbs
  rw [← List.filterMap_append, List.take_append_drop]
theorem nbs_at {l : List LK} {v u : Int} {i : Nat} {p : LK} (h : l[i]? = some p) (hn : nb v p = some u) : (nbs l v)[(nbs (l.take i) v).length]? = some u := by
  have h1 := nbs_prefix l v (i + 1)
  rw [nbs_take_some h hn] at h1
  rw [← h1, List.append_assoc, List.getElem?_append_right (Nat.le_refl _)]
  simp
theorem nbs_len (l : List LK) (v : Int) (i : Nat) : (nbs (l.take i) v).length ≤ i := by
  unfold nbs
  exact Nat.le_trans (List.length_filterMap_le _ _) (by simp; omega)
theorem neighbours_any (a : Option Addr) (n cap : Nat) (v : Int) (w : World) : Calls Try.prog 37 #[.slice a n cap, .int .i64 v] w fun e w' => e = .returned (.func (.func 58) #[] #[.pointer (some ⟨w.heap.size, 0, none⟩), .pointer (some ⟨w.heap.size + 1, 0, none⟩)]) ∧ w' = (w.alloc (.cells #[.slice a n cap] 23)).alloc (.cells #[.int .i64 v] 3) := by
  have hmf : ∀ (fn : Fn) (first cap : Array Value) (w : World), (Instr.makeFunc fn first cap).run Try.prog w = .ok (.func fn first cap) w := fun _ _ _ _ => rfl
  go_enter Try.func37, Try.ntmps37
  go_wp2
  go_ret
  exact ⟨rfl, rfl⟩
set_option maxRecDepth 100000 in
set_option maxHeartbeats 1000000 in
theorem neighbours_gives (w0 : World) (fl fv : Nat) (a : Option Addr) (n cap : Nat) (l : List LK) (v : Int) (w : World) (hr : RdL w0 a n cap l) (h2 : Apart l) :
    Gives Try.prog 58 #[.pointer (some ⟨fl, 0, none⟩), .pointer (some ⟨fv, 0, none⟩)] encI (nbs l v) w (KeepN w0 fl fv (.slice a n cap) (.int .i64 v)) := by
  intro lp J Jx W hbW hJ hJx hKeep hY h0
  have K0 := hKeep _ _ _ h0
  have HN : Hid (n ≤ 140737488355328) := hr.small
  have HL : Hid (l.length = n) := hr.size
  obtain ⟨o0, of0, oz0⟩ := id K0.ptr
  refine (callsIn_wide (n := 2)).1 ?_
  refine callsIn_of_wp Try.func58 rfl trivial ?_
  simp only [Try.ntmps58, List.size_toArray, List.length_cons, List.length_nil, Nat.reduceAdd, Nat.reduceSub, Array.replicate_succ, Array.replicate_zero, List.push_toArray, List.append_toArray, List.nil_append, List.cons_append]
  gi_wp2
  gi_loopg [8] n (fun g v8 wr => ∃ (i : Nat) (C : Nat → Prop), v8 = .int .i64 (i : Int) ∧ i + g = n ∧ J (nbs (l.take i) v).length C wr ∧ (∀ c, C c → W.heap.size ≤ c ∧ c < wr.heap.size) ∧ W.heap.size ≤ wr.heap.size)
  case atStart =>
    exact ⟨0, fun _ => False, by first | rfl | go_num, by omega, h0, fun c h => h.elim, Nat.le_refl _⟩
  case round =>
    obtain ⟨i, C, rfl, hg, hJi, hCw, hWs⟩ := hrel
    have Kr := hKeep _ _ _ hJi
    by_cases hi : i < n
    · have hiI : (i : Int) < (n : Int) := by omega
      obtain ⟨b, off, rfl, hb, hd, hra⟩ := (hr.below Kr.below).at i hi
      have hne : (l.getD i LK.z).1 ≠ (l.getD i LK.z).2 := h2 _ (List.mem_of_getElem? hd)
      obtain ⟨⟨p, q⟩, hri⟩ : ∃ r : LK, l.getD i LK.z = r := ⟨_, rfl⟩
      rw [hri] at hra hd hne
      have hne : p ≠ q := hne
      obtain ⟨p0, pf0, pz0⟩ := id Kr.num
      have KA := (Kr.num.alloc (.cells #[.int .i64 p, .int .i64 q] 49)).1
      have JA := hJ _ _ _ _ hJi (Same.alloc W.heap.size C wr (.cells #[.int .i64 p, .int .i64 q] 49))
      have LD : ∀ {F : Fence} {m : Nat} {ops : Array Oper} {rest : List Oper} {o : Oper} {A : Act} {Q : Exit → Act → World → Prop} (hgd : o.guard = none) (x : Operand) (ho : o.op = .load 49 x) (hx : A.eval x = .pointer (some ⟨b, off + i * 2, none⟩))
        (h : wpListIn F m Try.prog ops Q rest (A.put o.dst (.agg #[.int .i64 p, .int .i64 q])) wr), wpListIn F m Try.prog ops Q (o :: rest) A wr := fun hgd x ho hx h => wpListIn_load49 hgd x ho b _ (p, q) hx hra h
      have hYi := fun x hx => hY (nbs (l.take i) v).length C x _ JA (by rw [World.size_alloc]; omega) (fun c hc => ⟨(hCw c hc).1, by have := (hCw c hc).2; rw [World.size_alloc]; omega⟩) hx
      clear hY hri
      by_cases h1 : p = v
      · subst h1
        have hq : ¬ q = p := fun e => hne e.symm
        have hq' : (q == p) = false := by simpa using hq
        have HA1 : Hid ((nbs (l.take (i + 1)) p).length = (nbs (l.take i) p).length + 1) := by
          show _ = _
          rw [nbs_take_some hd (u := q) (by simp [nb])]; simp
        obtain ⟨fn1, tmps, assign, body, hy, hR⟩ := hYi q (nbs_at hd (by simp [nb]))
        dsimp only [encI] at hy hR
        clear hYi hd
        gi_wp2_with (((with_reducible show wpListIn _ _ _ _ _ (Oper.mk _ (Op.load 49 (Operand.tmp 10)) _ _ _ _ :: _) _ _); refine LD rfl _ rfl rfl ?_))
        clear hy hra Kr K0
        refine (RoundIn.wideAny hR).mono ?_
        clear hR
        rintro e W3 (⟨rfl, C', hJ3, t3⟩ | ⟨rfl, C', hx3, t3⟩)
        · have hs3 := t3.size
          have hC3 : ∀ c, C' c → W.heap.size ≤ c ∧ c < W3.heap.size := fun c hc => ⟨(t3.mine c hc).1, (t3.mine c hc).2.1⟩
          have hs4 : W.heap.size ≤ W3.heap.size := by rw [World.size_alloc] at hs3; omega
          have hin : IntKind.i64.wrap ((i : Int) + 1) = (i : Int) + 1 := by rw [IntKind.wrap_i64]; have := HN.out; omega
          have Kr3 := hKeep _ _ _ hJ3
          have HB := (t3.keep _ hWs (by rw [World.size_alloc]; omega) (fun hc => by have := (hCw _ hc).2; omega)).trans (World.alloc_heap_new wr (.cells #[.int .i64 p, .int .i64 q] 49))
          have b0 : W3.cell? ⟨wr.heap.size, 0, none⟩ = some (.int .i64 p) := row_cell HB 0 _ rfl
          have b1 : W3.cell? ⟨wr.heap.size, 1, none⟩ = some (.int .i64 q) := row_cell HB 1 _ rfl
          obtain ⟨q0, qf0, qz0⟩ := id Kr3.num
          clear HB
          clear hs3 t3
          gi_wp2_with (first | ((with_reducible show wpListIn _ _ _ _ _ (Oper.mk (some 32) _ _ _ _ _ :: _) _ _); refine wpListIn_skip (by rfl) (by rfl) ?_) | ((with_reducible show wpListIn _ _ _ _ _ (Oper.mk (some 33) _ _ _ _ _ :: _) _ _); refine wpListIn_skip (by rfl) (by rfl) ?_) | ((with_reducible show wpListIn _ _ _ _ _ (Oper.mk (some 34) _ _ _ _ _ :: _) _ _); refine wpListIn_skip (by rfl) (by rfl) ?_))
          gi_roundg (gk - 1)
          case measure => omega
          case rel => exact ⟨i + 1, C', by first | rfl | go_num, by omega, by rw [HA1.out]; exact hJ3, hC3, hs4⟩
        · gi_wp2_with (first | ((with_reducible show wpListIn _ _ _ _ _ (Oper.mk (some 32) _ _ _ _ _ :: _) _ _); refine wpListIn_skip (by rfl) (by rfl) ?_) | ((with_reducible show wpListIn _ _ _ _ _ (Oper.mk (some 33) _ _ _ _ _ :: _) _ _); refine wpListIn_skip (by rfl) (by rfl) ?_) | ((with_reducible show wpListIn _ _ _ _ _ (Oper.mk (some 34) _ _ _ _ _ :: _) _ _); refine wpListIn_skip (by rfl) (by rfl) ?_))
          exact bodyPost_ret (v := .tuple #[]) (by simp [results, Try.results58, go_sem]) rfl ⟨⟨_, rfl⟩, C', fun b hb => ⟨(t3.mine b hb).1, (t3.mine b hb).2.1⟩, .inr hx3⟩
      · have h1' : (p == v) = false := by simpa using h1
        by_cases h2 : q = v
        · subst h2
          have HA1 : Hid ((nbs (l.take (i + 1)) q).length = (nbs (l.take i) q).length + 1) := by
            show _ = _
            rw [nbs_take_some hd (u := p) (by simp [nb, h1])]; simp
          obtain ⟨fn1, tmps, assign, body, hy, hR⟩ := hYi p (nbs_at hd (by simp [nb, h1]))
          dsimp only [encI] at hy hR
          clear hYi hd
          gi_wp2_with (first | ((with_reducible show wpListIn _ _ _ _ _ (Oper.mk _ (Op.load 49 (Operand.tmp 10)) _ _ _ _ :: _) _ _); refine LD rfl _ rfl rfl ?_) | ((with_reducible show wpListIn _ _ _ _ _ (Oper.mk (some 20) _ _ _ _ _ :: _) _ _); refine wpListIn_skip (by rfl) (by rfl) ?_))
          clear hy hra Kr K0
          refine (RoundIn.wideAny hR).mono ?_
          clear hR
          rintro e W3 (⟨rfl, C', hJ3, t3⟩ | ⟨rfl, C', hx3, t3⟩)
          · have hs3 := t3.size
            have hC3 : ∀ c, C' c → W.heap.size ≤ c ∧ c < W3.heap.size := fun c hc => ⟨(t3.mine c hc).1, (t3.mine c hc).2.1⟩
            have hs4 : W.heap.size ≤ W3.heap.size := by rw [World.size_alloc] at hs3; omega
            have hin : IntKind.i64.wrap ((i : Int) + 1) = (i : Int) + 1 := by rw [IntKind.wrap_i64]; have := HN.out; omega
            have Kr3 := hKeep _ _ _ hJ3
            have HB := (t3.keep _ hWs (by rw [World.size_alloc]; omega) (fun hc => by have := (hCw _ hc).2; omega)).trans (World.alloc_heap_new wr (.cells #[.int .i64 p, .int .i64 q] 49))
            have b0 : W3.cell? ⟨wr.heap.size, 0, none⟩ = some (.int .i64 p) := row_cell HB 0 _ rfl
            have b1 : W3.cell? ⟨wr.heap.size, 1, none⟩ = some (.int .i64 q) := row_cell HB 1 _ rfl
            obtain ⟨q0, qf0, qz0⟩ := id Kr3.num
            clear HB
            clear hs3 t3
            gi_wp2
            gi_roundg (gk - 1)
            case measure => omega
            case rel => exact ⟨i + 1, C', by first | rfl | go_num, by omega, by rw [HA1.out]; exact hJ3, hC3, hs4⟩
          · gi_wp2
            exact bodyPost_ret (v := .tuple #[]) (by simp [results, Try.results58, go_sem]) rfl ⟨⟨_, rfl⟩, C', fun b hb => ⟨(t3.mine b hb).1, (t3.mine b hb).2.1⟩, .inr hx3⟩
        · have h2' : (q == v) = false := by simpa using h2
          have HA1 : Hid ((nbs (l.take (i + 1)) v).length = (nbs (l.take i) v).length) := by
            show _ = _
            rw [nbs_take_none hd (by simp [nb, h1, h2])]
          have hin : IntKind.i64.wrap ((i : Int) + 1) = (i : Int) + 1 := by rw [IntKind.wrap_i64]; have := HN.out; omega
          clear hYi hd
          gi_wp2_with (first | ((with_reducible show wpListIn _ _ _ _ _ (Oper.mk _ (Op.load 49 (Operand.tmp 10)) _ _ _ _ :: _) _ _); refine LD rfl _ rfl rfl ?_) | ((with_reducible show wpListIn _ _ _ _ _ (Oper.mk (some 20) _ _ _ _ _ :: _) _ _); refine wpListIn_skip (by rfl) (by rfl) ?_) | ((with_reducible show wpListIn _ _ _ _ _ (Oper.mk (some 32) _ _ _ _ _ :: _) _ _); refine wpListIn_skip (by rfl) (by rfl) ?_))
          gi_roundg (gk - 1)
          case measure => omega
          case rel => exact ⟨i + 1, C, by first | rfl | go_num, by omega, by rw [HA1.out]; exact JA, fun c hc => ⟨(hCw c hc).1, by have := (hCw c hc).2; rw [World.size_alloc]; omega⟩, by rw [World.size_alloc]; omega⟩
    · have hin : i = n := by omega
      have HI : Hid (i = n) := hin
      have HT : Hid (l.take i = l) := by show _ = _; rw [hin, ← HL.out, List.take_length]
      clear hin
      gi_wp2
      exact bodyPost_end (v := .tuple #[]) (by simp [results, Try.results58, go_sem]) rfl ⟨⟨_, rfl⟩, C, hCw, .inl (by rw [HT.out] at hJi; exact hJi)⟩
end Go.Proofs.Ytpdmpekkmblgmaa
