/-
  Package shake: what may stand among what was seen; Fit.
-/
import Derived.Test.YteoiogjaecpddaaS2
namespace Go.Proofs.Yteoiogjaecpddaa
open Go.ChangeShapes Go.WideShapes Go.ChangeAt Go.RowKit Go.Maps Go.Shelf
set_option linter.unusedVariables false
set_option linter.unusedSimpArgs false
attribute [local go_sem] Oper.semAt_some

def entB (x : SN) : Bool := nodeB x.peer && inB 0 x.boot 1099511627776 && inB 0 x.life 1099511627776 && inB 0 x.mine 1099511627776 && (decide (0 < x.boot) || (decide (x.life = 0) && decide (0 < x.mine)))
/-- Who stands ahead of place i. -/
def lastS (l : List SN) (i : Nat) : Int := if i = 0 then -1 else (l.getD (i - 1) SN.z).peer
theorem lastS_succ (l : List SN) (i : Nat) : lastS l (i + 1) = (l.getD i SN.z).peer := rfl
def okS (id : Int) (l : List SN) (i : Nat) : Bool := ltI (lastS l i) (l.getD i SN.z).peer && !(eqI (l.getD i SN.z).peer id) && entB (l.getD i SN.z)
def fitS (id : Int) (l : List SN) : Bool := nodeB id && (List.range l.length).all (okS id l)
theorem fitS_no {id : Int} {l : List SN} {i : Nat} (hi : i < l.length) (h : okS id l i = false) : fitS id l = false := by
  unfold fitS
  rw [show (List.range l.length).all (okS id l) = false from List.all_eq_false.2 ⟨i, List.mem_range.2 hi, by rw [h]; decide⟩, Bool.and_false]
theorem fitS_yes {id : Int} {l : List SN} (h : ∀ j, j < l.length → okS id l j = true) : fitS id l = nodeB id := by
  unfold fitS
  rw [show (List.range l.length).all (okS id l) = true from List.all_eq_true.2 fun j hj => h j (List.mem_range.1 hj), Bool.and_true]
set_option maxRecDepth 100000 in
set_option maxHeartbeats 4000000 in
theorem isEntry_any (x : SN) (w : World) : Calls Try.prog 38 #[.agg #[.int .i64 x.peer, .int .i64 x.boot, .int .i64 x.life], .int .i64 x.mine] w fun e w' => e = .returned (.bool (entB x)) ∧ Below w.heap.size w w' := by
  obtain ⟨peer, boot, life, mine⟩ := x
  dsimp only
  cases h1 : nodeB peer with
  | false =>
    rw [show entB ⟨peer, boot, life, mine⟩ = false from by unfold entB; simp_all]
    go_enter Try.func38, Try.ntmps38
    go_wp2_with (first | (go_at_call 39; refine (isNode_any _ _).mono ?_; rintro e w1 ⟨rfl, hw⟩; rw [hw]; clear hw w1) | (go_at_call 57; refine (within_any _ _ _).mono ?_; rintro e w1 ⟨rfl, hw⟩; rw [hw]; clear hw w1))
    go_ret
    exact ⟨by first | rfl | simp_all, (Below.refl _ _).alloc (Nat.le_refl _) _⟩
  | true =>
    cases h2 : inB 0 boot 1099511627776 with
    | false =>
      rw [show entB ⟨peer, boot, life, mine⟩ = false from by unfold entB; simp_all]
      go_enter Try.func38, Try.ntmps38
      go_wp2_with (first | (go_at_call 39; refine (isNode_any _ _).mono ?_; rintro e w1 ⟨rfl, hw⟩; rw [hw]; clear hw w1) | (go_at_call 57; refine (within_any _ _ _).mono ?_; rintro e w1 ⟨rfl, hw⟩; rw [hw]; clear hw w1))
      go_ret
      exact ⟨by first | rfl | simp_all, (Below.refl _ _).alloc (Nat.le_refl _) _⟩
    | true =>
      cases h3 : inB 0 life 1099511627776 with
      | false =>
        rw [show entB ⟨peer, boot, life, mine⟩ = false from by unfold entB; simp_all]
        go_enter Try.func38, Try.ntmps38
        go_wp2_with (first | (go_at_call 39; refine (isNode_any _ _).mono ?_; rintro e w1 ⟨rfl, hw⟩; rw [hw]; clear hw w1) | (go_at_call 57; refine (within_any _ _ _).mono ?_; rintro e w1 ⟨rfl, hw⟩; rw [hw]; clear hw w1))
        go_ret
        exact ⟨by first | rfl | simp_all, (Below.refl _ _).alloc (Nat.le_refl _) _⟩
      | true =>
        cases h4 : inB 0 mine 1099511627776 with
        | false =>
          rw [show entB ⟨peer, boot, life, mine⟩ = false from by unfold entB; simp_all]
          go_enter Try.func38, Try.ntmps38
          go_wp2_with (first | (go_at_call 39; refine (isNode_any _ _).mono ?_; rintro e w1 ⟨rfl, hw⟩; rw [hw]; clear hw w1) | (go_at_call 57; refine (within_any _ _ _).mono ?_; rintro e w1 ⟨rfl, hw⟩; rw [hw]; clear hw w1))
          go_ret
          exact ⟨by first | rfl | simp_all, (Below.refl _ _).alloc (Nat.le_refl _) _⟩
        | true =>
          by_cases h5 : 0 < boot
          · rw [show entB ⟨peer, boot, life, mine⟩ = true from by unfold entB; simp_all]
            go_enter Try.func38, Try.ntmps38
            go_wp2_with (first | (go_at_call 39; refine (isNode_any _ _).mono ?_; rintro e w1 ⟨rfl, hw⟩; rw [hw]; clear hw w1) | (go_at_call 57; refine (within_any _ _ _).mono ?_; rintro e w1 ⟨rfl, hw⟩; rw [hw]; clear hw w1))
            go_ret
            exact ⟨by first | rfl | simp_all, (Below.refl _ _).alloc (Nat.le_refl _) _⟩
          · by_cases h6 : life = 0
            · have h6b : (life == 0) = true := by simpa using h6
              by_cases h7 : 0 < mine
              · have E : entB ⟨peer, boot, life, mine⟩ = true := by unfold entB; simp_all
                rw [E]
                clear E h6
                go_enter Try.func38, Try.ntmps38
                go_wp2_with (first | (go_at_call 39; refine (isNode_any _ _).mono ?_; rintro e w1 ⟨rfl, hw⟩; rw [hw]; clear hw w1) | (go_at_call 57; refine (within_any _ _ _).mono ?_; rintro e w1 ⟨rfl, hw⟩; rw [hw]; clear hw w1))
                go_ret
                exact ⟨by first | rfl | simp_all, (Below.refl _ _).alloc (Nat.le_refl _) _⟩
              · have E : entB ⟨peer, boot, life, mine⟩ = false := by unfold entB; simp_all
                rw [E]
                clear E h6
                go_enter Try.func38, Try.ntmps38
                go_wp2_with (first | (go_at_call 39; refine (isNode_any _ _).mono ?_; rintro e w1 ⟨rfl, hw⟩; rw [hw]; clear hw w1) | (go_at_call 57; refine (within_any _ _ _).mono ?_; rintro e w1 ⟨rfl, hw⟩; rw [hw]; clear hw w1))
                go_ret
                exact ⟨by first | rfl | simp_all, (Below.refl _ _).alloc (Nat.le_refl _) _⟩
            · have h6b : (life == 0) = false := by simpa using h6
              have E : entB ⟨peer, boot, life, mine⟩ = false := by unfold entB; simp_all
              rw [E]
              clear E h6
              go_enter Try.func38, Try.ntmps38
              go_wp2_with (first | (go_at_call 39; refine (isNode_any _ _).mono ?_; rintro e w1 ⟨rfl, hw⟩; rw [hw]; clear hw w1) | (go_at_call 57; refine (within_any _ _ _).mono ?_; rintro e w1 ⟨rfl, hw⟩; rw [hw]; clear hw w1))
              go_ret
              exact ⟨by first | rfl | simp_all, (Below.refl _ _).alloc (Nat.le_refl _) _⟩
/-- Fit, on its way. -/
structure FtS (w : World) (v : Value) (id : Int) (last : Int) (W : World) : Prop where
  keep : KeepI w (w.heap.size + 1 + 1 + 1) v W
  id_ : One W w.heap.size (.int .i64 id)
  res : One W (w.heap.size + 1) (.bool false)
  last : One W (w.heap.size + 1 + 1) (.int .i64 last)
theorem FtS.same {w A B : World} {N : Nat} {v : Value} {id x : Int} {C : Nat → Prop} (h : FtS w v id x A) (s : Same N C A B) (hN : w.heap.size + 4 ≤ N) : FtS w v id x B :=
  ⟨⟨h.keep.ptr.same s (by omega), Below.same h.keep.below s (by omega) (Nat.le_refl _)⟩, h.id_.same s (by omega), h.res.same s (by omega), h.last.same s (by omega)⟩
theorem FtS.later {w A B : World} {v : Value} {id x : Int} (h : FtS w v id x A) (b : Below A.heap.size A B) : FtS w v id x B :=
  ⟨⟨h.keep.ptr.below b, h.keep.below.trans (b.mono h.keep.below.size)⟩, h.id_.below b, h.res.below b, h.last.below b⟩
theorem FtS.put {w A : World} {v : Value} {id x : Int} (h : FtS w v id x A) (j : Int) : FtS w v id j (A.setCell ⟨w.heap.size + 1 + 1, 0, none⟩ (.int .i64 j)) :=
  ⟨⟨h.keep.ptr.far (by omega) _, h.keep.below.setCell (p := ⟨w.heap.size + 1 + 1, 0, none⟩) (by show w.heap.size ≤ w.heap.size + 1 + 1; omega) _⟩, h.id_.far (by omega) _, h.res.far (by omega) _, h.last.set _⟩
theorem FtS.no {w A : World} {v : Value} {id x : Int} (h : FtS w v id x A) : FtS w v id x (A.setCell ⟨w.heap.size + 1, 0, none⟩ (.bool false)) :=
  ⟨⟨h.keep.ptr.far (by omega) _, h.keep.below.setCell (p := ⟨w.heap.size + 1, 0, none⟩) (by show w.heap.size ≤ w.heap.size + 1; omega) _⟩, h.id_.far (by omega) _, h.res.set _, h.last.far (by omega) _⟩
set_option maxRecDepth 100000 in
set_option maxHeartbeats 8000000 in
theorem fit_any (idn : Int) (a : Option Addr) (n cap : Nat) (l : List SN) (w : World) (hr : RdS w a n cap l) :
    Calls Try.prog 9 #[.int .i64 idn, .slice a n cap] w fun e w' => e = .returned (.bool (fitS idn l)) ∧ Below w.heap.size w w' := by
  have HN : Hid (n ≤ 140737488355328) := hr.small
  have HL : Hid (l.length = n) := hr.size
  obtain ⟨w5, hw5⟩ : ∃ w5, (((w.alloc (.cells #[.int .i64 idn] 3)).alloc (.cells #[.bool false] 4)).alloc (.cells #[.int .i64 (-1)] 3)).alloc (.cells #[.slice a n cap] 22) = w5 := ⟨_, rfl⟩
  have B5 : Below w.heap.size w w5 := by rw [← hw5]; exact ((((Below.refl _ _).alloc (Nat.le_refl _) _).alloc (by simp <;> omega) _).alloc (by simp <;> omega) _).alloc (by simp <;> omega) _
  have z5 : w5.heap.size = w.heap.size + 4 := by rw [← hw5]; simp
  have L0 : FtS w (.slice a n cap) idn (-1) w5 := by
    refine ⟨⟨?_, B5⟩, ?_, ?_, ?_⟩
    · rw [← hw5]; exact (One.new _ _ _).at (by simp)
    · rw [← hw5]; exact (((One.new _ _ _).alloc _).alloc _).alloc _
    · rw [← hw5]; exact (((One.new _ _ _).at (by simp)).alloc _).alloc _
    · rw [← hw5]; exact ((One.new _ _ _).at (by simp)).alloc _
  have HZ : Hid (w5.heap.size = w.heap.size + 4) := z5
  have HW : Hid ((((w.alloc (.cells #[.int .i64 idn] 3)).alloc (.cells #[.bool false] 4)).alloc (.cells #[.int .i64 (-1)] 3)).alloc (.cells #[.slice a n cap] 22) = w5) := hw5
  clear B5 z5 hw5
  refine (callsIn_wide (n := 2)).1 ?_
  refine callsIn_of_wp_marks Try.func9 rfl trivial ?_
  simp only [Try.ntmps9, List.size_toArray, List.length_cons, List.length_nil, Nat.reduceAdd, Nat.reduceSub, Array.replicate_succ, Array.replicate_zero, List.push_toArray, List.append_toArray, List.nil_append, List.cons_append]
  gi_wp2_with (refine ⟨trivial, ?_⟩; gi_at_call 37; refine (callsIn_wide.2 (noted_any a n cap _)).mono ?_; rintro e w1 ⟨rfl, hw1⟩; rw [hw1]; clear hw1 w1; rw [HW.out])
  clear HW
  try simp only [World.size_alloc]
  have G := noted_gives w (w.heap.size + 1 + 1 + 1) a n cap l w5 hr
  refine range_turns (gf := 56) (lb := #[.pointer (some ⟨w.heap.size + 1 + 1 + 1, 0, none⟩)]) (by first | rfl | simp) (enters_of Try.func56 (by kernel_rfl) rfl)
    G (Below.refl _ _) (fun _ => rfl)
    (fun i C W => FtS w (.slice a n cap) idn (lastS l i) W ∧ ∀ j, j < i → okS idn l j = true)
    (fun c C W => c = .ret ∧ ∃ i, i < l.length ∧ okS idn l i = false ∧ FtS w (.slice a n cap) idn (lastS l i) W)
    (fun i C A h => h.1.keep)
    (fun i C A B h s => ⟨h.1.same s (by have := HZ.out; omega), h.2⟩)
    (fun c C A B h s => by
      obtain ⟨h0, i, h1, h2, h3⟩ := h
      exact ⟨h0, i, h1, h2, h3.same s (by have := HZ.out; omega)⟩)
    ⟨L0, fun j hj => by omega⟩
    (fun x a' W => ∃ q, a' = { tmps := #[.int .i64 idn, .slice a n cap, .pointer (some ⟨w.heap.size, 0, none⟩), undef, .pointer (some ⟨w.heap.size + 1, 0, none⟩), .pointer (some ⟨w.heap.size + 1 + 1, 0, none⟩), .pointer (some ⟨q, 0, none⟩), (encS x)[1]!, .slice a n cap, .func (.func 56) #[] #[.pointer (some ⟨w.heap.size + 1 + 1 + 1, 0, none⟩)], (encS x)[0]!, (encS x)[1]!, undef, undef, undef, undef, undef, undef, undef, undef, undef, undef, undef, undef, undef, undef, undef, undef, undef, undef, undef, undef], defers := [] } ∧ W.heap[q]? = some (.cells #[.int .i64 x.peer, .int .i64 x.boot, .int .i64 x.life] 61 (0, 0)) ∧ w5.heap.size + 2 ≤ q)
    (fun x a' A o h => by obtain ⟨q, h1, h2, h3⟩ := h; exact ⟨q, h1, (World.putObj_heap_other (by omega)).trans h2, h3⟩)
    ?assign ?body ?done ?stop
  case assign =>
    rintro i ⟨peer, boot, life, mine⟩ W C K hi hs hK
    dsimp only [encS] at hK ⊢
    gi_wp2
    exact hK _ _ ⟨_, rfl, heap_new rfl, hs⟩ ((Below.refl _ _).alloc (Nat.le_refl _) _)
  case body =>
    rintro i ⟨peer, boot, life, mine⟩ C a' W ⟨L, hok⟩ ⟨q, rfl, hq, hq2⟩ hx hs hC
    have hz := HZ.out
    have hil : i < l.length := (List.getElem?_eq_some_iff.1 hx).1
    have hgd : l.getD i SN.z = ⟨peer, boot, life, mine⟩ := by rw [List.getD_eq_getElem?_getD, hx]; rfl
    have HOK : Hid (∀ j, j < i → okS idn l j = true) := hok
    have HIL : Hid (i < l.length) := hil
    have HB : Hid (okS idn l i = (ltI (lastS l i) peer && !(eqI peer idn) && entB ⟨peer, boot, life, mine⟩)) := by show _ = _; unfold okS; rw [hgd]
    have HLS : Hid (lastS l (i + 1) = peer) := by show _ = _; rw [lastS_succ, hgd]
    obtain ⟨la, hla⟩ : ∃ la, lastS l i = la := ⟨_, rfl⟩
    have HLA : Hid (lastS l i = la) := hla
    rw [hla] at L
    rw [HLA.out] at HB
    have x0 : W.cell? ⟨q, 0, none⟩ = some (.int .i64 peer) := row_cell hq 0 _ rfl
    have x1 : W.cell? ⟨q, 1, none⟩ = some (.int .i64 boot) := row_cell hq 1 _ rfl
    have x2 : W.cell? ⟨q, 2, none⟩ = some (.int .i64 life) := row_cell hq 2 _ rfl
    obtain ⟨a0, a1, a2⟩ := id L.id_
    obtain ⟨b0, b1, b2⟩ := id L.res
    obtain ⟨c0, c1, c2⟩ := id L.last
    have hC' : ∀ b, C b → w5.heap.size ≤ b ∧ b < W.heap.size := fun b hb => ⟨by have := (hC b hb).1; omega, (hC b hb).2⟩
    have HQ : Hid (W.heap[q]? = some (.cells #[.int .i64 peer, .int .i64 boot, .int .i64 life] 61 (0, 0))) := hq
    clear hx hok G L0 hz hil hgd hla hq
    have fin : ∀ (B : World), W.heap.size ≤ B.heap.size → (∀ b, w5.heap.size ≤ b → b < W.heap.size → B.heap[b]? = W.heap[b]?) → Turn w5.heap.size C C W B := fun B h1 h2 => turn_sets h1 h2 hC'
    by_cases h1 : peer ≤ la
    · have HF : Hid (okS idn l i = false) := by
        show _ = _
        rw [HB.out, show ltI la peer = false from decide_eq_false (by omega)]
        rfl
      gi_wp2_with (refine ⟨trivial, ?_⟩)
      exact ⟨C, ⟨rfl, i, HIL.out, HF.out, by rw [HLA.out]; exact L.no⟩, fin _ (by simp [World.setCell]) (fun b h1 h2 => by have := HZ.out; exact set_far rfl (by omega) _ _)⟩
    · have h1b : ltI la peer = true := decide_eq_true (by omega)
      cases h2 : eqI peer idn with
      | true =>
        have h2b : (peer == idn) = true := h2
        have HF : Hid (okS idn l i = false) := by
          show _ = _
          rw [HB.out, h1b, h2]
          rfl
        clear h1b h2
        gi_wp2_with (refine ⟨trivial, ?_⟩)
        exact ⟨C, ⟨rfl, i, HIL.out, HF.out, by rw [HLA.out]; exact L.no⟩, fin _ (by simp [World.setCell]) (fun b h1 h2 => by have := HZ.out; exact set_far rfl (by omega) _ _)⟩
      | false =>
        have h2b : (peer == idn) = false := h2
        cases h3 : entB ⟨peer, boot, life, mine⟩ with
        | false =>
          have HF : Hid (okS idn l i = false) := by
            show _ = _
            rw [HB.out, h1b, h2, h3]
            rfl
          clear h1b h2
          gi_wp2_with (refine ⟨trivial, ?_⟩; gi_at_call 38; refine (callsIn_wide.2 (isEntry_any ⟨peer, boot, life, mine⟩ _)).mono ?_; rintro e w7 ⟨rfl, b7⟩; have L7 := L.later b7; have ⟨b10, b11, b12⟩ := id L7.res; have ⟨b20, b21, b22⟩ := id L7.last; have x0x : w7.cell? ⟨q, 0, none⟩ = some (.int .i64 peer) := row_cell ((b7.block q (row_lt HQ.out)).trans HQ.out) 0 _ rfl)
          exact ⟨C, ⟨rfl, i, HIL.out, HF.out, by rw [HLA.out]; exact L7.no⟩, fin _ (by simp [World.setCell]; exact b7.size) (fun b h1 h2 => by have := HZ.out; exact (set_far rfl (by omega) _ _).trans (b7.block b h2))⟩
        | true =>
          have HT : Hid (okS idn l i = true) := by
            show _ = _
            rw [HB.out, h1b, h2, h3]
            rfl
          clear h1b h2
          gi_wp2_with (refine ⟨trivial, ?_⟩; gi_at_call 38; refine (callsIn_wide.2 (isEntry_any ⟨peer, boot, life, mine⟩ _)).mono ?_; rintro e w7 ⟨rfl, b7⟩; have L7 := L.later b7; have ⟨b10, b11, b12⟩ := id L7.res; have ⟨b20, b21, b22⟩ := id L7.last; have x0x : w7.cell? ⟨q, 0, none⟩ = some (.int .i64 peer) := row_cell ((b7.block q (row_lt HQ.out)).trans HQ.out) 0 _ rfl)
          refine ⟨C, ⟨by rw [HLS.out]; exact L7.put peer, fun j hj => ?_⟩, fin _ (by simp [World.setCell]; exact b7.size) (fun b h1 h2 => by have := HZ.out; exact (set_far rfl (by omega) _ _).trans (b7.block b h2))⟩
          by_cases hji : j = i
          · rw [hji]; exact HT.out
          · exact HOK.out j (by omega)
  case done =>
    rintro C W ⟨L, hok⟩ hK hC
    have HV : Hid (fitS idn l = nodeB idn) := fitS_yes hok
    obtain ⟨a0, a1, a2⟩ := id L.id_
    obtain ⟨b0, b1, b2⟩ := id L.res
    clear hok G L0
    gi_wp2_with (refine ⟨trivial, ?_⟩; gi_at_call 39; refine (callsIn_wide.2 (isNode_any idn _)).mono ?_; rintro e w1 ⟨rfl, hw1⟩; rw [hw1]; clear hw1 w1)
    have hz := HZ.out
    have hK' := set_far (w := W) (k := w.heap.size + 1) (g := w5.heap.size) hK (by omega) 0 (.bool (nodeB idn))
    refine ⟨by simp, .inl ⟨_, _, rfl, run_takeDeferred hK', ?_⟩⟩
    have q0 := ((L.res.set (.bool (nodeB idn))).putObj (l := w5.heap.size) (by omega) (.deferred none)).1
    refine ⟨_, results_row1 rfl _ _ (w.heap.size + 1) _ rfl (load_one 4 Try.underlying4 rfl q0), ?_, below_putObj (L.keep.below.setCell (p := ⟨w.heap.size + 1, 0, none⟩) (by show w.heap.size ≤ w.heap.size + 1; omega) _) (by omega) _⟩
    rw [HV.out]
  case stop =>
    rintro c C W ⟨rfl, i, hi, hno, L⟩ hK hC
    have HV : Hid (fitS idn l = false) := fitS_no hi hno
    obtain ⟨b0, b1, b2⟩ := id L.res
    clear G L0 hno hi
    gi_wp2
    have hz := HZ.out
    refine ⟨by simp, .inl ⟨_, _, rfl, run_takeDeferred hK, ?_⟩⟩
    have q0 := (L.res.putObj (l := w5.heap.size) (by omega) (.deferred none)).1
    refine ⟨_, results_row1 rfl _ _ (w.heap.size + 1) _ rfl (load_one 4 Try.underlying4 rfl q0), ?_, below_putObj L.keep.below (by omega) _⟩
    rw [HV.out]
end Go.Proofs.Yteoiogjaecpddaa
