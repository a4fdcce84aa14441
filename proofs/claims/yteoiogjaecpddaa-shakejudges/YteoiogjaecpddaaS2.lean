/-
  Package shake: where a peer's entry stands, or would stand.
-/
import Derived.Test.YteoiogjaecpddaaS1
import Derived.RegionIn
namespace Go.Proofs.Yteoiogjaecpddaa
open Go.ChangeShapes Go.WideShapes Go.ChangeAt Go.RowKit Go.Maps Go.Shelf
set_option linter.unusedVariables false
set_option linter.unusedSimpArgs false
attribute [local go_sem] Oper.semAt_some

abbrev posS (k : Int) (l : List SN) : Nat := pos (fun x : SN => ltI x.peer k) l
abbrev hitS (k : Int) (l : List SN) : Bool := hit (fun x : SN => ltI x.peer k) (fun x => eqI x.peer k) l
/-- The search, on its way. -/
structure PlS (w : World) (v key : Value) (x y : Int) (i : Int) (W : World) : Prop where
  keep : KeepI w (w.heap.size + 1 + 1 + 1 + 1) v W
  key : One W w.heap.size key
  r0 : One W (w.heap.size + 1) (.int .i64 x)
  r1 : One W (w.heap.size + 1 + 1) (.int .i64 y)
  at_ : One W (w.heap.size + 1 + 1 + 1) (.int .i64 i)
theorem PlS.same {w A B : World} {N : Nat} {v key : Value} {x y i : Int} {C : Nat → Prop} (h : PlS w v key x y i A) (s : Same N C A B) (hN : w.heap.size + 5 ≤ N) : PlS w v key x y i B :=
  ⟨⟨h.keep.ptr.same s (by omega), Below.same h.keep.below s (by omega) (Nat.le_refl _)⟩, h.key.same s (by omega), h.r0.same s (by omega), h.r1.same s (by omega), h.at_.same s (by omega)⟩
theorem PlS.put {w A : World} {v key : Value} {x y i : Int} (h : PlS w v key x y i A) (j : Int) : PlS w v key x y j (A.setCell ⟨w.heap.size + 1 + 1 + 1, 0, none⟩ (.int .i64 j)) :=
  ⟨⟨h.keep.ptr.far (by omega) _, h.keep.below.setCell (p := ⟨w.heap.size + 1 + 1 + 1, 0, none⟩) (by show w.heap.size ≤ w.heap.size + 1 + 1 + 1; omega) _⟩, h.key.far (by omega) _, h.r0.far (by omega) _, h.r1.far (by omega) _, h.at_.set _⟩
theorem PlS.out0 {w A : World} {v key : Value} {x y i : Int} (h : PlS w v key x y i A) (j : Int) : PlS w v key j y i (A.setCell ⟨w.heap.size + 1, 0, none⟩ (.int .i64 j)) :=
  ⟨⟨h.keep.ptr.far (by omega) _, h.keep.below.setCell (p := ⟨w.heap.size + 1, 0, none⟩) (by show w.heap.size ≤ w.heap.size + 1; omega) _⟩, h.key.far (by omega) _, h.r0.set _, h.r1.far (by omega) _, h.at_.far (by omega) _⟩
theorem PlS.out1 {w A : World} {v key : Value} {x y i : Int} (h : PlS w v key x y i A) (j : Int) : PlS w v key x j i (A.setCell ⟨w.heap.size + 1 + 1, 0, none⟩ (.int .i64 j)) :=
  ⟨⟨h.keep.ptr.far (by omega) _, h.keep.below.setCell (p := ⟨w.heap.size + 1 + 1, 0, none⟩) (by show w.heap.size ≤ w.heap.size + 1 + 1; omega) _⟩, h.key.far (by omega) _, h.r0.far (by omega) _, h.r1.set _, h.at_.far (by omega) _⟩
theorem PlS.drew {w A : World} {v key : Value} {x y i : Int} (h : PlS w v key x y i A) : PlS w v key x y i A.drew :=
  ⟨⟨h.keep.ptr, ⟨h.keep.below.os, h.keep.below.tape, h.keep.below.output, h.keep.below.size, h.keep.below.block⟩⟩, h.key, h.r0, h.r1, h.at_⟩
set_option maxRecDepth 100000 in
set_option maxHeartbeats 8000000 in
theorem place_any (a : Option Addr) (n cap : Nat) (l : List SN) (key : Int) (w : World) (hr : RdS w a n cap l) :
    Calls Try.prog 44 #[.slice a n cap, .int .i64 key] w fun e w' => e = .returned (.tuple #[.int .i64 (posS key l : Int), .int .i64 (toN (posS key l) (hitS key l))]) ∧ Below w.heap.size w w' := by
  have HN : Hid (n ≤ 140737488355328) := hr.small
  have HL : Hid (l.length = n) := hr.size
  obtain ⟨w5, hw5⟩ : ∃ w5, ((((w.alloc (.cells #[.int .i64 key] 3)).alloc (.cells #[.int .i64 0] 3)).alloc (.cells #[.int .i64 0] 3)).alloc (.cells #[.int .i64 0] 3)).alloc (.cells #[.slice a n cap] 22) = w5 := ⟨_, rfl⟩
  have B5 : Below w.heap.size w w5 := by rw [← hw5]; exact (((((Below.refl _ _).alloc (Nat.le_refl _) _).alloc (by simp <;> omega) _).alloc (by simp <;> omega) _).alloc (by simp <;> omega) _).alloc (by simp <;> omega) _
  have z5 : w5.heap.size = w.heap.size + 5 := by rw [← hw5]; simp
  have L0 : PlS w (.slice a n cap) (.int .i64 key) 0 0 0 w5 := by
    refine ⟨⟨?_, B5⟩, ?_, ?_, ?_, ?_⟩
    · rw [← hw5]; exact (One.new _ _ _).at (by simp)
    · rw [← hw5]; exact ((((One.new _ _ _).alloc _).alloc _).alloc _).alloc _
    · rw [← hw5]; exact ((((One.new _ _ _).at (by simp)).alloc _).alloc _).alloc _
    · rw [← hw5]; exact (((One.new _ _ _).at (by simp)).alloc _).alloc _
    · rw [← hw5]; exact ((One.new _ _ _).at (by simp)).alloc _
  have HZ : Hid (w5.heap.size = w.heap.size + 5) := z5
  have HW : Hid (((((w.alloc (.cells #[.int .i64 key] 3)).alloc (.cells #[.int .i64 0] 3)).alloc (.cells #[.int .i64 0] 3)).alloc (.cells #[.int .i64 0] 3)).alloc (.cells #[.slice a n cap] 22) = w5) := hw5
  clear B5 z5 hw5
  refine (callsIn_wide (n := 2)).1 ?_
  refine callsIn_of_wp_marks Try.func44 rfl trivial ?_
  simp only [Try.ntmps44, List.size_toArray, List.length_cons, List.length_nil, Nat.reduceAdd, Nat.reduceSub, Array.replicate_succ, Array.replicate_zero, List.push_toArray, List.append_toArray, List.nil_append, List.cons_append]
  gi_wp2_with (refine ⟨trivial, ?_⟩; gi_at_call 37; refine (callsIn_wide.2 (noted_any a n cap _)).mono ?_; rintro e w1 ⟨rfl, hw1⟩; rw [hw1]; clear hw1 w1; rw [HW.out])
  clear HW
  try simp only [World.size_alloc]
  have G := noted_gives w (w.heap.size + 1 + 1 + 1 + 1) a n cap l w5 hr
  refine range_turns (gf := 56) (lb := #[.pointer (some ⟨w.heap.size + 1 + 1 + 1 + 1, 0, none⟩)]) (by first | rfl | simp) (enters_of Try.func56 (by kernel_rfl) rfl)
    G (Below.refl _ _) (fun _ => rfl)
    (fun i C W => PlS w (.slice a n cap) (.int .i64 key) 0 0 (i : Int) W ∧ ∀ q ∈ l.take i, (fun x : SN => ltI x.peer key) q = true)
    (fun c C W => ∃ (i : Nat) (x : SN), l[i]? = some x ∧ (∀ q ∈ l.take i, (fun x : SN => ltI x.peer key) q = true) ∧ ((c = .ret ∧ (fun x : SN => eqI x.peer key) x = true ∧ PlS w (.slice a n cap) (.int .i64 key) (i : Int) ((i : Int) + 1) (i : Int) W) ∨ (c = .exit 0 ∧ (fun x : SN => eqI x.peer key) x = false ∧ (fun x : SN => ltI x.peer key) x = false ∧ PlS w (.slice a n cap) (.int .i64 key) 0 0 (i : Int) W)))
    (fun i C A h => h.1.keep)
    (fun i C A B h s => ⟨h.1.same s (by have := HZ.out; omega), h.2⟩)
    (fun c C A B h s => by
      obtain ⟨i, x, h1, h2, h3⟩ := h
      exact ⟨i, x, h1, h2, h3.imp (fun ⟨p, q, r⟩ => ⟨p, q, r.same s (by have := HZ.out; omega)⟩) (fun ⟨p, q, q', r⟩ => ⟨p, q, q', r.same s (by have := HZ.out; omega)⟩)⟩)
    ⟨L0, fun q hq => by simp at hq⟩
    (fun x a' W => ∃ q, a' = { tmps := #[.slice a n cap, .int .i64 key, undef, .pointer (some ⟨w.heap.size, 0, none⟩), .pointer (some ⟨w.heap.size + 1, 0, none⟩), .pointer (some ⟨w.heap.size + 1 + 1, 0, none⟩), .pointer (some ⟨w.heap.size + 1 + 1 + 1, 0, none⟩), .pointer (some ⟨q, 0, none⟩), .slice a n cap, .func (.func 56) #[] #[.pointer (some ⟨w.heap.size + 1 + 1 + 1 + 1, 0, none⟩)], (encS x)[0]!, (encS x)[1]!, undef, undef, undef, undef, undef, undef, undef, undef, undef, undef, undef, undef, undef, undef, undef], defers := [] } ∧ W.heap[q]? = some (.cells #[.int .i64 x.peer, .int .i64 x.boot, .int .i64 x.life] 61 (0, 0)) ∧ w5.heap.size + 2 ≤ q)
    (fun x a' A o h => by obtain ⟨q, h1, h2, h3⟩ := h; exact ⟨q, h1, (World.putObj_heap_other (by omega)).trans h2, h3⟩)
    ?assign ?body ?done ?stop
  case assign =>
    rintro i ⟨peer, boot, life, mine⟩ W C K hi hs hK
    dsimp only [encS] at hK ⊢
    gi_wp2
    exact hK _ _ ⟨_, rfl, heap_new rfl, hs⟩ ((Below.refl _ _).alloc (Nat.le_refl _) _)
  case body =>
    rintro i ⟨peer, boot, life, mine⟩ C a' W ⟨L, hno⟩ ⟨q, rfl, hq, hq2⟩ hx hs hC
    have hz := HZ.out
    have hin : i < n := by rw [← HL.out]; exact (List.getElem?_eq_some_iff.1 hx).1
    have hwr : IntKind.i64.wrap ((i : Int) + 1) = (i : Int) + 1 := by rw [IntKind.wrap_i64]; have := HN.out; omega
    have HX : Hid (l[i]? = some ⟨peer, boot, life, mine⟩) := hx
    have HO : Hid (∀ q ∈ l.take i, (fun x : SN => ltI x.peer key) q = true) := hno
    have x0 : W.cell? ⟨q, 0, none⟩ = some (.int .i64 peer) := row_cell hq 0 _ rfl
    obtain ⟨a0, a1, a2⟩ := id L.key
    obtain ⟨b0, b1, b2⟩ := id L.r0
    obtain ⟨c0, c1, c2⟩ := id L.r1
    obtain ⟨d0, d1, d2⟩ := id L.at_
    have hC' : ∀ b, C b → w5.heap.size ≤ b ∧ b < W.heap.size := fun b hb => ⟨by have := (hC b hb).1; omega, (hC b hb).2⟩
    clear hx hno G L0 hz hin hq
    have fin : ∀ (B : World), W.heap.size ≤ B.heap.size → (∀ b, w5.heap.size ≤ b → b < W.heap.size → B.heap[b]? = W.heap[b]?) → Turn w5.heap.size C C W B := fun B h1 h2 => turn_sets h1 h2 hC'
    cases he : eqI peer key with
    | true =>
      have he2 : (peer == key) = _ := he
      gi_wp2
      gi_region
      all_goals gi_wp2
      all_goals exact ⟨C, ⟨i, _, HX.out, HO.out, .inl ⟨rfl, he, ((L.drew).out0 (i : Int)).out1 ((i : Int) + 1)⟩⟩, fin _ (by simp [World.setCell]) (fun b h1 h2 => by have := HZ.out; exact (set_far rfl (by omega) _ _).trans (set_far rfl (by omega) _ _))⟩
    | false =>
      have he2 : (peer == key) = _ := he
      cases hl : ltI peer key with
      | true =>
        have hl2 : peer < key := of_decide_eq_true hl
        gi_wp2
        refine ⟨C, ⟨(by rw [show ((i + 1 : Nat) : Int) = (i : Int) + 1 by omega]; exact L.put ((i : Int) + 1)), fun q hq => ?_⟩, fin _ (by simp [World.setCell]) (fun b h1 h2 => by have := HZ.out; exact set_far rfl (by omega) _ _)⟩
        rw [List.take_add_one, HX.out] at hq
        rcases List.mem_append.1 hq with hq | hq
        · exact HO.out q hq
        · simp at hq; subst hq; exact hl
      | false =>
        have hl2 : key < peer := by have := of_decide_eq_false hl; have := of_decide_eq_false he; omega
        gi_wp2
        exact ⟨C, ⟨i, _, HX.out, HO.out, .inr ⟨rfl, he, hl, L⟩⟩, fin _ (Nat.le_refl _) (fun b h1 h2 => rfl)⟩
  case done =>
    rintro C W ⟨L, hno⟩ hK hC
    have HP := hit_all (lt := fun x : SN => ltI x.peer key) (eq := fun x : SN => eqI x.peer key) (fun q hq => hno q (by rw [List.take_length]; exact hq))
    have HV : Hid (posS key l = l.length ∧ hitS key l = false) := HP
    obtain ⟨b0, b1, b2⟩ := id L.r0
    obtain ⟨c0, c1, c2⟩ := id L.r1
    obtain ⟨d0, d1, d2⟩ := id L.at_
    clear HP hno G L0
    gi_wp2
    gi_region
    all_goals gi_wp2
    all_goals
      have hz := HZ.out
      have P2 := ((L.drew).out0 (l.length : Int)).out1 (l.length : Int)
      have hK' := (set_far (w := (W.drew.setCell ⟨w.heap.size + 1, 0, none⟩ (.int .i64 (l.length : Int)))) (k := w.heap.size + 1 + 1) (g := w5.heap.size) ((set_far (w := W.drew) (k := w.heap.size + 1) (g := w5.heap.size) hK (by omega) 0 (.int .i64 (l.length : Int)))) (by omega) 0 (.int .i64 (l.length : Int)))
      refine ⟨by simp, .inl ⟨_, _, rfl, run_takeDeferred hK', ?_⟩⟩
      have q0 := (P2.r0.putObj (l := w5.heap.size) (by omega) (.deferred none)).1
      have q1 := (P2.r1.putObj (l := w5.heap.size) (by omega) (.deferred none)).1
      refine ⟨_, results_two rfl _ _ (w.heap.size + 1) (w.heap.size + 1 + 1) _ _ rfl rfl (load_one 3 Try.underlying3 rfl q0) (load_one 3 Try.underlying3 rfl q1), ?_, below_putObj P2.keep.below (by omega) _⟩
      rw [HV.out.1, HV.out.2]
      rfl
  case stop =>
    rintro c C W ⟨i, x, hx, hno, (⟨rfl, he, L⟩ | ⟨rfl, he, hl, L⟩)⟩ hK hC
    · have HP := hit_at (lt := fun x : SN => ltI x.peer key) (eq := fun x : SN => eqI x.peer key) hno hx (decide_eq_false (by have := of_decide_eq_true he; omega))
      have HV : Hid (posS key l = i ∧ hitS key l = true) := ⟨HP.1, HP.2.trans he⟩
      clear HP G L0 hno hx he
      gi_wp2
      have hz := HZ.out
      refine ⟨by simp, .inl ⟨_, _, rfl, run_takeDeferred hK, ?_⟩⟩
      have q0 := (L.r0.putObj (l := w5.heap.size) (by omega) (.deferred none)).1
      have q1 := (L.r1.putObj (l := w5.heap.size) (by omega) (.deferred none)).1
      refine ⟨_, results_two rfl _ _ (w.heap.size + 1) (w.heap.size + 1 + 1) _ _ rfl rfl (load_one 3 Try.underlying3 rfl q0) (load_one 3 Try.underlying3 rfl q1), ?_, below_putObj L.keep.below (by omega) _⟩
      rw [HV.out.1, HV.out.2]
      rfl
    · have HP := hit_at (lt := fun x : SN => ltI x.peer key) (eq := fun x : SN => eqI x.peer key) hno hx hl
      have HV : Hid (posS key l = i ∧ hitS key l = false) := ⟨HP.1, HP.2.trans he⟩
      obtain ⟨b0, b1, b2⟩ := id L.r0
      obtain ⟨c0, c1, c2⟩ := id L.r1
      obtain ⟨d0, d1, d2⟩ := id L.at_
      clear HP G L0 hno hx he hl
      gi_wp2
      gi_region
      all_goals gi_wp2
      all_goals
        have hz := HZ.out
        have P2 := ((L.drew).out0 (i : Int)).out1 (i : Int)
        have hK' := (set_far (w := (W.drew.setCell ⟨w.heap.size + 1, 0, none⟩ (.int .i64 (i : Int)))) (k := w.heap.size + 1 + 1) (g := w5.heap.size) ((set_far (w := W.drew) (k := w.heap.size + 1) (g := w5.heap.size) hK (by omega) 0 (.int .i64 (i : Int)))) (by omega) 0 (.int .i64 (i : Int)))
        refine ⟨by simp, .inl ⟨_, _, rfl, run_takeDeferred hK', ?_⟩⟩
        have q0 := (P2.r0.putObj (l := w5.heap.size) (by omega) (.deferred none)).1
        have q1 := (P2.r1.putObj (l := w5.heap.size) (by omega) (.deferred none)).1
        refine ⟨_, results_two rfl _ _ (w.heap.size + 1) (w.heap.size + 1 + 1) _ _ rfl rfl (load_one 3 Try.underlying3 rfl q0) (load_one 3 Try.underlying3 rfl q1), ?_, below_putObj P2.keep.below (by omega) _⟩
        rw [HV.out.1, HV.out.2]
        rfl
end Go.Proofs.Yteoiogjaecpddaa
