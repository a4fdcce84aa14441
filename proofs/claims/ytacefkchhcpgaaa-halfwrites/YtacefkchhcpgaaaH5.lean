/-
  Fits: the half-edges of a node.
-/
import Derived.Test.YtacefkchhcpgaaaH4
namespace Go.Proofs.Ytacefkchhcpgaaa
open Go.ChangeShapes Go.WideShapes Go.ChangeAt Go.RowKit Go.Maps Go.Shelf
set_option linter.unusedVariables false
set_option linter.unusedSimpArgs false
attribute [local go_sem] Oper.semAt_some

def prevP (hs : List HS) (i : Nat) : Int := if i = 0 then -1 else (hs.getD (i - 1) HS.z).peer
theorem prevP_succ (hs : List HS) (i : Nat) : prevP hs (i + 1) = (hs.getD i HS.z).peer := by unfold prevP; rw [if_neg (by omega)]; rfl
theorem fit_peer {id : Int} {x : HS} (h : x.fit id = true) : 0 ≤ x.peer := by
  unfold HS.fit at h
  simp only [Bool.and_eq_true] at h
  have h1 := of_decide_eq_true h.2.1
  exact h1.1
theorem fitsAt_low {id : Int} {hs : List HS} {i : Nat} (h : (hs.getD i HS.z).peer ≤ prevP hs i) : fitsAt id hs i = false := by
  unfold fitsAt
  unfold prevP at h
  by_cases hi : i = 0
  · rw [if_pos hi] at h
    cases hf : (hs.getD i HS.z).fit id with
    | false => rfl
    | true => have := fit_peer hf; omega
  · rw [if_neg hi] at h
    rw [decide_eq_false hi, show ltI (hs.getD (i - 1) HS.z).peer (hs.getD i HS.z).peer = false from decide_eq_false (by omega)]
    simp
theorem fitsAt_unfit {id : Int} {hs : List HS} {i : Nat} (h : (hs.getD i HS.z).fit id = false) : fitsAt id hs i = false := by
  unfold fitsAt; rw [h]; rfl
theorem fitsAt_ok {id : Int} {hs : List HS} {i : Nat} (hf : (hs.getD i HS.z).fit id = true) (h : prevP hs i < (hs.getD i HS.z).peer) : fitsAt id hs i = true := by
  unfold fitsAt
  unfold prevP at h
  rw [hf]
  by_cases hi : i = 0
  · rw [decide_eq_true hi]; rfl
  · rw [if_neg hi] at h
    rw [show ltI (hs.getD (i - 1) HS.z).peer (hs.getD i HS.z).peer = true from decide_eq_true h]
    simp
theorem range_block {W : World} {k : Nat} {d : HR} (h : W.heap[k]? = some (.cells d.cells.toArray 24 (0, 0))) : W.rangeAt k 0 d.cells := fun i v hv => row_cell h (0 + i) v (by simpa using hv)
section
variable {ops : Array Oper} {rest : List Oper} {o : Oper} {A : Act} {W : World} {Q : Exit → Act → World → Prop} {F : Fence} {n : Nat}
theorem wpListIn_load24g (hw : Region.wanted o (yielded ops A.tmps) = true) {x : Operand} (ho : o.op = .load 24 x) (g : Nat) (d : HR) (hx : A.eval x = .pointer (some ⟨g, 0, none⟩)) (hc : W.heap[g]? = some (.cells d.cells.toArray 24 (0, 0)))
    (h : wpListIn F n Try.prog ops Q rest (A.put o.dst d.val) W) : wpListIn F n Try.prog ops Q (o :: rest) A W := by
  refine wpListIn_step fun K hK => ?_
  rw [if_pos hw]
  unfold Oper.wpIn
  refine ⟨?_, ?_⟩
  · simp [Oper.about, ho]
  · rw [Oper.semAt_plain F _ _ (by rw [ho]; intro c hc'; cases hc')]
    rw [exec_load24 ho g 0 d hx (range_block hc)]
    exact hK _ _ h
end
/-- The look at the half-edges, on its way. -/
structure Fts (w : World) (fb : Nat) (v : Value) (id : Int) (r : Bool) (last : Int) (W : World) : Prop where
  keep : KeepI w fb v W
  id_ : One W w.heap.size (.int .i64 id)
  res : One W (w.heap.size + 1) (.bool r)
  last_ : One W (w.heap.size + 1 + 1) (.int .i64 last)
theorem Fts.same {w A B : World} {fb N : Nat} {v : Value} {id : Int} {r : Bool} {last : Int} {C : Nat → Prop} (h : Fts w fb v id r last A) (s : Same N C A B) (hf : fb < N) (hN : w.heap.size + 3 ≤ N) : Fts w fb v id r last B :=
  ⟨⟨h.keep.ptr.same s hf, Below.same h.keep.below s (by omega) (Nat.le_refl _)⟩, h.id_.same s (by omega), h.res.same s (by omega), h.last_.same s (by omega)⟩
theorem Fts.put {w A : World} {fb : Nat} {v : Value} {id : Int} {r : Bool} {last : Int} (h : Fts w fb v id r last A) (hf : fb ≠ w.heap.size + 2) (l : Int) : Fts w fb v id r l (A.setCell ⟨w.heap.size + 1 + 1, 0, none⟩ (.int .i64 l)) :=
  ⟨⟨h.keep.ptr.far (by omega) _, h.keep.below.setCell (p := ⟨w.heap.size + 1 + 1, 0, none⟩) (by show w.heap.size ≤ w.heap.size + 1 + 1; omega) _⟩, h.id_.far (by omega) _, h.res.far (by omega) _, h.last_.set _⟩
theorem Fts.out {w A : World} {fb : Nat} {v : Value} {id : Int} {r : Bool} {last : Int} (h : Fts w fb v id r last A) (hf : fb ≠ w.heap.size + 1) (x : Bool) : Fts w fb v id x last (A.setCell ⟨w.heap.size + 1, 0, none⟩ (.bool x)) :=
  ⟨⟨h.keep.ptr.far (by omega) _, h.keep.below.setCell (p := ⟨w.heap.size + 1, 0, none⟩) (by show w.heap.size ≤ w.heap.size + 1; omega) _⟩, h.id_.far (by omega) _, h.res.set _, h.last_.far (by omega) _⟩
theorem Fts.later {w A B : World} {fb : Nat} {v : Value} {id : Int} {r : Bool} {last : Int} (h : Fts w fb v id r last A) (s : Below A.heap.size A B) : Fts w fb v id r last B :=
  ⟨⟨h.keep.ptr.below s, h.keep.below.trans (s.mono h.keep.below.size)⟩, h.id_.below s, h.res.below s, h.last_.below s⟩
set_option maxRecDepth 100000 in
set_option maxHeartbeats 8000000 in
theorem fits_any (id : Int) (a : Option Addr) (c : Nat) (hs : List HS) (w : World) (P : Hs w a hs.length c hs) :
    Calls Try.prog 10 #[.int .i64 id, .slice a hs.length c] w fun e w' => e = .returned (.bool (fitsB id hs)) ∧ Below w.heap.size w w' := by
  obtain ⟨rs, R, PK⟩ := P.mem
  have HPK : Hid (∀ i, i < hs.length → ∃ a c, rs.getD i HR.z = (hs.getD i HS.z).on a c ∧ RdO w (hs.getD i HS.z) a c) := PK
  have HRS : Hid (rs.length = hs.length) := R.size
  clear PK P
  obtain ⟨w4, hw4⟩ : ∃ w4, (((w.alloc (.cells #[.int .i64 id] 3)).alloc (.cells #[.bool false] 4)).alloc (.cells #[.int .i64 (-1)] 3)) = w4 := ⟨_, rfl⟩
  have B4 : Below w.heap.size w w4 := by rw [← hw4]; exact (((Below.refl _ _).alloc (Nat.le_refl _) _).alloc (by simp <;> omega) _).alloc (by simp <;> omega) _
  have z4 : w4.heap.size = w.heap.size + 3 := by rw [← hw4]; simp
  have x0 : One w4 w.heap.size (.int .i64 id) := by rw [← hw4]; exact ((One.new _ _ _).alloc _).alloc _
  have x2 : One w4 (w.heap.size + 1) (.bool false) := by rw [← hw4]; exact ((One.new _ _ _).at (by simp)).alloc _
  have x3 : One w4 (w.heap.size + 1 + 1) (.int .i64 (-1)) := by rw [← hw4]; exact (One.new _ _ _).at (by simp)
  have HZ : Hid (w4.heap.size = w.heap.size + 3) := z4
  have HW : Hid ((((w.alloc (.cells #[.int .i64 id] 3)).alloc (.cells #[.bool false] 4)).alloc (.cells #[.int .i64 (-1)] 3)) = w4) := hw4
  have KN := fun W => toward_any a hs.length c W
  clear hw4 z4
  refine (callsIn_wide (n := 2)).1 ?_
  refine callsIn_of_wp_marks Try.func10 rfl trivial ?_
  simp only [Try.ntmps10, List.size_toArray, List.length_cons, List.length_nil, Nat.reduceAdd, Nat.reduceSub, Array.replicate_succ, Array.replicate_zero, List.push_toArray, List.append_toArray, List.nil_append, List.cons_append]
  gi_wp2_with (refine ⟨trivial, ?_⟩; gi_at_call 46; refine (callsIn_wide.2 (KN _)).mono ?_; rintro e w5 ⟨rfl, hw5⟩)
  rw [← hw5]
  rw [HW.out] at hw5
  have b5 : Below w4.heap.size w4 w5 := by rw [hw5]; exact (Below.refl _ _).alloc (Nat.le_refl _) _
  have z5 : w5.heap.size = w.heap.size + 4 := by rw [hw5, World.size_alloc, HZ.out]
  have L0 : Fts w (w.heap.size + 3) (.slice a hs.length c) id false (prevP hs 0) w5 := by
    refine ⟨⟨?_, B4.trans (b5.mono B4.size)⟩, x0.below b5, x2.below b5, x3.below b5⟩
    rw [hw5]
    exact (One.new _ _ _).at HZ.out
  have HZ5 : Hid (w5.heap.size = w.heap.size + 4) := z5
  clear KN HW B4 x0 x2 x3 b5 z5 hw5
  have G := toward_gives w (w.heap.size + 3) a hs.length c rs w5 R
  refine range_turns (gf := 62) (lb := #[.pointer (some ⟨w.heap.size + 3, 0, none⟩)]) (by first | rfl | simp) (enters_of Try.func62 (by kernel_rfl) rfl)
    G (Below.refl _ _) (fun _ => rfl)
    (fun i C W => Fts w (w.heap.size + 3) (.slice a hs.length c) id false (prevP hs i) W ∧ ∀ j, j < i → fitsAt id hs j = true)
    (fun cc C W => cc = .ret ∧ fitsB id hs = false ∧ ∃ last, Fts w (w.heap.size + 3) (.slice a hs.length c) id false last W)
    (fun i C A h => h.1.keep)
    (fun i C A B h s => ⟨h.1.same s (by have := HZ5.out; omega) (by have := HZ5.out; omega), h.2⟩)
    (fun cc C A B h s => ⟨h.1, h.2.1, h.2.2.imp fun last q => q.same s (by have := HZ5.out; omega) (by have := HZ5.out; omega)⟩)
    ⟨L0, fun j hj => by omega⟩
    (fun x a' W => ∃ k, w5.heap.size + 2 ≤ k ∧ W.heap[k]? = some (.cells x.cells.toArray 24 (0, 0)) ∧ a' = { tmps := #[.int .i64 id, .slice a hs.length c, .pointer (some ⟨w.heap.size, 0, none⟩), undef, .pointer (some ⟨w.heap.size + 1, 0, none⟩), .pointer (some ⟨w.heap.size + 1 + 1, 0, none⟩), .int .i64 x.peer, .pointer (some ⟨k, 0, none⟩), .slice a hs.length c, .func (.func 62) #[] #[.pointer (some ⟨w.heap.size + 1 + 1 + 1, 0, none⟩)], .int .i64 x.peer, x.val, undef, undef, undef, undef, undef, undef, undef, undef, undef, undef, undef, undef], defers := [] })
    (fun x a' A o ⟨k, h1, h2, h3⟩ => ⟨k, h1, (World.putObj_heap_other (by omega)).trans h2, h3⟩)
    ?assign ?body ?done ?stop
  case assign =>
    rintro i ⟨peer, boot, life, la, ln, lc, pend, miss⟩ W C K hi hs' hK
    dsimp only [encT, HR.val]
    gi_wp2
    exact hK _ _ ⟨W.heap.size, hs', heap_new rfl, rfl⟩ ((Below.refl _ _).alloc (Nat.le_refl _) _)
  case body =>
    rintro i xr C a' W ⟨L, hok⟩ ⟨k, hk, TK, rfl⟩ hx hsz hC
    have hin : i < hs.length := by have := (List.getElem?_eq_some_iff.1 hx).1; have := HRS.out; omega
    obtain ⟨a1, c1, e1, R10⟩ := HPK.out i hin
    have e2 : rs.getD i HR.z = xr := by rw [List.getD_eq_getElem?_getD, hx]; rfl
    rw [e2] at e1
    obtain ⟨y, hy⟩ : ∃ y, hs.getD i HS.z = y := ⟨_, rfl⟩
    rw [hy] at e1 R10
    subst e1
    have R1 : RdO W y a1 c1 := RdL.below R10 L.keep.below
    have HI : Hid (i < hs.length) := hin
    have HOK : Hid (∀ j, j < i → fitsAt id hs j = true) := hok
    have HG : Hid (hs.getD i HS.z = y) := hy
    have hC' : ∀ b, C b → w5.heap.size ≤ b ∧ b < W.heap.size := fun b hb => ⟨by have := (hC b hb).1; omega, (hC b hb).2⟩
    have fin : ∀ (X Y : World) (b : Bool), fitsAt id hs i = false → Below W.heap.size W X → Y = X.setCell ⟨w.heap.size + 1, 0, none⟩ (.bool false) → ∃ C', (fitsB id hs = false ∧ ∃ last, Fts w (w.heap.size + 3) (.slice a hs.length c) id false last Y) ∧ Turn w5.heap.size C C' W Y := by
      intro X Y b h1 h2 h3
      have hz := HZ5.out
      refine ⟨C, ⟨fits_no HI.out h1, _, by rw [h3]; exact (L.later h2).out (by omega) false⟩, ?_⟩
      rw [h3]
      exact turn_sets (by simpa [World.setCell] using h2.size) (fun b h4 h5 => (set_far rfl (by omega) _ _).trans (h2.block b h5)) hC'
    have FIN : Hid (∀ (X Y : World) (b : Bool), fitsAt id hs i = false → Below W.heap.size W X → Y = X.setCell ⟨w.heap.size + 1, 0, none⟩ (.bool false) → ∃ C', (fitsB id hs = false ∧ ∃ last, Fts w (w.heap.size + 3) (.slice a hs.length c) id false last Y) ∧ Turn w5.heap.size C C' W Y) := fin
    simp only [show (y.on a1 c1).peer = y.peer from rfl]
    clear hx hok hy hin G L0 fin e2 R10
    obtain ⟨last, hlast⟩ : ∃ l, prevP hs i = l := ⟨_, rfl⟩
    have HLA : Hid (prevP hs i = last) := hlast
    rw [hlast] at L
    clear hlast
    obtain ⟨a0, a10, a2⟩ := _root_.id L.id_
    obtain ⟨c0, c10, c2⟩ := _root_.id L.res
    obtain ⟨d0, d1, d2⟩ := _root_.id L.last_
    by_cases hle : y.peer ≤ last
    case pos =>
      have HF : Hid (fitsAt id hs i = false) := fitsAt_low (by rw [HG.out, HLA.out]; exact hle)
      gi_wp2_with (refine ⟨trivial, ?_⟩)
      obtain ⟨C', h2, h3⟩ := FIN.out _ _ true HF.out (Below.refl _ _) rfl; exact ⟨C', ⟨rfl, h2⟩, h3⟩
    case neg =>
      cases hf : y.fit id with
      | false =>
        have HF : Hid (fitsAt id hs i = false) := fitsAt_unfit (by rw [HG.out]; exact hf)
        gi_wp2_with (first
          | ((with_reducible show wpListIn _ _ _ _ _ (Oper.mk _ (Op.load 24 _) _ _ _ _ :: _) _ _); refine wpListIn_load24g (by rfl) rfl k (y.on a1 c1) rfl TK ?_)
          | (refine ⟨trivial, ?_⟩; gi_at_call 8; refine (CallsIn.inRound _ (callsIn_wide.2 (hfit_any id y a1 c1 _ R1))).mono ?_; rintro e w7 ⟨rfl, b7⟩; rw [hf]; have c0' := ((L.later b7).res).1; have c1' := ((L.later b7).res).2.1))
        obtain ⟨C', h2, h3⟩ := FIN.out _ _ true HF.out b7 rfl; exact ⟨C', ⟨rfl, h2⟩, h3⟩
      | true =>
        have HF : Hid (fitsAt id hs i = true) := fitsAt_ok (by rw [HG.out]; exact hf) (by rw [HG.out, HLA.out]; omega)
        gi_wp2_with (first
          | ((with_reducible show wpListIn _ _ _ _ _ (Oper.mk _ (Op.load 24 _) _ _ _ _ :: _) _ _); refine wpListIn_load24g (by rfl) rfl k (y.on a1 c1) rfl TK ?_)
          | (refine ⟨trivial, ?_⟩; gi_at_call 8; refine (CallsIn.inRound _ (callsIn_wide.2 (hfit_any id y a1 c1 _ R1))).mono ?_; rintro e w7 ⟨rfl, b7⟩; rw [hf]; have c0' := ((L.later b7).last_).1; have c1' := ((L.later b7).last_).2.1))
        have hz5 := HZ5.out
        refine ⟨C, ⟨?_, fun j hj => ?_⟩, turn_sets (by simpa [World.setCell] using b7.size) (fun b h4 h5 => (set_far rfl (by omega) _ _).trans (b7.block b h5)) hC'⟩
        · rw [prevP_succ, HG.out]
          exact (L.later b7).put (by omega) y.peer
        · by_cases e : j = i
          · rw [e]; exact HF.out
          · exact HOK.out j (by omega)
  case done =>
    rintro C W ⟨L, hok⟩ hK hC
    have HV : Hid (fitsB id hs = nodeB id) := fits_yes (fun j hj => hok j (by rw [HRS.out]; exact hj))
    obtain ⟨a0, a10, a2⟩ := _root_.id L.id_
    obtain ⟨c0, c1, c2⟩ := _root_.id L.res
    clear hok G L0
    gi_wp2_with (refine ⟨trivial, ?_⟩; gi_at_call 41; refine (callsIn_wide.2 (hnode_any id _)).mono ?_; rintro e w6 ⟨rfl, hw6⟩; rw [hw6]; clear hw6)
    have hz := HZ5.out
    have L2 := L.out (by omega) (nodeB id)
    have hK' := set_far (k := w.heap.size + 1) hK (by omega) 0 (.bool (nodeB id))
    refine ⟨by simp, .inl ⟨_, _, rfl, run_takeDeferred hK', ?_⟩⟩
    have q0 := (L2.res.putObj (l := w5.heap.size) (by omega) (.deferred none)).1
    refine ⟨_, results_row1 rfl _ _ (w.heap.size + 1) _ rfl (load_one 4 Try.underlying4 rfl q0), ?_, below_putObj L2.keep.below (by omega) _⟩
    rw [HV.out]
  case stop =>
    rintro cc C W ⟨rfl, hno, last, L⟩ hK hC
    have HV : Hid (fitsB id hs = false) := hno
    clear hno G L0
    gi_wp2
    have hz := HZ5.out
    refine ⟨by simp, .inl ⟨_, _, rfl, run_takeDeferred hK, ?_⟩⟩
    have q0 := (L.res.putObj (l := w5.heap.size) (by omega) (.deferred none)).1
    refine ⟨_, results_row1 rfl _ _ (w.heap.size + 1) _ rfl (load_one 4 Try.underlying4 rfl q0), ?_, below_putObj L.keep.below (by omega) _⟩
    rw [HV.out]
end Go.Proofs.Ytacefkchhcpgaaa
