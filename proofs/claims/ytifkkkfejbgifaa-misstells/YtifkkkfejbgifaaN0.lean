/-
  Package miss: a half-edge as a record to which things happen: what each comes to.
-/
import Derived.Test.YtifkkkfejbgifaaH8
import Derived.Test.YtifkkkfejbgifaaC9
namespace Go.Proofs.Ytifkkkfejbgifaa
open Go.ChangeShapes Go.WideShapes Go.ChangeAt Go.RowKit
set_option linter.unusedVariables false
set_option linter.unusedSimpArgs false

/-- What a turn makes of a half-edge, and what it tells. -/
def tnH (h : HS) : HS := if h.pend = true then (if h.miss + 1 ≥ 3 then HS.z else { h with miss := h.miss + 1 }) else { h with pend := true }
def tnW (h : HS) : Int := if h.pend = true then (if h.miss + 1 ≥ 3 then 2 else 1) else 1
def asH (h : HS) : HS := { h with pend := true }
def heH (h : HS) : HS := { h with miss := 0 }
def anH (h : HS) : HS := { h with miss := 0, pend := false }
def lfH (h : HS) : Int := if h.pend = true then 3 - h.miss else 4
/-- Misses as a fit half-edge has them. -/
def OkM (h : HS) : Prop := 0 ≤ h.miss ∧ h.miss < 3
theorem okM_fit {id : Int} {h : HS} (hf : h.fit id = true) : OkM h := by
  unfold HS.fit missB at hf
  simp at hf
  unfold OkM
  omega
theorem okM_tn {h : HS} (k : OkM h) : OkM (tnH h) := by
  unfold OkM at *
  unfold tnH
  split
  · split
    · exact ⟨Int.le_refl _, by decide⟩
    · exact ⟨by show 0 ≤ h.miss + 1; omega, by show h.miss + 1 < 3; omega⟩
  · exact k
theorem okM_as {h : HS} (k : OkM h) : OkM (asH h) := k
theorem okM_he (h : HS) : OkM (heH h) := ⟨Int.le_refl _, by show (0 : Int) < 3; decide⟩
theorem okM_an (h : HS) : OkM (anH h) := ⟨Int.le_refl _, by show (0 : Int) < 3; decide⟩

/-- A record in block g, whose lines are of its own. -/
structure Rec (base : Nat) (W : World) (g : Nat) (h : HS) : Prop where
  lo : base ≤ g
  mem : ∃ a c, W.heap[g]? = some (.cells (h.on a c).cells.toArray 46 (0, 0)) ∧ Own base W h a c
theorem Rec.below {base : Nat} {W W' : World} {g : Nat} {h : HS} (r : Rec base W g h) (b : Below W.heap.size W W') : Rec base W' g h := by
  obtain ⟨a, c, hh, o⟩ := r.mem
  exact ⟨r.lo, a, c, (b.block g (row_lt hh)).trans hh, o.below b⟩
theorem Rec.lt {base : Nat} {W : World} {g : Nat} {h : HS} (r : Rec base W g h) : g < W.heap.size := by
  obtain ⟨a, c, hh, o⟩ := r.mem
  exact row_lt hh
/-- The record changed: its lines stay. -/
theorem Rec.put {base : Nat} {W W' : World} {g : Nat} {h h' : HS} {a : Option Addr} {c : Nat} (lo : base ≤ g) (hh : W.heap[g]? = some (.cells (h.on a c).cells.toArray 46 (0, 0))) (o : Own base W h a c) (on : Only (at1 g) W W') (hl : h'.ls = h.ls)
    (h2 : W'.heap[g]? = some (.cells (h'.on a c).cells.toArray 46 (0, 0))) : Rec base W' g h' := by
  refine ⟨lo, a, c, h2, ?_, o.new⟩
  rw [hl]
  refine o.lst.of_block fun q off e => on.block q (o.lst.lt' e) ?_
  intro hq
  subst e
  exact o.lst.ne_cells hh (by decide) hq
theorem Rec.zero {base : Nat} {W' : World} {g : Nat} (lo : base ≤ g) (h2 : W'.heap[g]? = some (.cells (HS.z.on none 0).cells.toArray 46 (0, 0))) : Rec base W' g HS.z :=
  ⟨lo, none, 0, h2, lstL_nil _, fun q off e => by cases e⟩
set_option maxRecDepth 100000 in
set_option maxHeartbeats 4000000 in
theorem drop_any (g : Nat) (h : HS) (base : Nat) (w : World) (R : Rec base w g h) : Calls Try.prog 36 #[.pointer (some ⟨g, 0, none⟩)] w fun e w' => e = .returned (.int .i64 2) ∧ Rec base w' g HS.z ∧ Only (at1 g) w w' := by
  obtain ⟨lo, a, c, hh, o⟩ := R
  have ⟨p0, p1, p2, p3, p4, p5⟩ := cel6 hh
  have ⟨f0, f1, f2, f3, f4, f5⟩ := fre6 hh
  go_enter Try.func36, Try.ntmps36
  go_wp2
  go_ret
  refine ⟨rfl, Rec.zero lo (put6_heap hh _ _ _ _ _ _), ?_⟩
  exact (((((Only.refl _ _).set _ _).set _ _).set _ _).set _ _).set _ _ |>.set _ _
set_option maxRecDepth 100000 in
set_option maxHeartbeats 4000000 in
theorem turn_any (g : Nat) (h : HS) (base : Nat) (w : World) (R : Rec base w g h) (k : OkM h) : Calls Try.prog 25 #[.pointer (some ⟨g, 0, none⟩)] w fun e w' => e = .returned (.int .i64 (tnW h)) ∧ Rec base w' g (tnH h) ∧ Only (at1 g) w w' := by
  obtain ⟨lo, a, c, hh, o⟩ := R
  obtain ⟨peer, boot, life, ls, pend, miss⟩ := h
  have hh' : w.heap[g]? = some (.cells #[.int .i64 peer, .int .i64 boot, .int .i64 life, .slice a ls.length c, .bool pend, .int .i64 miss] 46 (0, 0)) := hh
  have ⟨p0, p1, p2, p3, p4, p5⟩ := cel6 hh'
  have ⟨f0, f1, f2, f3, f4, f5⟩ := fre6 hh'
  obtain ⟨k0, k1⟩ := k
  replace k0 : 0 ≤ miss := k0
  replace k1 : miss < 3 := k1
  have hwr : IntKind.i64.wrap (miss + 1) = miss + 1 := by rw [IntKind.wrap_i64]; omega
  cases pend with
  | true =>
    by_cases hm : miss + 1 ≥ 3
    · have O1 : Only (at1 g) w (w.setCell ⟨g, 5, none⟩ (.int .i64 (miss + 1))) := (Only.refl _ _).set _ _
      have R1 : Rec base (w.setCell ⟨g, 5, none⟩ (.int .i64 (miss + 1))) g ⟨peer, boot, life, ls, true, miss + 1⟩ := Rec.put lo hh o O1 rfl (set_row hh' 5 _)
      have e1 : tnW ⟨peer, boot, life, ls, true, miss⟩ = 2 := by unfold tnW; rw [if_pos rfl, if_pos hm]
      have e2 : tnH ⟨peer, boot, life, ls, true, miss⟩ = HS.z := by unfold tnH; rw [if_pos rfl, if_pos hm]
      rw [e1, e2]
      clear e1 e2 hh hh' o k0 k1
      go_enter Try.func25, Try.ntmps25
      go_wp2_with (go_at_call 36; refine (drop_any g _ base _ R1).mono ?_; rintro e w1 ⟨rfl, R2, O2⟩)
      go_ret
      exact ⟨rfl, R2, O1.trans O2⟩
    · have e1 : tnW ⟨peer, boot, life, ls, true, miss⟩ = 1 := by unfold tnW; rw [if_pos rfl, if_neg hm]
      have e2 : tnH ⟨peer, boot, life, ls, true, miss⟩ = ⟨peer, boot, life, ls, true, miss + 1⟩ := by unfold tnH; rw [if_pos rfl, if_neg hm]
      rw [e1, e2]
      clear e1 e2
      go_enter Try.func25, Try.ntmps25
      go_wp2
      go_ret
      have O1 : Only (at1 g) w ((w.setCell ⟨g, 5, none⟩ (.int .i64 (miss + 1))).setCell ⟨g, 4, none⟩ (.bool true)) := ((Only.refl _ _).set _ _).set _ _
      exact ⟨rfl, Rec.put lo hh o O1 rfl (set_row (set_row hh' 5 _) 4 _), O1⟩
  | false =>
    have e1 : tnW ⟨peer, boot, life, ls, false, miss⟩ = 1 := rfl
    have e2 : tnH ⟨peer, boot, life, ls, false, miss⟩ = ⟨peer, boot, life, ls, true, miss⟩ := rfl
    rw [e1, e2]
    clear e1 e2
    go_enter Try.func25, Try.ntmps25
    go_wp2
    go_ret
    have O1 : Only (at1 g) w (w.setCell ⟨g, 4, none⟩ (.bool true)) := (Only.refl _ _).set _ _
    exact ⟨rfl, Rec.put lo hh o O1 rfl (set_row hh' 4 _), O1⟩
set_option maxRecDepth 100000 in
set_option maxHeartbeats 4000000 in
theorem asked_any (g : Nat) (h : HS) (base : Nat) (w : World) (R : Rec base w g h) : Calls Try.prog 28 #[.pointer (some ⟨g, 0, none⟩)] w fun e w' => e = .returned (.int .i64 0) ∧ Rec base w' g (asH h) ∧ Only (at1 g) w w' := by
  obtain ⟨lo, a, c, hh, o⟩ := R
  have ⟨p0, p1, p2, p3, p4, p5⟩ := cel6 hh
  have ⟨f0, f1, f2, f3, f4, f5⟩ := fre6 hh
  go_enter Try.func28, Try.ntmps28
  go_wp2
  go_ret
  have O1 : Only (at1 g) w (w.setCell ⟨g, 4, none⟩ (.bool true)) := (Only.refl _ _).set _ _
  exact ⟨rfl, Rec.put lo hh o O1 rfl (set_row hh 4 _), O1⟩
set_option maxRecDepth 100000 in
set_option maxHeartbeats 4000000 in
theorem heard_any (g : Nat) (h : HS) (base : Nat) (w : World) (R : Rec base w g h) : Calls Try.prog 29 #[.pointer (some ⟨g, 0, none⟩)] w fun e w' => e = .returned (.int .i64 0) ∧ Rec base w' g (heH h) ∧ Only (at1 g) w w' := by
  obtain ⟨lo, a, c, hh, o⟩ := R
  have ⟨p0, p1, p2, p3, p4, p5⟩ := cel6 hh
  have ⟨f0, f1, f2, f3, f4, f5⟩ := fre6 hh
  go_enter Try.func29, Try.ntmps29
  go_wp2
  go_ret
  have O1 : Only (at1 g) w (w.setCell ⟨g, 5, none⟩ (.int .i64 0)) := (Only.refl _ _).set _ _
  exact ⟨rfl, Rec.put lo hh o O1 rfl (set_row hh 5 _), O1⟩
set_option maxRecDepth 100000 in
set_option maxHeartbeats 4000000 in
theorem answered_any (g : Nat) (h : HS) (base : Nat) (w : World) (R : Rec base w g h) : Calls Try.prog 30 #[.pointer (some ⟨g, 0, none⟩)] w fun e w' => e = .returned (.int .i64 0) ∧ Rec base w' g (anH h) ∧ Only (at1 g) w w' := by
  obtain ⟨lo, a, c, hh, o⟩ := R
  have ⟨p0, p1, p2, p3, p4, p5⟩ := cel6 hh
  have ⟨f0, f1, f2, f3, f4, f5⟩ := fre6 hh
  go_enter Try.func30, Try.ntmps30
  go_wp2
  go_ret
  have O1 : Only (at1 g) w ((w.setCell ⟨g, 5, none⟩ (.int .i64 0)).setCell ⟨g, 4, none⟩ (.bool false)) := ((Only.refl _ _).set _ _).set _ _
  exact ⟨rfl, Rec.put lo hh o O1 rfl (set_row (set_row hh 5 _) 4 _), O1⟩
/-- A half-edge in a list of one's own. -/
theorem hs_one {W : World} {g : Nat} {h : HS} {a : Option Addr} {c : Nat} (R : RdO W h a c) (hh : W.heap[g]? = some (.cells (h.on a c).cells.toArray 24 (0, 0))) : Hs W (some ⟨g, 0, none⟩) 1 1 [h] := by
  refine ⟨rfl, [h.on a c], ⟨rfl, Nat.le_refl _, by omega, .inr (.inr ⟨g, 0, rfl, row_lt hh, ?_⟩)⟩, fun i hi => ?_⟩
  · have := range_rowH hh
    simpa [csH] using this
  · have : i = 0 := by omega
    subst this
    exact ⟨a, c, rfl, R⟩
theorem cpy_one {w : World} {h : HS} {v : Value} {es : List HR} {W : World} (C : Cpy w [h] 1 v es W) : ∃ g off cc a c, v = .slice (some ⟨g, off, none⟩) 1 cc ∧ W.rangeAt g off (h.on a c).cells ∧ Own w.heap.size W h a c := by
  obtain ⟨A, cc, e, L, _⟩ := own_lstH C.row C.len
  obtain ⟨a, c, e1, o⟩ := C.each 0 (by omega)
  obtain ⟨g, off, rfl, _, _, hr⟩ := (L.rd (by omega)).at 0 (by omega)
  rw [e1] at hr
  exact ⟨g, off, cc, a, c, e, by simpa using hr, o⟩
set_option maxRecDepth 100000 in
set_option maxHeartbeats 4000000 in
theorem hold_any (h : HS) (a : Option Addr) (c : Nat) (w : World) (R : RdO w h a c) : Calls Try.prog 24 #[(h.on a c).val] w fun e w' => ∃ g, e = .returned (.pointer (some ⟨g, 0, none⟩)) ∧ Rec w.heap.size w' g h ∧ Below w.heap.size w w' := by
  obtain ⟨peer, boot, life, ls, pend, miss⟩ := h
  dsimp only [HS.on, HR.val, RdO] at R ⊢
  have C0 := ((Bx.nil w).add rfl (.cells #[.int .i64 peer, .int .i64 boot, .int .i64 life, .slice a ls.length c, .bool pend, .int .i64 miss] 24)).add (by simp) (.cells #[.int .i64 peer, .int .i64 boot, .int .i64 life, .slice a ls.length c, .bool pend, .int .i64 miss] 24)
  have R1 := R.below C0.below
  have T1 : ((w.alloc (.cells #[.int .i64 peer, .int .i64 boot, .int .i64 life, .slice a ls.length c, .bool pend, .int .i64 miss] 24)).alloc (.cells #[.int .i64 peer, .int .i64 boot, .int .i64 life, .slice a ls.length c, .bool pend, .int .i64 miss] 24)).heap[w.heap.size + 1]? = some (.cells (HS.on ⟨peer, boot, life, ls, pend, miss⟩ a c).cells.toArray 24 (0, 0)) := C0.at_ 1 _ rfl
  go_enter Try.func24, Try.ntmps24
  go_wp2_with (first
    | (go_at_call 35; refine (hcopy_any _ _ [⟨peer, boot, life, ls, pend, miss⟩] _ (hs_one R1 T1)).mono ?_; rintro e w1 ⟨v1, es, rfl, Y⟩; obtain ⟨g, off, cc, a1, c1, rfl, r1, O1⟩ := cpy_one Y)
    | ((with_reducible show wpList _ _ _ (Oper.mk _ (Op.load 24 (Operand.tmp 6)) _ _ _ _ :: _) _ _); refine wpList_load24 rfl _ rfl g off (HS.on ⟨peer, boot, life, ls, pend, miss⟩ a1 c1) rfl r1 ?_; dsimp only [HS.on, HR.val]))
  go_ret
  have b1 : Below w.heap.size w w1 := C0.below.trans (Y.below.mono C0.below.size)
  refine ⟨w1.heap.size, rfl, ⟨b1.size, a1, c1, heap_new rfl, ?_⟩, b1.alloc b1.size _⟩
  exact (O1.mono C0.below.size).below ((Below.refl _ _).alloc (Nat.le_refl _) _)
end Go.Proofs.Ytifkkkfejbgifaa
