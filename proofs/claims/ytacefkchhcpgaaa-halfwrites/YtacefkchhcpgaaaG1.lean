/-
  What the law HalfGrows comes to: its conditions.
-/
import Derived.Test.YtacefkchhcpgaaaG0
import Derived.Test.YtacefkchhcpgaaaF12
import Derived.Test.YtacefkchhcpgaaaC10
import Derived.Test.YtacefkchhcpgaaaMR
import Derived.Deep.DeepCutAuto
namespace Go.Proofs.Ytacefkchhcpgaaa
open Go.ChangeShapes Go.WideShapes Go.ChangeAt Go.RowKit
set_option linter.unusedVariables false
set_option linter.unusedSimpArgs false

theorem owns_later {W W' : World} {base e size : Nat} {v : Value} {n : Nat} {xs : List Value} (h : W.ownsRow base e size v n xs) (b : Below W.heap.size W W') : W'.ownsRow base e size v n xs := by
  refine ⟨h.1, h.2.imp id ?_⟩
  rintro ⟨g, cap, cur, e1, e2, hh, r⟩
  exact ⟨g, cap, cur, e1, e2, (b.block g (row_lt hh)).trans hh, r⟩
theorem owns_ne {W : World} {base e size : Nat} {v : Value} {n : Nat} {xs : List Value} (h : W.ownsRow base e size v n xs) {q t : Nat} {cs : Array Value} (hq : W.heap[q]? = some (.cells cs t (0, 0))) (ht : t ≠ e) : some q ≠ v.ownBlock := by
  rcases h.2 with ⟨rfl, _⟩ | ⟨g, cap, cur, rfl, _, hh, _⟩
  · simp [Value.ownBlock]
  · intro e'
    simp [Value.ownBlock] at e'
    subst e'
    rw [hh] at hq
    cases hq
    exact ht rfl
/-- The loop's state. -/
structure Gs (w : World) (CE : Array Value) (BX : Nat) (x : HS) (ax : Option Addr) (cx : Nat) (vm : Value) (ms : List RS) (W : World) : Prop where
  bx : Bx w [.cells CE 24] W
  cur : W.heap[BX]? = some (.cells (x.on ax cx).cells.toArray 24 (0, 0))
  lo : w.heap.size + 1 ≤ BX
  own : Own (w.heap.size + 1) W x ax cx
  row : W.ownsRow (w.heap.size + 1) 42 3 vm ms.length (csR ms)
theorem Gs.later {w : World} {CE : Array Value} {BX : Nat} {x : HS} {ax : Option Addr} {cx : Nat} {vm : Value} {ms : List RS} {W W' : World} (h : Gs w CE BX x ax cx vm ms W) (b : Below W.heap.size W W') : Gs w CE BX x ax cx vm ms W' :=
  ⟨h.bx.later b, (b.block _ (row_lt h.cur)).trans h.cur, h.lo, h.own.below b, owns_later h.row b⟩
theorem Gs.grow {w : World} {CE : Array Value} {BX : Nat} {x : HS} {ax : Option Addr} {cx : Nat} {vm v' : Value} {ms ms' : List RS} {W W' : World} (h : Gs w CE BX x ax cx vm ms W) (r : W.grownBy W' vm.ownBlock) (b : Below (w.heap.size + 1) W W') (o : W'.ownsRow (w.heap.size + 1) 42 3 v' ms'.length (csR ms')) : Gs w CE BX x ax cx v' ms' W' := by
  refine ⟨h.bx.later' b, (r.block BX (row_lt h.cur) (owns_ne h.row h.cur (by decide))).trans h.cur, h.lo, ⟨?_, h.own.new⟩, o⟩
  refine h.own.lst.of_block fun g off e => ?_
  rcases h.own.lst.mem with ⟨e', _⟩ | ⟨g', off', cur, e', hh, _⟩
  · rw [e'] at e; cases e
  · rw [e'] at e; cases e
    exact r.block g (row_lt hh) (owns_ne h.row hh (by decide))
theorem Gs.put {w : World} {CE : Array Value} {BX : Nat} {x y : HS} {ax ay : Option Addr} {cx cy : Nat} {vm : Value} {ms : List RS} {W : World} (h : Gs w CE BX x ax cx vm ms W) (o : Own (w.heap.size + 1) W y ay cy) : Gs w CE BX y ay cy vm ms (W.setRow BX (y.on ay cy).cells.toArray) := by
  have far : ∀ q, q ≠ BX → (W.setRow BX (y.on ay cy).cells.toArray).heap[q]? = W.heap[q]? := fun q hq => setRow_other _ _ _ _ hq
  have hlo := h.lo
  refine ⟨⟨(Only.setRow (C := none_) (Only.of_below h.bx.below) (fun k => absurd k (by omega)) _).calm, by rw [size_setRow]; exact h.bx.size, fun i ob hi => (far _ ?_).trans (h.bx.at_ i ob hi)⟩, setRow_heap _ _ _ _ _ _ h.cur, h.lo, ⟨o.lst.of_block fun g off e => far g ?_, o.new⟩, ?_⟩
  · have := (List.getElem?_eq_some_iff.1 hi).1
    simp at this
    omega
  · rintro rfl
    rcases o.lst.mem with ⟨e', _⟩ | ⟨g', off', cur, e', hh, _⟩
    · rw [e'] at e; cases e
    · rw [e'] at e; cases e
      rw [h.cur] at hh
      cases hh
  · refine ⟨h.row.1, h.row.2.imp id ?_⟩
    rintro ⟨g, cap, cur, e1, e2, hh, r⟩
    refine ⟨g, cap, cur, e1, e2, (far g ?_).trans hh, r⟩
    rintro rfl
    rw [h.cur] at hh
    cases hh
theorem Grw.step {id : Int} {h x : HS} {name : ByteArray} {ms : List RS} (g : Grw id h name x ms) (r : RS) :
    Grw id h name (x.mg id name r.v r.p r.f) (if fitB r.v r.p r.f id h.peer = true then ms ++ [r] else ms) ∧ (x.mg id name r.v r.p r.f).mgC id name r.v r.p r.f = false ∧
    sameB (regN name (x.mg id name r.v r.p r.f).ls).v (regN name (x.mg id name r.v r.p r.f).ls).p (regN name (x.mg id name r.v r.p r.f).ls).f (regN name x.ls).v (regN name x.ls).p (regN name x.ls).f = !x.mgC id name r.v r.p r.f ∧
    (x.mgC id name r.v r.p r.f = true → newB (regN name (x.mg id name r.v r.p r.f).ls).v (regN name (x.mg id name r.v r.p r.f).ls).p (regN name x.ls).v (regN name x.ls).p = true) := by
  cases hf : fitB r.v r.p r.f id h.peer with
  | false =>
    obtain ⟨e1, e2⟩ := mg_no (g.unfit hf)
    rw [e1, e2, if_neg (by decide)]
    exact ⟨g, rfl, by simp [sameB], fun k => by cases k⟩
  | true =>
    rw [if_pos rfl]
    cases hn : nw r (regN name x.ls).rs with
    | false =>
      obtain ⟨k1, k2⟩ := g.old hn
      obtain ⟨e1, e2⟩ := mg_no k1
      rw [e1, e2]
      exact ⟨k2, rfl, by simp [sameB], fun k => by cases k⟩
    | true =>
      obtain ⟨e1, e2, e3, e4, e5, e6⟩ := g.new hf hn
      rw [e1, e2, e3]
      exact ⟨e4, (mg_no e5).2, e6, fun _ => hn⟩
theorem rgs_of {W : World} {a : Option Addr} {n cap : Nat} {ds : List RS} (L : LstR W a n cap ds) (hn : n * 24 ≤ 140737488355328) : Rgs W a n ds := by
  have hs := L.size
  refine ⟨L.size, by omega, ?_⟩
  by_cases h0 : n = 0
  · exact .inl h0
  · obtain ⟨g, off, rfl, hg, _, _⟩ := (L.rd hn).at 0 (by omega)
    refine .inr ⟨g, off, rfl, hg, fun j hj => ?_⟩
    obtain ⟨g', off', e, _, hd, hr⟩ := (L.rd hn).at j (by omega)
    cases e
    rw [List.getD_eq_getElem?_getD, List.getElem?_eq_getElem hj] at hr
    exact hr
theorem exec_load42m {o : Oper} {ρ : Operand → Value} {x : Operand} (ho : o.op = .load 42 x) (g off : Nat) (v p f : Int) (hx : ρ x = .pointer (some ⟨g, off, none⟩)) (X : World) (hc : X.rangeAt g off [.int .i64 v, .int .i64 p, .int .i64 f]) : (execOp ρ o).run Try.prog X = .ok (.value (rg v p f)) X := exec_load42q ho g off ⟨v, p, f⟩ hx X hc

set_option maxRecDepth 100000 in
set_option maxHeartbeats 4000000 in
theorem grows_unfit (id : Int) (h : HS) (a : Option Addr) (c : Nat) (name : ByteArray) (la : Option Addr) (n lc : Nat) (l : List RS) (w : World) (R : RdO w h a c) (hr : Rgs w la n l) (hN : n * 24 ≤ 140737488351232) (hfit : h.fit id = false) : Calls Try.prog 6 #[.int .i64 id, .agg #[.int .i64 h.peer, .int .i64 h.boot, .int .i64 h.life, .slice a h.ls.length c, .bool h.pend, .int .i64 h.miss], .string name, .slice la n lc] w fun e w' => e = .returned (.bool true) ∧ Below w.heap.size w w' := by
  have K9 : ∀ W, RdO W h a c → Calls Try.prog 9 #[.int .i64 id, .agg #[.int .i64 h.peer, .int .i64 h.boot, .int .i64 h.life, .slice a h.ls.length c, .bool h.pend, .int .i64 h.miss]] W fun e w' => e = .returned (.bool (h.fit id)) ∧ Below W.heap.size W w' := fun W k => dfit_any id h a c W k
  have K31 : ∀ W, RdO W h a c → Calls Try.prog 31 #[.agg #[.int .i64 h.peer, .int .i64 h.boot, .int .i64 h.life, .slice a h.ls.length c, .bool h.pend, .int .i64 h.miss], .string name] W fun e w' => e = .returned (rg (regF name h.ls).v (regF name h.ls).p (regF name h.ls).f) ∧ Below W.heap.size W w' := fun W k => rreg_any h a c name W k
  have C0 := (Bx.nil w).add rfl (.cells #[.int .i64 h.peer, .int .i64 h.boot, .int .i64 h.life, .slice a h.ls.length c, .bool h.pend, .int .i64 h.miss] 24)
  have R0 := RdL.below R C0.below
  go_enter Try.func6, Try.ntmps6
  go_wp2_with (first
    | (go_at_call 9; refine (K9 _ R0).mono ?_; rw [hfit]; rintro e w1 ⟨rfl, b1⟩; clear K9; have C1 := C0.later b1; have R1 := RdL.below R0 b1; have ⟨p0, p1, p2, p3, p4, p5⟩ := cel6 (C1.at0 _ rfl))
    | (go_at_call 15; refine (awake_any _).mono ?_; rintro e w9 ⟨rfl, b9⟩))
  go_ret
  exact ⟨rfl, (C1.later b9).below⟩

set_option maxRecDepth 100000 in
set_option maxHeartbeats 4000000 in
theorem grows_noname (id : Int) (h : HS) (a : Option Addr) (c : Nat) (name : ByteArray) (la : Option Addr) (n lc : Nat) (l : List RS) (w : World) (R : RdO w h a c) (hr : Rgs w la n l) (hN : n * 24 ≤ 140737488351232) (hfit : h.fit id = true) (hname : nameB name = false) : Calls Try.prog 6 #[.int .i64 id, .agg #[.int .i64 h.peer, .int .i64 h.boot, .int .i64 h.life, .slice a h.ls.length c, .bool h.pend, .int .i64 h.miss], .string name, .slice la n lc] w fun e w' => e = .returned (.bool true) ∧ Below w.heap.size w w' := by
  have K9 : ∀ W, RdO W h a c → Calls Try.prog 9 #[.int .i64 id, .agg #[.int .i64 h.peer, .int .i64 h.boot, .int .i64 h.life, .slice a h.ls.length c, .bool h.pend, .int .i64 h.miss]] W fun e w' => e = .returned (.bool (h.fit id)) ∧ Below W.heap.size W w' := fun W k => dfit_any id h a c W k
  have K31 : ∀ W, RdO W h a c → Calls Try.prog 31 #[.agg #[.int .i64 h.peer, .int .i64 h.boot, .int .i64 h.life, .slice a h.ls.length c, .bool h.pend, .int .i64 h.miss], .string name] W fun e w' => e = .returned (rg (regF name h.ls).v (regF name h.ls).p (regF name h.ls).f) ∧ Below W.heap.size W w' := fun W k => rreg_any h a c name W k
  have C0 := (Bx.nil w).add rfl (.cells #[.int .i64 h.peer, .int .i64 h.boot, .int .i64 h.life, .slice a h.ls.length c, .bool h.pend, .int .i64 h.miss] 24)
  have R0 := RdL.below R C0.below
  go_enter Try.func6, Try.ntmps6
  go_wp2_with (first
    | (go_at_call 9; refine (K9 _ R0).mono ?_; rw [hfit]; rintro e w1 ⟨rfl, b1⟩; clear K9; have C1 := C0.later b1; have R1 := RdL.below R0 b1; have ⟨p0, p1, p2, p3, p4, p5⟩ := cel6 (C1.at0 _ rfl))
    | (go_at_call 28; refine (rname_any name _).mono ?_; rw [hname]; rintro e wx ⟨rfl, hwx⟩; rw [hwx]; clear hwx)
    | (go_at_call 15; refine (awake_any _).mono ?_; rintro e w9 ⟨rfl, b9⟩))
  go_ret
  exact ⟨rfl, (C1.later b9).below⟩

set_option maxRecDepth 100000 in
set_option maxHeartbeats 4000000 in
theorem grows_full (id : Int) (h : HS) (a : Option Addr) (c : Nat) (name : ByteArray) (la : Option Addr) (n lc : Nat) (l : List RS) (w : World) (R : RdO w h a c) (hr : Rgs w la n l) (hN : n * 24 ≤ 140737488351232) (hfit : h.fit id = true) (hname : nameB name = true) (hzr : zeroB (regF name h.ls).v (regF name h.ls).p (regF name h.ls).f = true) (h8 : (8 : Int) ≤ (h.ls.length : Int)) : Calls Try.prog 6 #[.int .i64 id, .agg #[.int .i64 h.peer, .int .i64 h.boot, .int .i64 h.life, .slice a h.ls.length c, .bool h.pend, .int .i64 h.miss], .string name, .slice la n lc] w fun e w' => e = .returned (.bool true) ∧ Below w.heap.size w w' := by
  have K9 : ∀ W, RdO W h a c → Calls Try.prog 9 #[.int .i64 id, .agg #[.int .i64 h.peer, .int .i64 h.boot, .int .i64 h.life, .slice a h.ls.length c, .bool h.pend, .int .i64 h.miss]] W fun e w' => e = .returned (.bool (h.fit id)) ∧ Below W.heap.size W w' := fun W k => dfit_any id h a c W k
  have K31 : ∀ W, RdO W h a c → Calls Try.prog 31 #[.agg #[.int .i64 h.peer, .int .i64 h.boot, .int .i64 h.life, .slice a h.ls.length c, .bool h.pend, .int .i64 h.miss], .string name] W fun e w' => e = .returned (rg (regF name h.ls).v (regF name h.ls).p (regF name h.ls).f) ∧ Below W.heap.size W w' := fun W k => rreg_any h a c name W k
  have C0 := (Bx.nil w).add rfl (.cells #[.int .i64 h.peer, .int .i64 h.boot, .int .i64 h.life, .slice a h.ls.length c, .bool h.pend, .int .i64 h.miss] 24)
  have R0 := RdL.below R C0.below
  go_enter Try.func6, Try.ntmps6
  go_wp2_with (first
    | (go_at_call 9; refine (K9 _ R0).mono ?_; rw [hfit]; rintro e w1 ⟨rfl, b1⟩; clear K9; have C1 := C0.later b1; have R1 := RdL.below R0 b1; have ⟨p0, p1, p2, p3, p4, p5⟩ := cel6 (C1.at0 _ rfl))
    | (go_at_call 28; refine (rname_any name _).mono ?_; rw [hname]; rintro e wx ⟨rfl, hwx⟩; rw [hwx]; clear hwx)
    | (go_at_call 31; refine (K31 _ R1).mono ?_; rintro e w2 ⟨rfl, b2⟩; have C2 := C1.later b2; have R2 := RdL.below R1 b2; have ⟨q0, q1, q2, q3, q4, q5⟩ := cel6 (C2.at0 _ rfl); clear R1 p0 p1 p2 p3 p4 p5)
    | ((with_reducible show wpList _ _ _ (Oper.mk _ (Op.binOp .eql 42 _ _ 42) _ _ _ _ :: _) _ _); refine wpList_eql42 (by rfl) rfl (regF name h.ls).v (regF name h.ls).p (regF name h.ls).f 0 0 0 rfl rfl ?_; rw [zero_same, hzr])
    | (go_at_call 15; refine (awake_any _).mono ?_; rintro e w9 ⟨rfl, b9⟩))
  go_ret
  exact ⟨rfl, (C2.later b9).below⟩
end Go.Proofs.Ytacefkchhcpgaaa
